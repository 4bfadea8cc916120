/- The reference's sum, difference and product. -/
import Derived.Test.YtdlkiklhffafhabDoorImq
namespace Go.Proofs.YtdlkiklhffafhabDoor
open Go.RowKit
open Go.Lib (hid)
set_option linter.unusedVariables false

/-- A slice of the call's own whose limbs have the value V, at most n of them. -/
def OwnV (V : Int) (n : Nat) (w : World) (e : Ending) (w' : World) : Prop := ∃ M, Lim M ∧ val M = V ∧ M.length ≤ n ∧ OwnP M w e w'
theorem OwnV_mk {V : Int} {n : Nat} {M : List Int} {w w' : World} {e : Ending} {v : Value} {B : Nat} (hL : Lim M) (hV : val M = V) (hn : M.length ≤ n) (hB : B = w.heap.size) (he : e = .returned v) (h : Ints w' B v M) (hb : Below B w w') : OwnV V n w e w' :=
  ⟨M, hL, hV, hn, OwnP_mk hB he h hb⟩
theorem snoc_step {P : List Int} {k : Nat} (hk : P.length = k) (x : Int) : val (P ++ [x % 1000000000]) + (x / 1000000000) * pw (k + 1) = val P + x * pw k := by
  rw [val_append, hk]
  have e : x = 1000000000 * (x / 1000000000) + x % 1000000000 := by omega
  have h : val [x % 1000000000] = x - (x / 1000000000) * 1000000000 := by simp only [val]; omega
  rw [h]
  simp only [pw]
  grind
theorem take_more {A : List Int} (k : Nat) : val (A.take (k + 1)) = val (A.take k) + pw k * A.getD k 0 := by
  by_cases hk : k < A.length
  · rw [val_take_succ hk]; simp [hk]
  · rw [List.take_of_length_le (by omega), List.take_of_length_le (by omega)]
    simp [List.getD, List.getElem?_eq_none (show A.length ≤ k by omega)]
theorem getD_lim {A : List Int} (h : Lim A) (k : Nat) : 0 ≤ A.getD k 0 ∧ A.getD k 0 < 1000000000 := by
  by_cases hk : k < A.length
  · have := Lim_at h hk; simpa [hk] using this
  · simp [List.getD, List.getElem?_eq_none (show A.length ≤ k by omega)]
theorem getD_in {A : List Int} {k : Nat} (hk : k < A.length) : A.getD k 0 = A[k] := by simp [hk]
theorem getD_out {A : List Int} {k : Nat} (hk : ¬ k < A.length) : A.getD k 0 = 0 := by simp [List.getD, List.getElem?_eq_none (show A.length ≤ k by omega)]
theorem sum_step {P A B : List Int} {k : Nat} {c x : Int} (hk : P.length = k) (h : val P + c * pw k = val (A.take k) + val (B.take k)) (hx : x = c + A.getD k 0 + B.getD k 0) :
    val (P ++ [x % 1000000000]) + (x / 1000000000) * pw (k + 1) = val (A.take (k + 1)) + val (B.take (k + 1)) := by
  rw [snoc_step hk, take_more, take_more, hx]; grind
theorem sum_end {P A B : List Int} {k : Nat} {c : Int} (h : val P + c * pw k = val (A.take k) + val (B.take k)) (hA : A.length ≤ k) (hB : B.length ≤ k) (hc : c = 0) : val P = val A + val B := by
  subst hc
  rw [List.take_of_length_le hA, List.take_of_length_le hB] at h
  simpa using h

end Go.Proofs.YtdlkiklhffafhabDoor
