/- The program's product. -/
import Derived.Test.YtdffmeinofgdgaaImp
import Derived.Test.YtdffmeinofgdgaaToI
namespace Go.Proofs.Ytdffmeinofgdgaa
open Go.RowKit
open Go.Lib (hid)
set_option linter.unusedVariables false


def mulR (A B : List Int) : List Int := if nok A && nok B then capped (val A * val B) else []
theorem mulR_no {A B : List Int} (h : nok A = false ∨ nok B = false) : mulR A B = [] := by
  unfold mulR; rcases h with h | h <;> simp [h]
theorem mulR_yes {A B : List Int} (h : nok A = true) (h' : nok B = true) : mulR A B = capped (val A * val B) := by simp [mulR, h, h']
theorem mul_lt {A B : List Int} (hA : Lim A) (hB : Lim B) (nA : A.length ≤ 60) (nB : B.length ≤ 60) (k : Nat) : val (A.take k) * val B < pw 120 ∧ 0 ≤ val (A.take k) * val B := by
  have h1 := val_lt (Lim_take hA k)
  have h2 := val_lt hB
  have h3 := val_nonneg (Lim_take hA k)
  have h4 := val_nonneg hB
  have h5 := pw_le (m := (A.take k).length) (n := 60) (by rw [List.length_take]; omega)
  have h6 := pw_le (m := B.length) (n := 60) (by omega)
  refine ⟨?_, Int.mul_nonneg h3 h4⟩
  have e : pw 120 = pw 60 * pw 60 := pw_add 60 60
  rw [e]
  calc val (A.take k) * val B ≤ val (A.take k) * pw 60 := Int.mul_le_mul_of_nonneg_left (by omega) h3
    _ < pw 60 * pw 60 := Int.mul_lt_mul_of_pos_right (by omega) (pw_pos 60)
theorem rep_len' {V : Int} {n : Nat} (h : V < pw n) : (rep V.toNat).length ≤ n := by
  refine (Can_len (Can_rep _)).2 ?_
  rw [val_rep]
  have := pw_pos n
  omega
theorem val_rep' {V : Int} (h : 0 ≤ V) : val (rep V.toNat) = V := by rw [val_rep]; omega
theorem mul_one_step {A B : List Int} {k : Nat} (hk : k < A.length) : val (A.take k) * val B + A[k] * val B * pw k = val (A.take (k + 1)) * val B := by
  rw [val_take_succ hk]; grind
theorem Ints_make0 {w : World} (c : Nat) (hc : c ≤ maxLen) : Ints (w.alloc (.cells (madeCells #[.int .i64 0] c) 3)) w.heap.size (.slice (some ⟨w.heap.size, 0, none⟩) 0 c) [] :=
  World.ownsRow_made w _ c (Nat.le_refl _) hc (by simp [madeCells])

end Go.Proofs.Ytdffmeinofgdgaa
