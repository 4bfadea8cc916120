/- Merged: Fla Flb Fls Flw. -/
import Derived.Test.YtmghoedjcokhpaaRo
import Derived.Test.YtmghoedjcokhpaaFe
import Derived.Test.YtmghoedjcokhpaaFdm
import Derived.Deep.RegionHeld3
import Derived.Deep.DeepCutAuto
import Derived.Test.YtmghoedjcokhpaaSra
/- The program: floors, the ways of rounding. -/
namespace Go.Proofs.Ytmghoedjcokhpaa
open Go.RowKit
open Go.Lib (hid)
set_option linter.unusedVariables false

/-- A call gives the floor of x, as an integer, and a rest. -/
def FloP (x : Rat) (w : World) (e : Ending) (w' : World) : Prop := ∃ a n c b m d, e = .returned (.tuple #[.agg #[.bool (gzs x.floor), .slice a n c], .slice b m d]) ∧ Ints w' w.heap.size (.slice a n c) (gzl x.floor) ∧ Below w.heap.size w w'
theorem fdQ_floor {s : Bool} {A D : List Int} {x : Rat} (h : rval s A D = some x) : fdQ s A D = x.floor := by
  have hr : rok s A D = true := by rw [rok_isSome, h]; rfl
  obtain ⟨y, e, n1, d1, -⟩ := rval_yes hr
  rw [h] at e
  cases e
  obtain ⟨k1, k2, k3, -⟩ := rok_iff.1 hr
  rw [Rat.floor_def, n1, d1]
  have hb : fdB s A D = true := by
    unfold fdB
    simp [k1, k2]
    intro e
    subst e
    simp at k3
  unfold fdQ
  rw [if_pos hb]
theorem RetB_mk {v : Value} {w w' : World} (h : Below w.heap.size w w') : RetB v w (.returned v) w' := ⟨rfl, h⟩
theorem RO_floor {p : Bool} {x : Rat} {w : World} {lo : Nat} {v u : Value} (hf : fit x) (h1 : Ints w lo v (gzl x.floor)) (h2 : Ints w lo u (rep (1 : Int).toNat)) (nd : ∀ k, v.ownBlock = some k → u.ownBlock ≠ some k) : RO p w lo (gzs x.floor) v u (floorO (some x)) :=
  ⟨rfl, h1, by rw [← gzl_one] at h2; exact h2, fun _ => nd, fitO_some (fit_fl hf)⟩
end Go.Proofs.Ytmghoedjcokhpaa

/- The program: rounding by its ways; floors, ceilings, the nearest integer, distances, counts. -/
namespace Go.Proofs.Ytmghoedjcokhpaa
open Go.RowKit
open Go.Lib (hid)
set_option linter.unusedVariables false

end Go.Proofs.Ytmghoedjcokhpaa

/- The reference: floors, ceilings, the nearest integer, distances, counts. -/
namespace Go.Proofs.Ytmghoedjcokhpaa
open Go.RowKit
open Go.Lib (hid)
set_option linter.unusedVariables false

theorem max_sgn (x : Rat) : (sgn x.num < 0 → some (-x) = some (maxF x (-x))) ∧ (¬ sgn x.num < 0 → some x = some (maxF x (-x))) := by
  have key : sgn x.num < 0 ↔ cmpF x (-x) = -1 := by
    have h0 : sgn x.num = cmpF x 0 := by
      have := cmpF_sub x 0
      rw [show x - 0 = x by rw [Rat.sub_eq_add_neg, Rat.neg_zero, Rat.add_zero]] at this
      exact this
    rw [h0]
    have e1 : (x < 0) ↔ (x < -x) := by
      constructor
      · intro h
        have h2 : 0 < -x := by have := Rat.neg_lt_neg_iff.2 h; rwa [Rat.neg_zero] at this
        exact Rat.lt_iff_le_and_not_ge.2 ⟨Rat.le_of_lt (rat_lt_trans h h2), fun e => (Rat.lt_iff_le_and_not_ge.1 (rat_lt_trans h h2)).2 e⟩
      · intro h
        by_cases e : x < 0
        · exact e
        · have h1 : 0 ≤ x := Rat.not_lt.1 e
          have h2 : -x ≤ 0 := by have := Rat.neg_le_neg h1; rwa [Rat.neg_zero] at this
          exact absurd (Rat.le_trans h2 h1) ((Rat.lt_iff_le_and_not_ge.1 h).2)
    unfold cmpF
    by_cases h1 : x < 0
    · simp [h1, e1.1 h1]
    · have h2 : ¬ x < -x := fun h => h1 (e1.2 h)
      simp only [h1, h2, if_false]
      constructor
      · intro h
        split at h <;> omega
      · intro h
        split at h <;> omega
  unfold maxF
  exact ⟨fun h => by rw [if_pos (key.1 h)], fun h => by rw [if_neg (fun e => h (key.2 e))]⟩
end Go.Proofs.Ytmghoedjcokhpaa

/- The functions on fractions of chapter 6, in the laws' words. -/
namespace Go.Proofs.Ytmghoedjcokhpaa
open Go.RowKit
open Go.Lib (hid)
set_option linter.unusedVariables false

set_option maxRecDepth 100000 in
set_option maxHeartbeats 3200000 in
theorem impl_RatIsInt (s : Bool) (v u : Value) (A D : List Int) (w : World) (h : RL w v u A D) :
    Calls Try.prog 43 #[.agg #[.bool s, v, u]] w (RetB (.bool (rok s A D && decide (D = [1]))) w) := by
  have hD : D.length ≤ 1073741824 := by have := h.ld; omega
  have KO := hid (fun (W : World) (h : RL W v u A D) => impl_RatOk s v u A D W h)
  have K1 := hid (fun (W : World) (b : Nat) (h : Ints W b u D) => isOne_own u D hD b W h)
  obtain ⟨p, hp⟩ : ∃ p, p = rok s A D := ⟨_, rfl⟩
  obtain ⟨q, hq⟩ : ∃ q, q = decide (D = [1]) := ⟨_, rfl⟩
  rw [← hp] at KO ⊢
  rw [← hq] at K1 ⊢
  clear hp hq
  obtain ⟨a, c, b, d, rfl, rfl⟩ := h.form
  have B := hid (below_new' (w := w) (o := .cells #[.bool s, .slice a A.length c, .slice b D.length d] 45))
  have LX := hid (LocA.at (T := 45) (w := w) (b := w.heap.size) (cs := #[.bool s, .slice a A.length c, .slice b D.length d]) rfl)
  have H := hid (h.old B.out)
  clear h
  generalize hW : w.alloc (.cells #[.bool s, .slice a A.length c, .slice b D.length d] 45) = W0 at B LX H
  have HW := hid hW
  clear hW
  cases p with
  | false =>
    go_enter Try.func43, Try.ntmps43
    go_wp2_with fail
    rw [HW.out]
    (with_reducible refine (KO.out _ H.out).mono ?_)
    rintro e w1 ⟨rfl, hb⟩
    have B := hid (B.out.trans (hb.mono B.out.size))
    clear hb
    go_wp2
    go_ret
    exact ⟨rfl, B.out⟩
  | true =>
    go_enter Try.func43, Try.ntmps43
    go_wp2_with fail
    rw [HW.out]
    (with_reducible refine (KO.out _ H.out).mono ?_)
    rintro e w1 ⟨rfl, hb⟩
    have LX := hid (LX.out.old hb)
    have H := hid (H.out.old hb)
    have B := hid (B.out.trans (hb.mono B.out.size))
    obtain ⟨bx, ix⟩ := H.out.d
    have q0 := LX.out.c 2 (v := .slice b D.length d) rfl
    clear hb
    go_wp2_with fail
    (with_reducible refine (K1.out _ _ ix).mono ?_)
    rintro e w2 ⟨rfl, rfl⟩
    clear q0 ix
    go_wp2
    go_ret
    exact ⟨ret_bo (by simp), B.out⟩
end Go.Proofs.Ytmghoedjcokhpaa
