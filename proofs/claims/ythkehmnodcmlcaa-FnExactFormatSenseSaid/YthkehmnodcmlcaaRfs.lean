/- The signs of rows: FormatSense of both sides, the law. -/
import Derived.Test.YthkehmnodcmlcaaRwb
import Derived.Deep.RegionHeld3
import Derived.Deep.DeepCutAuto
namespace Go.Proofs.Ythkehmnodcmlcaa
open Go.RowKit
open Go.Lib (hid)
set_option linter.unusedVariables false

def fmtS (x : Int) : ByteArray := if x = 1 then ⟨#[60, 61]⟩ else if x = 2 then ⟨#[62, 61]⟩ else if x = 3 then ⟨#[61]⟩ else ⟨#[]⟩
set_option maxRecDepth 100000 in
set_option maxHeartbeats 6400000 in
theorem impl_FormatSense (x : Int) (w : World) : Calls Try.prog 16 #[.int .i64 x] w (RetB (.string (fmtS x)) w) := by
  by_cases h1 : x = 1
  · subst h1
    go_enter Try.func16, Try.ntmps16
    go_wp2
    go_ret
    exact ⟨rfl, Below.refl _ _⟩
  have u1 : (x == 1) = false := beq_eq_false_iff_ne.2 h1
  by_cases h2 : x = 2
  · subst h2
    go_enter Try.func16, Try.ntmps16
    go_wp2
    go_ret
    exact ⟨rfl, Below.refl _ _⟩
  have u2 : (x == 2) = false := beq_eq_false_iff_ne.2 h2
  by_cases h3 : x = 3
  · subst h3
    go_enter Try.func16, Try.ntmps16
    go_wp2
    go_ret
    exact ⟨rfl, Below.refl _ _⟩
  have u3 : (x == 3) = false := beq_eq_false_iff_ne.2 h3
  have HF := hid (show fmtS x = ⟨#[]⟩ by unfold fmtS; rw [if_neg h1, if_neg h2, if_neg h3])
  rw [HF.out]
  go_enter Try.func16, Try.ntmps16
  go_wp2
  go_ret
  exact ⟨rfl, Below.refl _ _⟩
set_option maxRecDepth 100000 in
set_option maxHeartbeats 6400000 in
theorem spec_FormatSense (x : Int) (w : World) : Calls Try.prog 15 #[.int .i64 x] w (RetB (.string (fmtS x)) w) := by
  by_cases hx : 1 ≤ x ∧ x ≤ 3
  · have h3 : x = 1 ∨ x = 2 ∨ x = 3 := by omega
    rcases h3 with rfl | rfl | rfl
    all_goals
      go_enter Try.func15, Try.ntmps15
      go_wp2_with fail
      (with_reducible refine (l01In_any _ 1 3 _).mono ?_)
      rintro e w1 ⟨rfl, rfl⟩
      go_wp2
      go_ret
      exact ⟨rfl, (Below.refl _ _).alloc (Nat.le_refl _) _⟩
  · have HF := hid (show fmtS x = ⟨#[]⟩ by unfold fmtS; rw [if_neg (by omega), if_neg (by omega), if_neg (by omega)])
    have HB := hid (show (decide (1 ≤ x) && decide (x ≤ 3)) = false by
      rw [Bool.eq_false_iff]; intro h; simp only [Bool.and_eq_true, decide_eq_true_eq] at h; exact hx h)
    have KL := hid (fun (W : World) => l01In_any x 1 3 W)
    rw [HB.out] at KL
    rw [HF.out]
    clear hx
    go_enter Try.func15, Try.ntmps15
    go_wp2_with fail
    (with_reducible refine (KL.out _).mono ?_)
    rintro e w1 ⟨rfl, rfl⟩
    go_wp2
    go_ret
    exact ⟨rfl, Below.refl _ _⟩
set_option maxRecDepth 100000 in
set_option maxHeartbeats 6400000 in
theorem law_FormatSense (x : Int) (w : World) : Calls Try.prog 5 #[.int .i64 x] w (RetB (.bool true) w) := by
  have KS := hid (fun (W : World) => spec_FormatSense x W)
  have KI := hid (fun (W : World) => impl_FormatSense x W)
  generalize fmtS x = r at KS KI
  go_enter Try.func5, Try.ntmps5
  go_wp2_with fail
  (with_reducible refine (KS.out _).mono ?_)
  rintro e w1 ⟨rfl, b1⟩
  have B := hid b1
  clear b1
  go_wp2_with fail
  (with_reducible refine (KI.out _).mono ?_)
  rintro e w2 ⟨rfl, b1⟩
  have B := hid (B.out.trans (b1.mono B.out.size))
  clear b1
  go_wp2
  go_ret
  exact ⟨rfl, B.out⟩
end Go.Proofs.Ythkehmnodcmlcaa
