/- The reference's greatest common divisor. -/
import Derived.Test.YtccflamengaokaaSde
namespace Go.Proofs.Ytccflamengaokaa
open Go.RowKit
open Go.Lib (hid)
set_option linter.unusedVariables false

set_option maxRecDepth 100000 in
set_option maxHeartbeats 800000 in
theorem l02Plain_any (a b : Int) (ha : 0 ≤ a) (hb : 0 ≤ b) (ha1 : a ≤ 9223372036854775807) (hb1 : b ≤ 9223372036854775807) (w : World) :
    Calls Try.prog 69 #[.int .i64 a, .int .i64 b] w (OwnP (rep (G a b).toNat) w) := by
  obtain ⟨g, hg⟩ : ∃ g, g = G a b := ⟨_, rfl⟩
  have HG := hid hg.symm
  have hgl := hid (show g ≤ 9223372036854775807 by
    have := G_le ha hb (show a < 9223372036854775808 by omega) (show b < 9223372036854775808 by omega)
    omega)
  rw [← hg]
  clear hg
  have KN := hid (fun W => spec_NatOf g hgl.out W)
  have S0 := hid (show 0 ≤ a ∧ 0 ≤ b ∧ a ≤ 9223372036854775807 ∧ b ≤ 9223372036854775807 from ⟨ha, hb, ha1, hb1⟩)
  clear ha hb ha1 hb1
  go_enter Try.func69, Try.ntmps69
  go_wp2
  go_loopw [0, 1] (fun x y wr => ∃ (p q : Int) (d : Nat), x = .int .i64 p ∧ y = .int .i64 q ∧ Hid (0 ≤ p ∧ 0 ≤ q ∧ p ≤ 9223372036854775807 ∧ q ≤ 9223372036854775807) ∧ Hid (G p q = g) ∧ wr = w.drewN d) (fun _ y _ => (intOf y).toNat)
  case atStart => exact ⟨a, b, 0, rfl, rfl, S0, HG, rfl⟩
  case round =>
    obtain ⟨p, q, d, rfl, rfl, hs, hgg, rfl⟩ := hrel
    obtain ⟨p0, q0, p1, q1⟩ := hs.out
    by_cases hq : 0 < q
    · have hqn : q ≠ 0 := by omega
      have hqb : (q == 0) = false := beq_eq_false_iff_ne.2 hqn
      have HS := hid (G_rec p0 hq)
      have m0 := Int.emod_nonneg p hqn
      have m1 := Int.emod_lt_of_pos p hq
      have et : p.tmod q = p % q := Int.tmod_eq_emod_of_nonneg p0
      obtain ⟨m, hm⟩ : ∃ m, m = p % q := ⟨_, rfl⟩
      rw [← hm] at HS m0 m1 et
      have em : p % q = m := hm.symm
      have wm : IntKind.i64.wrap m = m := IntWalk.i64_in _ (by omega)
      clear hm
      go_wp2
      go_roundw
      case rel => exact ⟨q, m, d, rfl, rfl, hid ⟨q0, m0, q1, by omega⟩, hid (HS.out.trans hgg.out), rfl⟩
      case measure => simp [intOf]; omega
    · have hq0 : q = 0 := by omega
      have hE := hid (show g = p by rw [← hgg.out, hq0]; exact (G_zero p0))
      subst hq0
      rw [hE.out] at KN
      go_wp2_with fail
      (with_reducible refine (KN.out _).mono ?_)
      rintro e w1 ⟨v, rfl, hi, hb⟩
      go_wp2
      go_ret
      rw [hE.out]
      exact ⟨v, rfl, hi, (below_drewN (Below.refl w.heap.size w) d).trans hb⟩
end Go.Proofs.Ytccflamengaokaa
