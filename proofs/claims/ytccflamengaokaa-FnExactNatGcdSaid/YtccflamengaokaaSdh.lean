/- The reference's NatGcd. -/
import Derived.Test.YtccflamengaokaaSdg
namespace Go.Proofs.Ytccflamengaokaa
open Go.RowKit
open Go.Lib (hid)
set_option linter.unusedVariables false

set_option maxRecDepth 100000 in
set_option maxHeartbeats 3200000 in
theorem spec_NatGcd (v u : Value) (A B : List Int) (hA : A.length ≤ 1073741824) (hB : B.length ≤ 1073741824) (b1 b2 : Nat) (w : World) (h1 : Ints w b1 v A) (h2 : Ints w b2 u B) :
    Calls Try.prog 37 #[v, u] w (OwnP (gcdR A B) w) := by
  have I1 := hid h1
  have I2 := hid h2
  obtain ⟨a, c, rfl, r1, -⟩ := slice_own h1
  obtain ⟨a', c', rfl, r2, -⟩ := slice_own h2
  have K1 := hid (spec_NatOk _ _ c A hA w r1)
  have K2 := hid (spec_NatOk _ _ c' B hB w r2)
  clear h1 h2 r1 r2
  obtain ⟨R, hR⟩ : ∃ R, R = gcdR A B := ⟨_, rfl⟩
  have HR := hid hR
  rw [← hR]
  clear hR
  cases e1 : nok A with
  | false =>
    have hE := hid (HR.out.trans (gcdR_no (.inl e1)))
    rw [e1] at K1
    clear e1
    go_enter Try.func37, Try.ntmps37
    go_wp2_with fail
    refine K1.out.mono ?_
    rintro e w1 ⟨rfl, rfl⟩
    go_wp2
    go_ret
    exact OwnP_mk rfl rfl (by rw [hE.out]; exact Ints_nil _ _) (Below.refl _ _)
  | true =>
    cases e2 : nok B with
    | false =>
      have hE := hid (HR.out.trans (gcdR_no (.inr e2)))
      rw [e1] at K1
      rw [e2] at K2
      clear e1 e2
      go_enter Try.func37, Try.ntmps37
      go_wp2_with fail
      refine K1.out.mono ?_
      rintro e w1 ⟨rfl, rfl⟩
      go_wp2_with fail
      refine K2.out.mono ?_
      rintro e w1 ⟨rfl, rfl⟩
      go_wp2
      go_ret
      exact OwnP_mk rfl rfl (by rw [hE.out]; exact Ints_nil _ _) (Below.refl _ _)
    | true =>
      have hE := hid (HR.out.trans (gcdR_yes e1 e2))
      have KG := hid (l02Gcd_any _ _ A B (nok_len e1) (nok_len e2) (nok_iff.1 e1).2 (nok_iff.1 e2).2 _ _ w I1.out I2.out)
      rw [← hE.out] at KG
      rw [e1] at K1
      rw [e2] at K2
      clear e1 e2
      go_enter Try.func37, Try.ntmps37
      go_wp2_with fail
      refine K1.out.mono ?_
      rintro e w1 ⟨rfl, rfl⟩
      go_wp2_with fail
      refine K2.out.mono ?_
      rintro e w1 ⟨rfl, rfl⟩
      go_wp2_with fail
      (with_reducible refine KG.out.mono ?_)
      rintro e w2 ⟨x, rfl, i1, hb⟩
      go_wp2
      go_ret
      exact ⟨_, rfl, i1, hb⟩
end Go.Proofs.Ytccflamengaokaa
