/- The reference's NatDiv. -/
import Derived.Test.YtccflamengaokaaSdd
import Derived.Test.YtccflamengaokaaLAdd
namespace Go.Proofs.Ytccflamengaokaa
open Go.RowKit
open Go.Lib (hid)
set_option linter.unusedVariables false

set_option maxRecDepth 100000 in
set_option maxHeartbeats 3200000 in
theorem spec_NatDiv (a a' : Option Addr) (n n' c c' : Nat) (A B : List Int) (hA : A.length ≤ 1073741824) (hB : B.length ≤ 1073741824) (w : World) (h1 : RowI w a n A) (h2 : RowI w a' n' B) :
    Calls Try.prog 36 #[.slice a n c, .slice a' n' c'] w (DivS (divQ A B) (divR A B) w) := by
  have K1 := hid (spec_NatOk a n c A hA w h1)
  have K2 := hid (spec_NatOk a' n' c' B hB w h2)
  have R1 := hid h1
  have R2 := hid h2
  obtain rfl : n = A.length := h1.1
  obtain rfl : n' = B.length := h2.1
  clear h1 h2
  obtain ⟨Q, hQ⟩ : ∃ Q, Q = divQ A B := ⟨_, rfl⟩
  obtain ⟨R, hR⟩ : ∃ R, R = divR A B := ⟨_, rfl⟩
  have HQ := hid hQ
  have HR := hid hR
  rw [← hQ, ← hR]
  clear hQ hR
  cases e1 : nok A with
  | false =>
    have hE := hid (div_no (A := A) (B := B) (.inl e1))
    rw [e1] at K1
    clear e1
    go_enter Try.func36, Try.ntmps36
    go_wp2_with fail
    refine K1.out.mono ?_
    rintro e w1 ⟨rfl, rfl⟩
    go_wp2
    go_ret2
    exact ⟨_, _, rfl, by rw [HQ.out, hE.out.1]; exact Ints_nil _ _, by rw [HR.out, hE.out.2]; exact Ints_nil _ _, Below.refl _ _⟩
  | true =>
    cases e2 : nok B with
    | false =>
      have hE := hid (div_no (A := A) (B := B) (.inr (.inl e2)))
      rw [e1] at K1
      rw [e2] at K2
      clear e1 e2
      go_enter Try.func36, Try.ntmps36
      go_wp2_with fail
      refine K1.out.mono ?_
      rintro e w1 ⟨rfl, rfl⟩
      go_wp2_with fail
      refine K2.out.mono ?_
      rintro e w1 ⟨rfl, rfl⟩
      go_wp2
      go_ret2
      exact ⟨_, _, rfl, by rw [HQ.out, hE.out.1]; exact Ints_nil _ _, by rw [HR.out, hE.out.2]; exact Ints_nil _ _, Below.refl _ _⟩
    | true =>
      by_cases hB0 : B.length = 0
      · have hBn : B = [] := List.length_eq_zero_iff.1 hB0
        have hE := hid (div_no (A := A) (B := B) (.inr (.inr hBn)))
        have hb0 : ((B.length : Int) == 0) = true := beq_iff_eq.2 (by omega)
        rw [e1] at K1
        rw [e2] at K2
        clear e1 e2 hB0 hBn
        go_enter Try.func36, Try.ntmps36
        go_wp2_with fail
        refine K1.out.mono ?_
        rintro e w1 ⟨rfl, rfl⟩
        go_wp2_with fail
        refine K2.out.mono ?_
        rintro e w1 ⟨rfl, rfl⟩
        go_wp2
        go_ret2
        exact ⟨_, _, rfl, by rw [HQ.out, hE.out.1]; exact Ints_nil _ _, by rw [HR.out, hE.out.2]; exact Ints_nil _ _, Below.refl _ _⟩
      · have hBne : B ≠ [] := by intro e; exact hB0 (by rw [e]; rfl)
        have hE := hid (div_yes e1 e2 hBne)
        have hb0 : ((B.length : Int) == 0) = false := beq_eq_false_iff_ne.2 (by omega)
        have CB := (nok_iff.1 e2).2
        have KD := hid (l02Div_any a a' A.length B.length c c' A B (nok_len e1) (nok_len e2) (nok_lim e1) CB (by
          have a1 := Can_ge CB hBne
          have a2 := pw_pos (B.length - 1)
          omega) w R1.out R2.out)
        rw [← hE.out.1, ← hE.out.2, ← HQ.out, ← HR.out] at KD
        rw [e1] at K1
        rw [e2] at K2
        clear e1 e2 hB0 hBne CB
        go_enter Try.func36, Try.ntmps36
        go_wp2_with fail
        refine K1.out.mono ?_
        rintro e w1 ⟨rfl, rfl⟩
        go_wp2_with fail
        refine K2.out.mono ?_
        rintro e w1 ⟨rfl, rfl⟩
        go_wp2_with fail
        (with_reducible refine KD.out.mono ?_)
        rintro e w2 ⟨v, u, rfl, i1, i2, hb⟩
        go_wp2
        go_ret2
        exact ⟨_, _, rfl, i1, i2, hb⟩
end Go.Proofs.Ytccflamengaokaa
