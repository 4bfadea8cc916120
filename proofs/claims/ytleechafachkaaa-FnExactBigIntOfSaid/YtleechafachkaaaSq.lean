/- The reference's comparison of two structs. -/
import Derived.Test.YtleechafachkaaaSp
import Derived.Test.YtleechafachkaaaWn
namespace Go.Proofs.Ytleechafachkaaa
open Go.RowKit
open Go.Lib (hid)
set_option linter.unusedVariables false

set_option maxRecDepth 100000 in
set_option maxHeartbeats 3200000 in
theorem l03Cmp_own (s t : Bool) (v u : Value) (A B : List Int) (e1 : bok s A = true) (e2 : bok t B = true) (b1 b2 : Nat) (w : World) (h1 : Ints w b1 v A) (h2 : Ints w b2 u B) :
    Calls Try.prog 51 #[.agg #[.bool s, v], .agg #[.bool t, u]] w (RetB (.int .i64 (cmpB s A t B)) w) := by
  have hA := nok_len (bok_iff.1 e1).1
  have hB := nok_len (bok_iff.1 e2).1
  have B0 := hid (W22_below (w := w) (s := s) (v := v) (t := t) (u := u) (T := 27))
  have I1 := hid (Ints_old h1 B0.out)
  have I2 := hid (Ints_old h2 B0.out)
  obtain ⟨a, c, rfl, -⟩ := Ints_form h1
  obtain ⟨a', c', rfl, -⟩ := Ints_form h2
  clear h1 h2
  obtain ⟨Z, hZ⟩ : ∃ Z, Z = cmpB s A t B := ⟨_, rfl⟩
  have HZ := hid hZ
  rw [← hZ]
  clear hZ
  cases s <;> cases t
  · have hE := hid (HZ.out.trans (cmpB_ff e1 e2))
    clear e1 e2
    have K3 := hid (l02Cmp_any a a' _ _ c c' A B (by omega) (by omega) _ (Ints_rowW I1.out) (Ints_rowW I2.out))
    rw [← hE.out] at K3
    go_enter Try.func51, Try.ntmps51
    go_wp2_with fail
    refine K3.out.mono ?_
    rintro e w3 ⟨rfl, d, rfl⟩
    have B0 := hid (Below_drewN (d := d) B0.out)
    go_wp2
    go_ret
    exact ⟨rfl, B0.out⟩
  · have hE := hid (HZ.out.trans (cmpB_ft e1 e2))
    clear e1 e2
    go_enter Try.func51, Try.ntmps51
    go_wp2
    go_ret
    exact ⟨ret_int hE.out.symm, B0.out⟩
  · have hE := hid (HZ.out.trans (cmpB_tf e1 e2))
    clear e1 e2
    go_enter Try.func51, Try.ntmps51
    go_wp2
    go_ret
    exact ⟨ret_int hE.out.symm, B0.out⟩
  · have hE := hid (HZ.out.trans (cmpB_tt e1 e2))
    clear e1 e2
    have K3 := hid (l02Cmp_any a' a _ _ c' c B A (by omega) (by omega) _ (Ints_rowW I2.out) (Ints_rowW I1.out))
    rw [← hE.out] at K3
    go_enter Try.func51, Try.ntmps51
    go_wp2_with fail
    refine K3.out.mono ?_
    rintro e w3 ⟨rfl, d, rfl⟩
    have B0 := hid (Below_drewN (d := d) B0.out)
    go_wp2
    go_ret
    exact ⟨rfl, B0.out⟩

set_option maxRecDepth 100000 in
set_option maxHeartbeats 3200000 in
theorem spec_BigIntCmp (s t : Bool) (v u : Value) (A B : List Int) (hA : A.length ≤ 1073741824) (hB : B.length ≤ 1073741824) (b1 b2 : Nat) (w : World) (h1 : Ints w b1 v A) (h2 : Ints w b2 u B) :
    Calls Try.prog 30 #[.agg #[.bool s, v], .agg #[.bool t, u]] w (RetB (.int .i64 (cmpB s A t B)) w) := by
  obtain ⟨Z, hZ⟩ : ∃ Z, Z = cmpB s A t B := ⟨_, rfl⟩
  have HZ := hid hZ
  rw [← hZ]
  clear hZ
  have KA := hid (fun (W : World) (h : Ints W b1 v A) => spec_BigIntOk_own s v A hA b1 W h)
  have KB := hid (fun (W : World) (h : Ints W b2 u B) => spec_BigIntOk_own t u B hB b2 W h)
  have B0 := hid (W22_below (w := w) (s := s) (v := v) (t := t) (u := u) (T := 27))
  have L1 := hid (W22_1 (w := w) (s := s) (v := v) (t := t) (u := u) (T := 27))
  have L2 := hid (W22_2 (w := w) (s := s) (v := v) (t := t) (u := u) (T := 27))
  have I1 := hid (Ints_old h1 B0.out)
  have I2 := hid (Ints_old h2 B0.out)
  obtain ⟨a, c, rfl, -⟩ := Ints_form h1
  obtain ⟨a', c', rfl, -⟩ := Ints_form h2
  clear h1 h2
  cases e1 : bok s A with
  | false =>
    have hE := hid (HZ.out.trans (cmpB_no (.inl e1)))
    rw [e1] at KA
    clear e1
    go_enter Try.func30, Try.ntmps30
    go_wp2_with fail
    refine (KA.out _ I1.out).mono ?_
    rintro e w1 ⟨rfl, b1⟩
    have B0 := hid (B0.out.trans (b1.mono B0.out.size))
    clear b1
    go_wp2
    go_ret
    exact ⟨ret_int hE.out.symm, B0.out⟩
  | true =>
    rw [e1] at KA
    cases e2 : bok t B with
    | false =>
      have hE := hid (HZ.out.trans (cmpB_no (.inr e2)))
      rw [e2] at KB
      clear e1 e2
      go_enter Try.func30, Try.ntmps30
      go_wp2_with fail
      refine (KA.out _ I1.out).mono ?_
      rintro e w1 ⟨rfl, b1⟩
      have B0 := hid (B0.out.trans (b1.mono B0.out.size))
      have I2 := hid (Ints_old I2.out b1)
      have L2 := hid (L2.out.old b1)
      have q0 := L2.out.c0
      have q1 := L2.out.c1
      clear b1
      go_wp2_with fail
      refine (KB.out _ I2.out).mono ?_
      rintro e w2 ⟨rfl, b1⟩
      have B0 := hid (B0.out.trans (b1.mono B0.out.size))
      clear b1 q0 q1
      go_wp2
      go_ret
      exact ⟨ret_int hE.out.symm, B0.out⟩
    | true =>
      rw [e2] at KB
      have E1 := hid e1
      have E2 := hid e2
      clear e1 e2
      go_enter Try.func30, Try.ntmps30
      go_wp2_with fail
      refine (KA.out _ I1.out).mono ?_
      rintro e w1 ⟨rfl, b1⟩
      have B0 := hid (B0.out.trans (b1.mono B0.out.size))
      have I1 := hid (Ints_old I1.out b1)
      have I2 := hid (Ints_old I2.out b1)
      have L1 := hid (L1.out.old b1)
      have L2 := hid (L2.out.old b1)
      have q0 := L2.out.c0
      have q1 := L2.out.c1
      clear b1
      go_wp2_with fail
      refine (KB.out _ I2.out).mono ?_
      rintro e w2 ⟨rfl, b1⟩
      have B0 := hid (B0.out.trans (b1.mono B0.out.size))
      have I1 := hid (Ints_old I1.out b1)
      have I2 := hid (Ints_old I2.out b1)
      have L1 := hid (L1.out.old b1)
      have L2 := hid (L2.out.old b1)
      clear b1 q0 q1
      have q0 := L2.out.c0
      have q1 := L2.out.c1
      have q2 := L1.out.c0
      have q3 := L1.out.c1
      go_wp2_with fail
      refine (l03Cmp_own s t _ _ A B E1.out E2.out _ _ w2 I1.out I2.out).mono ?_
      rintro e w3 ⟨rfl, b1⟩
      have B0 := hid (B0.out.trans (b1.mono B0.out.size))
      rw [← HZ.out]
      clear b1
      go_wp2
      go_ret
      exact ⟨rfl, B0.out⟩
end Go.Proofs.Ytleechafachkaaa
