/- BigIntToInt of the program and of the reference. -/
import Derived.Test.YtleechafachkaaaWn
import Derived.Test.YtleechafachkaaaToI
namespace Go.Proofs.Ytleechafachkaaa
open Go.RowKit
open Go.Lib (hid)
set_option linter.unusedVariables false

def btB (s : Bool) (A : List Int) : Bool := bok s A && tiB A
def btV (s : Bool) (A : List Int) : Int := if btB s A then sval s (val A) else 0
theorem bt_no {s : Bool} {A : List Int} (h : bok s A = false ∨ tiB A = false) : btB s A = false ∧ btV s A = 0 := by
  have : btB s A = false := by unfold btB; rcases h with h | h <;> simp [h]
  exact ⟨this, by unfold btV; rw [this]; rfl⟩
theorem bt_yes {s : Bool} {A : List Int} (h : bok s A = true) (h' : tiB A = true) : btB s A = true ∧ btV s A = sval s (tiV A) := by
  have : btB s A = true := by unfold btB; simp [h, h']
  exact ⟨this, by unfold btV tiV; rw [this, h']; rfl⟩
theorem tiV_bd {A : List Int} : 0 ≤ tiV A ∧ tiV A ≤ 9223372036854775807 := by
  unfold tiV
  split
  · next h =>
    unfold tiB at h
    simp only [Bool.and_eq_true, decide_eq_true_eq] at h
    exact ⟨val_nonneg (nok_lim h.1), h.2⟩
  · decide
theorem tiV_no {A : List Int} (h : tiB A = false) : tiV A = 0 := by unfold tiV; rw [h]; rfl
set_option maxRecDepth 100000 in
set_option maxHeartbeats 3200000 in
theorem impl_BigIntToInt (s : Bool) (v : Value) (A : List Int) (hA : A.length ≤ 1073741824) (b1 : Nat) (w : World) (h1 : Ints w b1 v A) :
    Calls Try.prog 21 #[.agg #[.bool s, v]] w (Ret2 (btV s A) (btB s A) w) := by
  obtain ⟨x, hx⟩ : ∃ x, x = btV s A := ⟨_, rfl⟩
  obtain ⟨y, hy⟩ : ∃ y, y = btB s A := ⟨_, rfl⟩
  have HX := hid hx
  have HY := hid hy
  rw [← hx, ← hy]
  clear hx hy
  have KA := hid (fun (W : World) (h : Ints W b1 v A) => impl_BigIntOk_own s v A hA b1 W h)
  have B0 := hid (below_new' (w := w) (o := .cells #[.bool s, v] 27))
  have L1 := hid (Loc.new (w := w) (T := 27) (s := s) (v := v))
  have I1 := hid (Ints_old h1 B0.out)
  obtain ⟨a, c, rfl, -⟩ := Ints_form h1
  have KT := hid (fun (W : World) (h : Ints W b1 (.slice a A.length c) A) => impl_NatToInt a A.length c A hA W (Ints_rowW h))
  clear h1
  obtain ⟨t, ht⟩ : ∃ t, t = tiV A := ⟨_, rfl⟩
  obtain ⟨tb, htb⟩ : ∃ t, t = tiB A := ⟨_, rfl⟩
  have hbd := tiV_bd (A := A)
  rw [← ht] at hbd
  rw [← ht, ← htb] at KT
  have HT := hid ht
  have HTB := hid htb
  clear ht htb
  cases e1 : bok s A with
  | false =>
    have hE := hid (bt_no (.inl e1))
    rw [e1] at KA
    clear e1
    go_enter Try.func21, Try.ntmps21
    go_wp2_with fail
    refine (KA.out _ I1.out).mono ?_
    rintro e w1 ⟨rfl, b1⟩
    have B0 := hid (B0.out.trans (b1.mono B0.out.size))
    clear b1
    go_wp2
    go_ret2
    exact Ret2_mk ⟨HY.out.trans hE.out.1, HX.out.trans hE.out.2⟩ B0.out
  | true =>
    rw [e1] at KA
    have hE := hid (show y = tb ∧ x = sval s t by
      rw [HX.out, HY.out, HT.out, HTB.out]
      cases h : tiB A with
      | false => rw [(bt_no (.inr h)).1, (bt_no (.inr h)).2, tiV_no h]; exact ⟨rfl, by cases s <;> rfl⟩
      | true => exact bt_yes e1 h)
    clear e1
    cases s
    all_goals
      go_enter Try.func21, Try.ntmps21
      go_wp2_with fail
      refine (KA.out _ I1.out).mono ?_
      rintro e w1 ⟨rfl, b1⟩
      have B0 := hid (B0.out.trans (b1.mono B0.out.size))
      have I1 := hid (Ints_old I1.out b1)
      have L1 := hid (L1.out.old b1)
      have q0 := L1.out.c0
      have q1 := L1.out.c1
      clear b1
      go_wp2_with fail
      refine (KT.out _ I1.out).mono ?_
      rintro e w2 ⟨rfl, b1⟩
      have B0 := hid (B0.out.trans (b1.mono B0.out.size))
      have L1 := hid (L1.out.old b1)
      clear b1 q0 q1
      have q0 := L1.out.c0
      have q1 := L1.out.c1
      go_wp2
      go_ret2
      exact Ret2_mk ⟨hE.out.1, hE.out.2⟩ B0.out

set_option maxRecDepth 100000 in
set_option maxHeartbeats 3200000 in
theorem spec_BigIntToInt (s : Bool) (v : Value) (A : List Int) (hA : A.length ≤ 1073741824) (b1 : Nat) (w : World) (h1 : Ints w b1 v A) :
    Calls Try.prog 20 #[.agg #[.bool s, v]] w (Ret2 (btV s A) (btB s A) w) := by
  obtain ⟨x, hx⟩ : ∃ x, x = btV s A := ⟨_, rfl⟩
  obtain ⟨y, hy⟩ : ∃ y, y = btB s A := ⟨_, rfl⟩
  have HX := hid hx
  have HY := hid hy
  rw [← hx, ← hy]
  clear hx hy
  have KA := hid (fun (W : World) (h : Ints W b1 v A) => spec_BigIntOk_own s v A hA b1 W h)
  have B0 := hid (below_new' (w := w) (o := .cells #[.bool s, v] 27))
  have L1 := hid (Loc.new (w := w) (T := 27) (s := s) (v := v))
  have I1 := hid (Ints_old h1 B0.out)
  obtain ⟨a, c, rfl, -⟩ := Ints_form h1
  have KT := hid (fun (W : World) (h : Ints W b1 (.slice a A.length c) A) => spec_NatToInt a A.length c A hA W (Ints_rowW h))
  clear h1
  obtain ⟨t, ht⟩ : ∃ t, t = tiV A := ⟨_, rfl⟩
  have hbd := tiV_bd (A := A)
  rw [← ht] at hbd
  rw [← ht] at KT
  have HT := hid ht
  clear ht
  cases e0 : tiB A with
  | false =>
    have hE := hid (bt_no (s := s) (.inr e0))
    rw [e0] at KT
    clear e0
    go_enter Try.func20, Try.ntmps20
    go_wp2_with fail
    refine (KT.out _ I1.out).mono ?_
    rintro e w1 ⟨rfl, b1⟩
    have B0 := hid (B0.out.trans (b1.mono B0.out.size))
    clear b1
    go_wp2
    go_ret2
    exact Ret2_mk ⟨HY.out.trans hE.out.1, HX.out.trans hE.out.2⟩ B0.out
  | true =>
    rw [e0] at KT
    cases e1 : bok s A with
    | false =>
      have hE := hid (bt_no (.inl e1))
      rw [e1] at KA
      clear e1 e0
      go_enter Try.func20, Try.ntmps20
      go_wp2_with fail
      refine (KT.out _ I1.out).mono ?_
      rintro e w1 ⟨rfl, b1⟩
      have B0 := hid (B0.out.trans (b1.mono B0.out.size))
      have I1 := hid (Ints_old I1.out b1)
      have L1 := hid (L1.out.old b1)
      have q0 := L1.out.c0
      have q1 := L1.out.c1
      clear b1
      go_wp2_with fail
      refine (KA.out _ I1.out).mono ?_
      rintro e w2 ⟨rfl, b1⟩
      have B0 := hid (B0.out.trans (b1.mono B0.out.size))
      clear b1 q0 q1
      go_wp2
      go_ret2
      exact Ret2_mk ⟨HY.out.trans hE.out.1, HX.out.trans hE.out.2⟩ B0.out
    | true =>
      rw [e1] at KA
      have hE := hid (show y = true ∧ x = sval s t by rw [HX.out, HY.out, HT.out]; exact bt_yes e1 e0)
      clear e1 e0
      cases s
      all_goals
        go_enter Try.func20, Try.ntmps20
        go_wp2_with fail
        refine (KT.out _ I1.out).mono ?_
        rintro e w1 ⟨rfl, b1⟩
        have B0 := hid (B0.out.trans (b1.mono B0.out.size))
        have I1 := hid (Ints_old I1.out b1)
        have L1 := hid (L1.out.old b1)
        have q0 := L1.out.c0
        have q1 := L1.out.c1
        clear b1
        go_wp2_with fail
        refine (KA.out _ I1.out).mono ?_
        rintro e w2 ⟨rfl, b1⟩
        have B0 := hid (B0.out.trans (b1.mono B0.out.size))
        have L1 := hid (L1.out.old b1)
        clear b1 q0 q1
        have q0 := L1.out.c0
        have q1 := L1.out.c1
        go_wp2
        go_ret2
        exact Ret2_mk ⟨hE.out.1, hE.out.2⟩ B0.out
end Go.Proofs.Ytleechafachkaaa
