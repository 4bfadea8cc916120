/- FormatBigInt: the text of a struct of a sign and limbs. -/
import Derived.Test.YthkehmnodcmlcaaGreatDoorFnb
import Derived.Test.YthkehmnodcmlcaaGreatDoorWwm
import Derived.Test.YthkehmnodcmlcaaGreatDoorWsm
namespace Go.Proofs.YthkehmnodcmlcaaGreatDoor
open Go.RowKit
open Go.Lib (hid)
set_option linter.unusedVariables false

def fmtB (s : Bool) (A : List Int) : ByteArray := if bok s A then (if s then ByteArray.mk #[45] ++ formatL A else formatL A) else ByteArray.mk #[]
theorem fmtB_no {s : Bool} {A : List Int} (h : bok s A = false) : fmtB s A = ByteArray.mk #[] := by simp [fmtB, h]
theorem fmtB_neg {A : List Int} (h : bok true A = true) : fmtB true A = ByteArray.mk #[45] ++ formatL A := by simp [fmtB, h]
theorem fmtB_pos {A : List Int} (h : bok false A = true) : fmtB false A = formatL A := by simp [fmtB, h]
theorem formatL_size {L : List Int} : (formatL L).size ≤ 1300 := by
  cases h : nok L with
  | false => rw [formatL_no h]; decide
  | true =>
    by_cases h0 : L = []
    · rw [formatL_nil h h0]; decide
    · have hl : L.length ≠ 0 := fun e => h0 (List.length_eq_zero_iff.1 e)
      rw [formatL_yes h hl]
      have h1 := fmtD_size (nok_lim h) (L.length - 1)
      have h2 := nok_len h
      omega

set_option maxRecDepth 100000 in
set_option maxHeartbeats 1600000 in
theorem spec_FormatBigInt (s : Bool) (v : Value) (A : List Int) (hA : A.length ≤ 1073741824) (b1 : Nat) (w : World) (h1 : Ints w b1 v A) :
    Calls Tryz.prog 62 #[.agg #[.bool s, v]] w (StrP (fmtB s A) w) := by
  obtain ⟨z, hz⟩ : ∃ z, z = fmtB s A := ⟨_, rfl⟩
  have HZ := hid hz
  rw [← hz]
  clear hz
  have KA := hid (fun (W : World) (h : Ints W b1 v A) => spec_BigIntOk_own s v A hA b1 W h)
  have B0 := hid (below_new' (w := w) (o := .cells #[.bool s, v] 35))
  have L1 := hid (Loc.new (w := w) (T := 35) (s := s) (v := v))
  have I1 := hid (Ints_old h1 B0.out)
  obtain ⟨a, c, rfl, -⟩ := Ints_form h1
  have KF := hid (fun (W : World) (h : Ints W b1 (.slice a A.length c) A) => spec_FormatNat a A.length c A hA W (Ints_rowW h))
  clear h1
  have hfs := formatL_size (L := A)
  obtain ⟨t, ht⟩ : ∃ t, t = formatL A := ⟨_, rfl⟩
  rw [← ht] at KF hfs
  have HT := hid ht
  clear ht
  cases e1 : bok s A with
  | false =>
    have hE := hid (HZ.out.trans (fmtB_no e1))
    rw [e1] at KA
    clear e1
    go_enter Tryz.func62, Tryz.ntmps62
    go_wp2_with fail
    (with_reducible refine (KA.out _ I1.out).mono ?_)
    rintro e w1 ⟨rfl, b1⟩
    have B0 := hid (B0.out.trans (b1.mono B0.out.size))
    clear b1
    go_wp2
    go_ret
    exact StrP_mk hE.out.symm B0.out
  | true =>
    rw [e1] at KA
    cases s
    · have hE := hid (show t = z by rw [HZ.out, fmtB_pos e1, HT.out])
      clear e1
      go_enter Tryz.func62, Tryz.ntmps62
      go_wp2_with fail
      (with_reducible refine (KA.out _ I1.out).mono ?_)
      rintro e w1 ⟨rfl, b1⟩
      have B0 := hid (B0.out.trans (b1.mono B0.out.size))
      have I1 := hid (Ints_old I1.out b1)
      have L1 := hid (L1.out.old b1)
      have q0 := L1.out.c0
      have q1 := L1.out.c1
      clear b1
      go_wp2_with fail
      (with_reducible refine (KF.out _ I1.out).mono ?_)
      rintro e w2 ⟨rfl, b1⟩
      have B0 := hid (B0.out.trans (b1.mono B0.out.size))
      clear b1 q0 q1
      go_wp2
      go_ret
      exact StrP_mk hE.out B0.out
    · have hE := hid (show ByteArray.mk #[45] ++ t = z by rw [HZ.out, fmtB_neg e1, HT.out])
      clear e1
      go_enter Tryz.func62, Tryz.ntmps62
      go_wp2_with fail
      (with_reducible refine (KA.out _ I1.out).mono ?_)
      rintro e w1 ⟨rfl, b1⟩
      have B0 := hid (B0.out.trans (b1.mono B0.out.size))
      have I1 := hid (Ints_old I1.out b1)
      have L1 := hid (L1.out.old b1)
      have q0 := L1.out.c0
      have q1 := L1.out.c1
      clear b1
      go_wp2_with fail
      (with_reducible refine (KF.out _ I1.out).mono ?_)
      rintro e w2 ⟨rfl, b1⟩
      have B0 := hid (B0.out.trans (b1.mono B0.out.size))
      clear b1 q0 q1
      go_wp2
      go_ret
      exact StrP_mk hE.out B0.out

set_option maxRecDepth 100000 in
set_option maxHeartbeats 1600000 in
theorem impl_FormatBigInt (s : Bool) (v : Value) (A : List Int) (hA : A.length ≤ 1073741824) (b1 : Nat) (w : World) (h1 : Ints w b1 v A) (hp : Pow10 w) :
    Calls Tryz.prog 71 #[.agg #[.bool s, v]] w (StrP (fmtB s A) w) := by
  obtain ⟨z, hz⟩ : ∃ z, z = fmtB s A := ⟨_, rfl⟩
  have HZ := hid hz
  rw [← hz]
  clear hz
  have KA := hid (fun (W : World) (h : Ints W b1 v A) => impl_BigIntOk_own s v A hA b1 W h)
  have B0 := hid (below_new' (w := w) (o := .cells #[.bool s, v] 35))
  have L1 := hid (Loc.new (w := w) (T := 35) (s := s) (v := v))
  have I1 := hid (Ints_old h1 B0.out)
  obtain ⟨a, c, rfl, -⟩ := Ints_form h1
  have KF := hid (fun (W : World) (h : Ints W b1 (.slice a A.length c) A) (hp : Pow10 W) => impl_FormatNat a A.length c A hA W (Ints_rowW h) hp)
  have PP := hid (pow_below hp B0.out)
  clear hp
  clear h1
  have hfs := formatL_size (L := A)
  obtain ⟨t, ht⟩ : ∃ t, t = formatL A := ⟨_, rfl⟩
  rw [← ht] at KF hfs
  have HT := hid ht
  clear ht
  cases e1 : bok s A with
  | false =>
    have hE := hid (HZ.out.trans (fmtB_no e1))
    rw [e1] at KA
    clear e1
    go_enter Tryz.func71, Tryz.ntmps71
    go_wp2_with fail
    (with_reducible refine (KA.out _ I1.out).mono ?_)
    rintro e w1 ⟨rfl, b1⟩
    have B0 := hid (B0.out.trans (b1.mono B0.out.size))
    clear b1
    go_wp2
    go_ret
    exact StrP_mk hE.out.symm B0.out
  | true =>
    rw [e1] at KA
    cases s
    · have hE := hid (show t = z by rw [HZ.out, fmtB_pos e1, HT.out])
      clear e1
      go_enter Tryz.func71, Tryz.ntmps71
      go_wp2_with fail
      (with_reducible refine (KA.out _ I1.out).mono ?_)
      rintro e w1 ⟨rfl, b1⟩
      have B0 := hid (B0.out.trans (b1.mono B0.out.size))
      have I1 := hid (Ints_old I1.out b1)
      have PP := hid (pow_below PP.out b1)
      have L1 := hid (L1.out.old b1)
      have q0 := L1.out.c0
      have q1 := L1.out.c1
      clear b1
      go_wp2_with fail
      (with_reducible refine (KF.out _ I1.out PP.out).mono ?_)
      rintro e w2 ⟨rfl, b1⟩
      have B0 := hid (B0.out.trans (b1.mono B0.out.size))
      clear b1 q0 q1
      go_wp2
      go_ret
      exact StrP_mk hE.out B0.out
    · have hE := hid (show ByteArray.mk #[45] ++ t = z by rw [HZ.out, fmtB_neg e1, HT.out])
      clear e1
      go_enter Tryz.func71, Tryz.ntmps71
      go_wp2_with fail
      (with_reducible refine (KA.out _ I1.out).mono ?_)
      rintro e w1 ⟨rfl, b1⟩
      have B0 := hid (B0.out.trans (b1.mono B0.out.size))
      have I1 := hid (Ints_old I1.out b1)
      have PP := hid (pow_below PP.out b1)
      have L1 := hid (L1.out.old b1)
      have q0 := L1.out.c0
      have q1 := L1.out.c1
      clear b1
      go_wp2_with fail
      (with_reducible refine (KF.out _ I1.out PP.out).mono ?_)
      rintro e w2 ⟨rfl, b1⟩
      have B0 := hid (B0.out.trans (b1.mono B0.out.size))
      clear b1 q0 q1
      go_wp2
      go_ret
      exact StrP_mk hE.out B0.out
end Go.Proofs.YthkehmnodcmlcaaGreatDoor
