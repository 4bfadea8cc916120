/- FormatRat: the text of a fraction. -/
import Derived.Test.YthkehmnodcmlcaaGreatDoorFb
import Derived.Test.YthkehmnodcmlcaaGreatDoorFra
import Derived.Test.YthkehmnodcmlcaaGreatDoorSra
import Derived.Deep.RegionHeld3
namespace Go.Proofs.YthkehmnodcmlcaaGreatDoor
open Go.RowKit
open Go.Lib (hid)
set_option linter.unusedVariables false

/-- The text of a struct of a sign, limbs and limbs. -/
def fmtR (s : Bool) (A D : List Int) : ByteArray := if rok s A D then (if D = [1] then fmtB s A else fmtB s A ++ ByteArray.mk #[47] ++ formatL D) else ByteArray.mk #[]
theorem fmtR_no {s : Bool} {A D : List Int} (h : rok s A D = false) : fmtR s A D = ByteArray.mk #[] := by simp [fmtR, h]
theorem fmtR_one {s : Bool} {A D : List Int} (h : rok s A D = true) (h1 : D = [1]) : fmtR s A D = fmtB s A := by unfold fmtR; rw [if_pos h, if_pos h1]
theorem fmtR_two {s : Bool} {A D : List Int} (h : rok s A D = true) (h1 : D ≠ [1]) : fmtR s A D = fmtB s A ++ ByteArray.mk #[47] ++ formatL D := by unfold fmtR; rw [if_pos h, if_neg h1]
theorem Pow10.old {w w' : World} (h : Pow10 w) (hb : Below w.heap.size w w') : Pow10 w' := pow_below h hb
theorem fmtB_size {s : Bool} {A : List Int} : (fmtB s A).size ≤ 1301 := by
  have h := formatL_size (L := A)
  unfold fmtB
  split
  · split
    · rw [ByteArray.size_append]; show 1 + _ ≤ _; omega
    · omega
  · show 0 ≤ 1301; omega

set_option maxRecDepth 100000 in
set_option maxHeartbeats 3200000 in
theorem spec_FormatRat (s : Bool) (v u : Value) (A D : List Int) (w : World) (h : RL w v u A D) :
    Calls Tryz.prog 29 #[.agg #[.bool s, v, u]] w (StrP (fmtR s A D) w) := by
  obtain ⟨z, hz⟩ : ∃ z, z = fmtR s A D := ⟨_, rfl⟩
  have HZ := hid hz
  rw [← hz]
  clear hz
  have hA : A.length ≤ 1073741824 := by have := h.la; omega
  have hD : D.length ≤ 1073741824 := by have := h.ld; omega
  have KA := hid (fun (W : World) (h : RL W v u A D) => spec_RatOk s v u A D W h)
  obtain ⟨b1, i1⟩ := h.a
  obtain ⟨b2, i2⟩ := h.d
  have KO := hid (fun (W : World) (h : Ints W b2 u D) => l04One_own u D hD b2 W h)
  have KB := hid (fun (W : World) (h : Ints W b1 v A) => spec_FormatBigInt s v A hA b1 W h)
  have B := hid (below_new' (w := w) (o := .cells #[.bool s, v, u] 37))
  have LP := hid (LocA.new (w := w) (T := 37) (cs := #[.bool s, v, u]))
  have H := hid (h.old B.out)
  have I1 := hid (Ints_old i1 B.out)
  have I2 := hid (Ints_old i2 B.out)
  obtain ⟨a, c, b, d, rfl, rfl⟩ := h.form
  have KN := hid (fun (W : World) (h : Ints W b2 (.slice b D.length d) D) => spec_FormatNat b D.length d D hD W (Ints_rowW h))
  clear h i1 i2
  have hs1 := fmtB_size (s := s) (A := A)
  have hs2 := formatL_size (L := D)
  obtain ⟨x, hx⟩ : ∃ x, x = fmtB s A := ⟨_, rfl⟩
  obtain ⟨y, hy⟩ : ∃ y, y = formatL D := ⟨_, rfl⟩
  have HXY := hid (And.intro hx hy)
  rw [← hx] at KB hs1
  rw [← hy] at KN hs2
  clear hx hy
  have hg1 : ¬ 9223372036854775807 < x.size + 1 := by omega
  have hg2 : ¬ 9223372036854775807 < x.size + 1 + y.size := by omega
  generalize hW : w.alloc (.cells #[.bool s, .slice a A.length c, .slice b D.length d] 37) = W0 at B LP H I1 I2
  have HW := hid hW
  clear hW
  obtain ⟨p, hp1⟩ : ∃ p, p = rok s A D := ⟨_, rfl⟩
  rw [← hp1] at KA
  cases p with
  | false =>
    have hE := hid (show z = ByteArray.mk #[] by rw [HZ.out]; exact fmtR_no hp1.symm)
    clear hp1
    go_enter Tryz.func29, Tryz.ntmps29
    have q0 := LP.out.c 0 rfl
    have q1 := LP.out.c 1 rfl
    have q2 := LP.out.c 2 rfl
    go_wp2_with fail
    rw [HW.out]
    (with_reducible refine (KA.out _ H.out).mono ?_)
    clear q0 q1 q2
    rintro e w1 ⟨rfl, b1⟩
    have B := hid (B.out.trans (b1.mono B.out.size))
    clear b1
    go_wp2
    go_ret
    exact StrP_mk hE.out.symm B.out
  | true =>
    by_cases h1 : D = [1]
    · have hE := hid (show x = z by rw [HZ.out, fmtR_one hp1.symm h1, HXY.out.1])
      rw [decide_eq_true h1] at KO
      clear hp1 h1
      go_enter Tryz.func29, Tryz.ntmps29
      have q0 := LP.out.c 0 rfl
      have q1 := LP.out.c 1 rfl
      have q2 := LP.out.c 2 rfl
      go_wp2_with fail
      rw [HW.out]
      (with_reducible refine (KA.out _ H.out).mono ?_)
      clear q0 q1 q2
      rintro e w1 ⟨rfl, b1⟩
      have LP := hid (LP.out.old b1)
      have I1 := hid (Ints_old I1.out b1)
      have I2 := hid (Ints_old I2.out b1)
      have B := hid (B.out.trans (b1.mono B.out.size))
      clear b1
      have q0 := LP.out.c 2 rfl
      go_wp2_with fail
      (with_reducible refine (KO.out _ I2.out).mono ?_)
      clear q0
      rintro e w1x ⟨rfl, rfl⟩
      have q0 := LP.out.c 0 rfl
      have q1 := LP.out.c 1 rfl
      go_wp2_with fail
      (with_reducible refine (KB.out _ I1.out).mono ?_)
      clear q0 q1
      rintro e w2 ⟨rfl, b1⟩
      have LP := hid (LP.out.old b1)
      have I1 := hid (Ints_old I1.out b1)
      have I2 := hid (Ints_old I2.out b1)
      have B := hid (B.out.trans (b1.mono B.out.size))
      clear b1
      go_wp2
      go_ret
      exact StrP_mk hE.out B.out
    · have hE := hid (show x ++ ByteArray.mk #[47] ++ y = z by rw [HZ.out, fmtR_two hp1.symm h1, HXY.out.1, HXY.out.2])
      rw [decide_eq_false h1] at KO
      clear hp1 h1
      go_enter Tryz.func29, Tryz.ntmps29
      have q0 := LP.out.c 0 rfl
      have q1 := LP.out.c 1 rfl
      have q2 := LP.out.c 2 rfl
      go_wp2_with fail
      rw [HW.out]
      (with_reducible refine (KA.out _ H.out).mono ?_)
      clear q0 q1 q2
      rintro e w1 ⟨rfl, b1⟩
      have LP := hid (LP.out.old b1)
      have I1 := hid (Ints_old I1.out b1)
      have I2 := hid (Ints_old I2.out b1)
      have B := hid (B.out.trans (b1.mono B.out.size))
      clear b1
      have q0 := LP.out.c 2 rfl
      go_wp2_with fail
      (with_reducible refine (KO.out _ I2.out).mono ?_)
      clear q0
      rintro e w1x ⟨rfl, rfl⟩
      go_wp2_with fail
      have LP := hid (LP.out.old (Below_drew1 (Below.refl _ _)))
      have I1 := hid (Ints_old I1.out (Below_drew1 (Below.refl _ _)))
      have I2 := hid (Ints_old I2.out (Below_drew1 (Below.refl _ _)))
      have B := hid (Below_drew1 B.out)
      have q0 := LP.out.c 0 rfl
      have q1 := LP.out.c 1 rfl
      have q2 := LP.out.c 2 rfl
      go_region_held3 (fun w' => w'.cell? ⟨w.heap.size, 0, none⟩ = some (.bool s) ∧ w'.cell? ⟨w.heap.size, 1, none⟩ = some (.slice a A.length c) ∧ w'.cell? ⟨w.heap.size, 2, none⟩ = some (.slice b D.length d)) (first | exact ⟨q0, q1, q2⟩ | exact ⟨(cell_set2 (by omega)).trans q0, (cell_set2 (by omega)).trans q1, (cell_set2 (by omega)).trans q2⟩ | go_keep) (first | (go_at_call 62; (with_reducible refine (KB.out _ I1.out).mono ?_); rintro e w2 ⟨rfl, b1⟩; have LP := hid (LP.out.old b1); have I1 := hid (Ints_old I1.out b1); have I2 := hid (Ints_old I2.out b1); have B := hid (B.out.trans (b1.mono B.out.size)); clear b1; have q0 := LP.out.c 0 rfl; have q1 := LP.out.c 1 rfl; have q2 := LP.out.c 2 rfl) | (go_at_call 63; (with_reducible refine (KN.out _ I2.out).mono ?_); rintro e w3 ⟨rfl, b1⟩; have LP := hid (LP.out.old b1); have I1 := hid (Ints_old I1.out b1); have I2 := hid (Ints_old I2.out b1); have B := hid (B.out.trans (b1.mono B.out.size)); clear b1; have q0 := LP.out.c 0 rfl; have q1 := LP.out.c 1 rfl; have q2 := LP.out.c 2 rfl))
      clear q0 q1 q2
      go_wp2
      go_ret
      exact StrP_mk hE.out B.out
set_option maxRecDepth 100000 in
set_option maxHeartbeats 3200000 in
theorem impl_FormatRat (s : Bool) (v u : Value) (A D : List Int) (w : World) (h : RL w v u A D) (hp : Pow10 w) :
    Calls Tryz.prog 35 #[.agg #[.bool s, v, u]] w (StrP (fmtR s A D) w) := by
  obtain ⟨z, hz⟩ : ∃ z, z = fmtR s A D := ⟨_, rfl⟩
  have HZ := hid hz
  rw [← hz]
  clear hz
  have hA : A.length ≤ 1073741824 := by have := h.la; omega
  have hD : D.length ≤ 1073741824 := by have := h.ld; omega
  have KA := hid (fun (W : World) (h : RL W v u A D) => impl_RatOk s v u A D W h)
  obtain ⟨b1, i1⟩ := h.a
  obtain ⟨b2, i2⟩ := h.d
  have KO := hid (fun (W : World) (h : Ints W b2 u D) => isOne_own u D hD b2 W h)
  have KB := hid (fun (W : World) (h : Ints W b1 v A) (hp : Pow10 W) => impl_FormatBigInt s v A hA b1 W h hp)
  have B := hid (below_new' (w := w) (o := .cells #[.bool s, v, u] 37))
  have LP := hid (LocA.new (w := w) (T := 37) (cs := #[.bool s, v, u]))
  have H := hid (h.old B.out)
  have I1 := hid (Ints_old i1 B.out)
  have I2 := hid (Ints_old i2 B.out)
  have PP := hid (pow_below hp B.out)
  obtain ⟨a, c, b, d, rfl, rfl⟩ := h.form
  have KN := hid (fun (W : World) (h : Ints W b2 (.slice b D.length d) D) (hp : Pow10 W) => impl_FormatNat b D.length d D hD W (Ints_rowW h) hp)
  clear h i1 i2
  have hs1 := fmtB_size (s := s) (A := A)
  have hs2 := formatL_size (L := D)
  obtain ⟨x, hx⟩ : ∃ x, x = fmtB s A := ⟨_, rfl⟩
  obtain ⟨y, hy⟩ : ∃ y, y = formatL D := ⟨_, rfl⟩
  have HXY := hid (And.intro hx hy)
  rw [← hx] at KB hs1
  rw [← hy] at KN hs2
  clear hx hy
  have hg1 : ¬ 9223372036854775807 < x.size + 1 := by omega
  have hg2 : ¬ 9223372036854775807 < x.size + 1 + y.size := by omega
  generalize hW : w.alloc (.cells #[.bool s, .slice a A.length c, .slice b D.length d] 37) = W0 at B LP H I1 I2 PP
  have HW := hid hW
  clear hW
  obtain ⟨p, hp1⟩ : ∃ p, p = rok s A D := ⟨_, rfl⟩
  rw [← hp1] at KA
  cases p with
  | false =>
    have hE := hid (show z = ByteArray.mk #[] by rw [HZ.out]; exact fmtR_no hp1.symm)
    clear hp1
    go_enter Tryz.func35, Tryz.ntmps35
    have q0 := LP.out.c 0 rfl
    have q1 := LP.out.c 1 rfl
    have q2 := LP.out.c 2 rfl
    go_wp2_with fail
    rw [HW.out]
    (with_reducible refine (KA.out _ H.out).mono ?_)
    clear q0 q1 q2
    rintro e w1 ⟨rfl, b1⟩
    have B := hid (B.out.trans (b1.mono B.out.size))
    clear b1
    go_wp2
    go_ret
    exact StrP_mk hE.out.symm B.out
  | true =>
    by_cases h1 : D = [1]
    · have hE := hid (show x = z by rw [HZ.out, fmtR_one hp1.symm h1, HXY.out.1])
      rw [decide_eq_true h1] at KO
      clear hp1 h1
      go_enter Tryz.func35, Tryz.ntmps35
      have q0 := LP.out.c 0 rfl
      have q1 := LP.out.c 1 rfl
      have q2 := LP.out.c 2 rfl
      go_wp2_with fail
      rw [HW.out]
      (with_reducible refine (KA.out _ H.out).mono ?_)
      clear q0 q1 q2
      rintro e w1 ⟨rfl, b1⟩
      have LP := hid (LP.out.old b1)
      have I1 := hid (Ints_old I1.out b1)
      have I2 := hid (Ints_old I2.out b1)
      have PP := hid (PP.out.old b1)
      have B := hid (B.out.trans (b1.mono B.out.size))
      clear b1
      have q0 := LP.out.c 2 rfl
      go_wp2_with fail
      (with_reducible refine (KO.out _ I2.out).mono ?_)
      clear q0
      rintro e w1x ⟨rfl, rfl⟩
      have q0 := LP.out.c 0 rfl
      have q1 := LP.out.c 1 rfl
      go_wp2_with fail
      (with_reducible refine (KB.out _ I1.out PP.out).mono ?_)
      clear q0 q1
      rintro e w2 ⟨rfl, b1⟩
      have LP := hid (LP.out.old b1)
      have I1 := hid (Ints_old I1.out b1)
      have I2 := hid (Ints_old I2.out b1)
      have PP := hid (PP.out.old b1)
      have B := hid (B.out.trans (b1.mono B.out.size))
      clear b1
      go_wp2
      go_ret
      exact StrP_mk hE.out B.out
    · have hE := hid (show x ++ ByteArray.mk #[47] ++ y = z by rw [HZ.out, fmtR_two hp1.symm h1, HXY.out.1, HXY.out.2])
      rw [decide_eq_false h1] at KO
      clear hp1 h1
      go_enter Tryz.func35, Tryz.ntmps35
      have q0 := LP.out.c 0 rfl
      have q1 := LP.out.c 1 rfl
      have q2 := LP.out.c 2 rfl
      go_wp2_with fail
      rw [HW.out]
      (with_reducible refine (KA.out _ H.out).mono ?_)
      clear q0 q1 q2
      rintro e w1 ⟨rfl, b1⟩
      have LP := hid (LP.out.old b1)
      have I1 := hid (Ints_old I1.out b1)
      have I2 := hid (Ints_old I2.out b1)
      have PP := hid (PP.out.old b1)
      have B := hid (B.out.trans (b1.mono B.out.size))
      clear b1
      have q0 := LP.out.c 2 rfl
      go_wp2_with fail
      (with_reducible refine (KO.out _ I2.out).mono ?_)
      clear q0
      rintro e w1x ⟨rfl, rfl⟩
      go_wp2_with fail
      have LP := hid (LP.out.old (Below_drew1 (Below.refl _ _)))
      have I1 := hid (Ints_old I1.out (Below_drew1 (Below.refl _ _)))
      have I2 := hid (Ints_old I2.out (Below_drew1 (Below.refl _ _)))
      have PP := hid (PP.out.old (Below_drew1 (Below.refl _ _)))
      have B := hid (Below_drew1 B.out)
      have q0 := LP.out.c 0 rfl
      have q1 := LP.out.c 1 rfl
      have q2 := LP.out.c 2 rfl
      go_region_held3 (fun w' => w'.cell? ⟨w.heap.size, 0, none⟩ = some (.bool s) ∧ w'.cell? ⟨w.heap.size, 1, none⟩ = some (.slice a A.length c) ∧ w'.cell? ⟨w.heap.size, 2, none⟩ = some (.slice b D.length d)) (first | exact ⟨q0, q1, q2⟩ | exact ⟨(cell_set2 (by omega)).trans q0, (cell_set2 (by omega)).trans q1, (cell_set2 (by omega)).trans q2⟩ | go_keep) (first | (go_at_call 71; (with_reducible refine (KB.out _ I1.out PP.out).mono ?_); rintro e w2 ⟨rfl, b1⟩; have LP := hid (LP.out.old b1); have I1 := hid (Ints_old I1.out b1); have I2 := hid (Ints_old I2.out b1); have PP := hid (PP.out.old b1); have B := hid (B.out.trans (b1.mono B.out.size)); clear b1; have q0 := LP.out.c 0 rfl; have q1 := LP.out.c 1 rfl; have q2 := LP.out.c 2 rfl) | (go_at_call 72; (with_reducible refine (KN.out _ I2.out PP.out).mono ?_); rintro e w3 ⟨rfl, b1⟩; have LP := hid (LP.out.old b1); have I1 := hid (Ints_old I1.out b1); have I2 := hid (Ints_old I2.out b1); have PP := hid (PP.out.old b1); have B := hid (B.out.trans (b1.mono B.out.size)); clear b1; have q0 := LP.out.c 0 rfl; have q1 := LP.out.c 1 rfl; have q2 := LP.out.c 2 rfl))
      clear q0 q1 q2
      go_wp2
      go_ret
      exact StrP_mk hE.out B.out
end Go.Proofs.YthkehmnodcmlcaaGreatDoor
