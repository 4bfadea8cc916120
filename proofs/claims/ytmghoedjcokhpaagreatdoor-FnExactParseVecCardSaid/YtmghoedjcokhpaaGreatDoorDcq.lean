/- Merged: Ff Dcm Pcs Prv. -/
import Derived.Test.YtmghoedjcokhpaaGreatDoorFb
import Derived.Test.YtmghoedjcokhpaaGreatDoorFra
import Derived.Test.YtmghoedjcokhpaaGreatDoorSra
import Derived.Deep.RegionHeld3
import Derived.Test.YtmghoedjcokhpaaGreatDoorNg
import Derived.Lib.IndexMore
import Derived.Lib.IndexBytes
/- FormatRat: the text of a fraction. -/
namespace Go.Proofs.YtmghoedjcokhpaaGreatDoor
open Go.RowKit
open Go.Lib (hid)
set_option linter.unusedVariables false

/-- The text of a struct of a sign, limbs and limbs. -/
def fmtR (s : Bool) (A D : List Int) : ByteArray := if rok s A D then (if D = [1] then fmtB s A else fmtB s A ++ ByteArray.mk #[47] ++ formatL D) else ByteArray.mk #[]
theorem fmtR_no {s : Bool} {A D : List Int} (h : rok s A D = false) : fmtR s A D = ByteArray.mk #[] := by simp [fmtR, h]
theorem fmtR_one {s : Bool} {A D : List Int} (h : rok s A D = true) (h1 : D = [1]) : fmtR s A D = fmtB s A := by unfold fmtR; rw [if_pos h, if_pos h1]
theorem fmtR_two {s : Bool} {A D : List Int} (h : rok s A D = true) (h1 : D ≠ [1]) : fmtR s A D = fmtB s A ++ ByteArray.mk #[47] ++ formatL D := by unfold fmtR; rw [if_pos h, if_neg h1]
theorem Pow10.old {w w' : World} (h : Pow10 w) (hb : Below w.heap.size w w') : Pow10 w' := pow_below h hb
theorem fmtB_size {s : Bool} {A : List Int} : (fmtB s A).size ≤ 1301 := by
  have h := formatL_size (L := A)
  unfold fmtB
  split
  · split
    · rw [ByteArray.size_append]; show 1 + _ ≤ _; omega
    · omega
  · show 0 ≤ 1301; omega

set_option maxRecDepth 100000 in
set_option maxHeartbeats 3200000 in
theorem spec_FormatRat (s : Bool) (v u : Value) (A D : List Int) (w : World) (h : RL w v u A D) :
    Calls Tryz.prog 34 #[.agg #[.bool s, v, u]] w (StrP (fmtR s A D) w) := by
  obtain ⟨z, hz⟩ : ∃ z, z = fmtR s A D := ⟨_, rfl⟩
  have HZ := hid hz
  rw [← hz]
  clear hz
  have hA : A.length ≤ 1073741824 := by have := h.la; omega
  have hD : D.length ≤ 1073741824 := by have := h.ld; omega
  have KA := hid (fun (W : World) (h : RL W v u A D) => spec_RatOk s v u A D W h)
  obtain ⟨b1, i1⟩ := h.a
  obtain ⟨b2, i2⟩ := h.d
  have KO := hid (fun (W : World) (h : Ints W b2 u D) => l04One_own u D hD b2 W h)
  have KB := hid (fun (W : World) (h : Ints W b1 v A) => spec_FormatBigInt s v A hA b1 W h)
  have B := hid (below_new' (w := w) (o := .cells #[.bool s, v, u] 40))
  have LP := hid (LocA.new (w := w) (T := 40) (cs := #[.bool s, v, u]))
  have H := hid (h.old B.out)
  have I1 := hid (Ints_old i1 B.out)
  have I2 := hid (Ints_old i2 B.out)
  obtain ⟨a, c, b, d, rfl, rfl⟩ := h.form
  have KN := hid (fun (W : World) (h : Ints W b2 (.slice b D.length d) D) => spec_FormatNat b D.length d D hD W (Ints_rowW h))
  clear h i1 i2
  have hs1 := fmtB_size (s := s) (A := A)
  have hs2 := formatL_size (L := D)
  obtain ⟨x, hx⟩ : ∃ x, x = fmtB s A := ⟨_, rfl⟩
  obtain ⟨y, hy⟩ : ∃ y, y = formatL D := ⟨_, rfl⟩
  have HXY := hid (And.intro hx hy)
  rw [← hx] at KB hs1
  rw [← hy] at KN hs2
  clear hx hy
  have hg1 : ¬ 9223372036854775807 < x.size + 1 := by omega
  have hg2 : ¬ 9223372036854775807 < x.size + 1 + y.size := by omega
  generalize hW : w.alloc (.cells #[.bool s, .slice a A.length c, .slice b D.length d] 40) = W0 at B LP H I1 I2
  have HW := hid hW
  clear hW
  obtain ⟨p, hp1⟩ : ∃ p, p = rok s A D := ⟨_, rfl⟩
  rw [← hp1] at KA
  cases p with
  | false =>
    have hE := hid (show z = ByteArray.mk #[] by rw [HZ.out]; exact fmtR_no hp1.symm)
    clear hp1
    go_enter Tryz.func34, Tryz.ntmps34
    have q0 := LP.out.c 0 rfl
    have q1 := LP.out.c 1 rfl
    have q2 := LP.out.c 2 rfl
    go_wp2_with fail
    rw [HW.out]
    (with_reducible refine (KA.out _ H.out).mono ?_)
    clear q0 q1 q2
    rintro e w1 ⟨rfl, b1⟩
    have B := hid (B.out.trans (b1.mono B.out.size))
    clear b1
    go_wp2
    go_ret
    exact StrP_mk hE.out.symm B.out
  | true =>
    by_cases h1 : D = [1]
    · have hE := hid (show x = z by rw [HZ.out, fmtR_one hp1.symm h1, HXY.out.1])
      rw [decide_eq_true h1] at KO
      clear hp1 h1
      go_enter Tryz.func34, Tryz.ntmps34
      have q0 := LP.out.c 0 rfl
      have q1 := LP.out.c 1 rfl
      have q2 := LP.out.c 2 rfl
      go_wp2_with fail
      rw [HW.out]
      (with_reducible refine (KA.out _ H.out).mono ?_)
      clear q0 q1 q2
      rintro e w1 ⟨rfl, b1⟩
      have LP := hid (LP.out.old b1)
      have I1 := hid (Ints_old I1.out b1)
      have I2 := hid (Ints_old I2.out b1)
      have B := hid (B.out.trans (b1.mono B.out.size))
      clear b1
      have q0 := LP.out.c 2 rfl
      go_wp2_with fail
      (with_reducible refine (KO.out _ I2.out).mono ?_)
      clear q0
      rintro e w1x ⟨rfl, rfl⟩
      have q0 := LP.out.c 0 rfl
      have q1 := LP.out.c 1 rfl
      go_wp2_with fail
      (with_reducible refine (KB.out _ I1.out).mono ?_)
      clear q0 q1
      rintro e w2 ⟨rfl, b1⟩
      have LP := hid (LP.out.old b1)
      have I1 := hid (Ints_old I1.out b1)
      have I2 := hid (Ints_old I2.out b1)
      have B := hid (B.out.trans (b1.mono B.out.size))
      clear b1
      go_wp2
      go_ret
      exact StrP_mk hE.out B.out
    · have hE := hid (show x ++ ByteArray.mk #[47] ++ y = z by rw [HZ.out, fmtR_two hp1.symm h1, HXY.out.1, HXY.out.2])
      rw [decide_eq_false h1] at KO
      clear hp1 h1
      go_enter Tryz.func34, Tryz.ntmps34
      have q0 := LP.out.c 0 rfl
      have q1 := LP.out.c 1 rfl
      have q2 := LP.out.c 2 rfl
      go_wp2_with fail
      rw [HW.out]
      (with_reducible refine (KA.out _ H.out).mono ?_)
      clear q0 q1 q2
      rintro e w1 ⟨rfl, b1⟩
      have LP := hid (LP.out.old b1)
      have I1 := hid (Ints_old I1.out b1)
      have I2 := hid (Ints_old I2.out b1)
      have B := hid (B.out.trans (b1.mono B.out.size))
      clear b1
      have q0 := LP.out.c 2 rfl
      go_wp2_with fail
      (with_reducible refine (KO.out _ I2.out).mono ?_)
      clear q0
      rintro e w1x ⟨rfl, rfl⟩
      go_wp2_with fail
      have LP := hid (LP.out.old (Below_drew1 (Below.refl _ _)))
      have I1 := hid (Ints_old I1.out (Below_drew1 (Below.refl _ _)))
      have I2 := hid (Ints_old I2.out (Below_drew1 (Below.refl _ _)))
      have B := hid (Below_drew1 B.out)
      have q0 := LP.out.c 0 rfl
      have q1 := LP.out.c 1 rfl
      have q2 := LP.out.c 2 rfl
      go_region_held3 (fun w' => w'.cell? ⟨w.heap.size, 0, none⟩ = some (.bool s) ∧ w'.cell? ⟨w.heap.size, 1, none⟩ = some (.slice a A.length c) ∧ w'.cell? ⟨w.heap.size, 2, none⟩ = some (.slice b D.length d)) (first | exact ⟨q0, q1, q2⟩ | exact ⟨(cell_set2 (by omega)).trans q0, (cell_set2 (by omega)).trans q1, (cell_set2 (by omega)).trans q2⟩ | go_keep) (first | (go_at_call 70; (with_reducible refine (KB.out _ I1.out).mono ?_); rintro e w2 ⟨rfl, b1⟩; have LP := hid (LP.out.old b1); have I1 := hid (Ints_old I1.out b1); have I2 := hid (Ints_old I2.out b1); have B := hid (B.out.trans (b1.mono B.out.size)); clear b1; have q0 := LP.out.c 0 rfl; have q1 := LP.out.c 1 rfl; have q2 := LP.out.c 2 rfl) | (go_at_call 71; (with_reducible refine (KN.out _ I2.out).mono ?_); rintro e w3 ⟨rfl, b1⟩; have LP := hid (LP.out.old b1); have I1 := hid (Ints_old I1.out b1); have I2 := hid (Ints_old I2.out b1); have B := hid (B.out.trans (b1.mono B.out.size)); clear b1; have q0 := LP.out.c 0 rfl; have q1 := LP.out.c 1 rfl; have q2 := LP.out.c 2 rfl))
      clear q0 q1 q2
      go_wp2
      go_ret
      exact StrP_mk hE.out B.out
set_option maxRecDepth 100000 in
set_option maxHeartbeats 3200000 in
theorem impl_FormatRat (s : Bool) (v u : Value) (A D : List Int) (w : World) (h : RL w v u A D) (hp : Pow10 w) :
    Calls Tryz.prog 23 #[.agg #[.bool s, v, u]] w (StrP (fmtR s A D) w) := by
  obtain ⟨z, hz⟩ : ∃ z, z = fmtR s A D := ⟨_, rfl⟩
  have HZ := hid hz
  rw [← hz]
  clear hz
  have hA : A.length ≤ 1073741824 := by have := h.la; omega
  have hD : D.length ≤ 1073741824 := by have := h.ld; omega
  have KA := hid (fun (W : World) (h : RL W v u A D) => impl_RatOk s v u A D W h)
  obtain ⟨b1, i1⟩ := h.a
  obtain ⟨b2, i2⟩ := h.d
  have KO := hid (fun (W : World) (h : Ints W b2 u D) => isOne_own u D hD b2 W h)
  have KB := hid (fun (W : World) (h : Ints W b1 v A) (hp : Pow10 W) => impl_FormatBigInt s v A hA b1 W h hp)
  have B := hid (below_new' (w := w) (o := .cells #[.bool s, v, u] 40))
  have LP := hid (LocA.new (w := w) (T := 40) (cs := #[.bool s, v, u]))
  have H := hid (h.old B.out)
  have I1 := hid (Ints_old i1 B.out)
  have I2 := hid (Ints_old i2 B.out)
  have PP := hid (pow_below hp B.out)
  obtain ⟨a, c, b, d, rfl, rfl⟩ := h.form
  have KN := hid (fun (W : World) (h : Ints W b2 (.slice b D.length d) D) (hp : Pow10 W) => impl_FormatNat b D.length d D hD W (Ints_rowW h) hp)
  clear h i1 i2
  have hs1 := fmtB_size (s := s) (A := A)
  have hs2 := formatL_size (L := D)
  obtain ⟨x, hx⟩ : ∃ x, x = fmtB s A := ⟨_, rfl⟩
  obtain ⟨y, hy⟩ : ∃ y, y = formatL D := ⟨_, rfl⟩
  have HXY := hid (And.intro hx hy)
  rw [← hx] at KB hs1
  rw [← hy] at KN hs2
  clear hx hy
  have hg1 : ¬ 9223372036854775807 < x.size + 1 := by omega
  have hg2 : ¬ 9223372036854775807 < x.size + 1 + y.size := by omega
  generalize hW : w.alloc (.cells #[.bool s, .slice a A.length c, .slice b D.length d] 40) = W0 at B LP H I1 I2 PP
  have HW := hid hW
  clear hW
  obtain ⟨p, hp1⟩ : ∃ p, p = rok s A D := ⟨_, rfl⟩
  rw [← hp1] at KA
  cases p with
  | false =>
    have hE := hid (show z = ByteArray.mk #[] by rw [HZ.out]; exact fmtR_no hp1.symm)
    clear hp1
    go_enter Tryz.func23, Tryz.ntmps23
    have q0 := LP.out.c 0 rfl
    have q1 := LP.out.c 1 rfl
    have q2 := LP.out.c 2 rfl
    go_wp2_with fail
    rw [HW.out]
    (with_reducible refine (KA.out _ H.out).mono ?_)
    clear q0 q1 q2
    rintro e w1 ⟨rfl, b1⟩
    have B := hid (B.out.trans (b1.mono B.out.size))
    clear b1
    go_wp2
    go_ret
    exact StrP_mk hE.out.symm B.out
  | true =>
    by_cases h1 : D = [1]
    · have hE := hid (show x = z by rw [HZ.out, fmtR_one hp1.symm h1, HXY.out.1])
      rw [decide_eq_true h1] at KO
      clear hp1 h1
      go_enter Tryz.func23, Tryz.ntmps23
      have q0 := LP.out.c 0 rfl
      have q1 := LP.out.c 1 rfl
      have q2 := LP.out.c 2 rfl
      go_wp2_with fail
      rw [HW.out]
      (with_reducible refine (KA.out _ H.out).mono ?_)
      clear q0 q1 q2
      rintro e w1 ⟨rfl, b1⟩
      have LP := hid (LP.out.old b1)
      have I1 := hid (Ints_old I1.out b1)
      have I2 := hid (Ints_old I2.out b1)
      have PP := hid (PP.out.old b1)
      have B := hid (B.out.trans (b1.mono B.out.size))
      clear b1
      have q0 := LP.out.c 2 rfl
      go_wp2_with fail
      (with_reducible refine (KO.out _ I2.out).mono ?_)
      clear q0
      rintro e w1x ⟨rfl, rfl⟩
      have q0 := LP.out.c 0 rfl
      have q1 := LP.out.c 1 rfl
      go_wp2_with fail
      (with_reducible refine (KB.out _ I1.out PP.out).mono ?_)
      clear q0 q1
      rintro e w2 ⟨rfl, b1⟩
      have LP := hid (LP.out.old b1)
      have I1 := hid (Ints_old I1.out b1)
      have I2 := hid (Ints_old I2.out b1)
      have PP := hid (PP.out.old b1)
      have B := hid (B.out.trans (b1.mono B.out.size))
      clear b1
      go_wp2
      go_ret
      exact StrP_mk hE.out B.out
    · have hE := hid (show x ++ ByteArray.mk #[47] ++ y = z by rw [HZ.out, fmtR_two hp1.symm h1, HXY.out.1, HXY.out.2])
      rw [decide_eq_false h1] at KO
      clear hp1 h1
      go_enter Tryz.func23, Tryz.ntmps23
      have q0 := LP.out.c 0 rfl
      have q1 := LP.out.c 1 rfl
      have q2 := LP.out.c 2 rfl
      go_wp2_with fail
      rw [HW.out]
      (with_reducible refine (KA.out _ H.out).mono ?_)
      clear q0 q1 q2
      rintro e w1 ⟨rfl, b1⟩
      have LP := hid (LP.out.old b1)
      have I1 := hid (Ints_old I1.out b1)
      have I2 := hid (Ints_old I2.out b1)
      have PP := hid (PP.out.old b1)
      have B := hid (B.out.trans (b1.mono B.out.size))
      clear b1
      have q0 := LP.out.c 2 rfl
      go_wp2_with fail
      (with_reducible refine (KO.out _ I2.out).mono ?_)
      clear q0
      rintro e w1x ⟨rfl, rfl⟩
      go_wp2_with fail
      have LP := hid (LP.out.old (Below_drew1 (Below.refl _ _)))
      have I1 := hid (Ints_old I1.out (Below_drew1 (Below.refl _ _)))
      have I2 := hid (Ints_old I2.out (Below_drew1 (Below.refl _ _)))
      have PP := hid (PP.out.old (Below_drew1 (Below.refl _ _)))
      have B := hid (Below_drew1 B.out)
      have q0 := LP.out.c 0 rfl
      have q1 := LP.out.c 1 rfl
      have q2 := LP.out.c 2 rfl
      go_region_held3 (fun w' => w'.cell? ⟨w.heap.size, 0, none⟩ = some (.bool s) ∧ w'.cell? ⟨w.heap.size, 1, none⟩ = some (.slice a A.length c) ∧ w'.cell? ⟨w.heap.size, 2, none⟩ = some (.slice b D.length d)) (first | exact ⟨q0, q1, q2⟩ | exact ⟨(cell_set2 (by omega)).trans q0, (cell_set2 (by omega)).trans q1, (cell_set2 (by omega)).trans q2⟩ | go_keep) (first | (go_at_call 21; (with_reducible refine (KB.out _ I1.out PP.out).mono ?_); rintro e w2 ⟨rfl, b1⟩; have LP := hid (LP.out.old b1); have I1 := hid (Ints_old I1.out b1); have I2 := hid (Ints_old I2.out b1); have PP := hid (PP.out.old b1); have B := hid (B.out.trans (b1.mono B.out.size)); clear b1; have q0 := LP.out.c 0 rfl; have q1 := LP.out.c 1 rfl; have q2 := LP.out.c 2 rfl) | (go_at_call 19; (with_reducible refine (KN.out _ I2.out PP.out).mono ?_); rintro e w3 ⟨rfl, b1⟩; have LP := hid (LP.out.old b1); have I1 := hid (Ints_old I1.out b1); have I2 := hid (Ints_old I2.out b1); have PP := hid (PP.out.old b1); have B := hid (B.out.trans (b1.mono B.out.size)); clear b1; have q0 := LP.out.c 0 rfl; have q1 := LP.out.c 1 rfl; have q2 := LP.out.c 2 rfl))
      clear q0 q1 q2
      go_wp2
      go_ret
      exact StrP_mk hE.out B.out
end Go.Proofs.YtmghoedjcokhpaaGreatDoor

/- Decimals: a numeral without a zero in front is the numeral of its value; what is written reads back. No program text. -/
namespace Go.Proofs.YtmghoedjcokhpaaGreatDoor
open Go.RowKit
open Go.Lib (hid)
set_option linter.unusedVariables false

theorem valFrom_pow (l : List UInt8) : ∀ a, valFrom a l = a * 10 ^ l.length + valL l := by
  induction l with
  | nil => intro a; simp [valFrom, valL]
  | cons c l ih =>
    intro a
    show valFrom (a * 10 + (c.toNat - 48)) l = a * 10 ^ (l.length + 1) + valFrom (0 * 10 + (c.toNat - 48)) l
    rw [ih, ih (0 * 10 + (c.toNat - 48)), Nat.pow_succ, Nat.add_mul, Nat.zero_mul, Nat.zero_add, Nat.mul_assoc, Nat.mul_comm 10]
    omega
theorem valL_app (l m : List UInt8) : valL (l ++ m) = valL l * 10 ^ m.length + valL m := by
  have : valL (l ++ m) = valFrom (valL l) m := by simp [valL, valFrom]
  rw [this, valFrom_pow]
/-- The digits of a numeral without a zero in front. -/
def plain (l : List UInt8) : Prop := l ≠ [] ∧ (∀ c ∈ l, isD c) ∧ (l.length = 1 ∨ l.head? ≠ some 48)
theorem valL_lt {l : List UInt8} (h : ∀ c ∈ l, isD c) : valL l < 10 ^ l.length := by
  induction l with
  | nil => simp [valL, valFrom]
  | cons c l ih =>
    have h1 := h c (by simp)
    have h2 := ih (fun d hd => h d (by simp [hd]))
    have : valL (c :: l) = (c.toNat - 48) * 10 ^ l.length + valL l := by
      have := valL_app [c] l
      simpa [valL, valFrom] using this
    rw [this, List.length_cons, Nat.pow_succ]
    have h3 : c.toNat - 48 ≤ 9 := by have := h1.2; omega
    have := Nat.mul_le_mul_right (10 ^ l.length) h3
    omega
theorem valL_ge {l : List UInt8} (h : plain l) (h1 : l.length ≠ 1) : 10 ^ (l.length - 1) ≤ valL l := by
  obtain ⟨hne, hd, hh⟩ := h
  cases l with
  | nil => exact absurd rfl hne
  | cons c l =>
    have e : valL (c :: l) = (c.toNat - 48) * 10 ^ l.length + valL l := by
      have := valL_app [c] l
      simpa [valL, valFrom] using this
    have hc := hd c (by simp)
    have h3 : c ≠ 48 := by
      rcases hh with h | h
      · exact absurd h h1
      · simpa using h
    have h4 : 1 ≤ c.toNat - 48 := by
      have : c.toNat ≠ 48 := fun e => h3 (UInt8.toNat.inj e)
      have := hc.1
      omega
    rw [e]
    have := Nat.mul_le_mul_right (10 ^ l.length) h4
    show 10 ^ (l.length + 1 - 1) ≤ _
    rw [Nat.add_sub_cancel]
    omega
theorem head_app {l m : List UInt8} (h : l ≠ []) : (l ++ m).head? = l.head? := by
  cases l with
  | nil => exact absurd rfl h
  | cons a l => rfl
theorem digit_of {c : UInt8} (h : isD c) : UInt8.ofNat (48 + (c.toNat - 48)) = c := by
  have := h.1
  have := h.2
  rw [show 48 + (c.toNat - 48) = c.toNat by omega]
  exact UInt8.ofNat_toNat
theorem dec_unique (k : Nat) : ∀ l : List UInt8, l.length = k → plain l → Lib.decDigits (valL l) = l := by
  induction k with
  | zero => intro l hl h; exact absurd (List.eq_nil_of_length_eq_zero hl) h.1
  | succ k ih =>
    intro l hl h
    obtain ⟨m, c, rfl⟩ : ∃ m c, l = m ++ [c] := ⟨l.dropLast, l.getLast h.1, (List.dropLast_concat_getLast h.1).symm⟩
    have hm : m.length = k := by simpa using hl
    have hc : isD c := h.2.1 c (by simp)
    have hc9 : c.toNat - 48 < 10 := by have := hc.2; omega
    rw [valL_snoc]
    by_cases hm0 : m = []
    · subst hm0
      rw [show valL [] = 0 from rfl, Nat.zero_mul, Nat.zero_add, Lib.decDigits, dif_pos hc9, digit_of hc]
      rfl
    · have hp : plain m := by
        refine ⟨hm0, fun d hd => h.2.1 d (by simp [hd]), ?_⟩
        rcases h.2.2 with e | e
        · have : 0 < m.length := List.length_pos_iff.2 hm0
          simp at e
          exact absurd e hm0
        · right
          rw [head_app hm0] at e
          exact e
      have hv : 1 ≤ valL m := by
        by_cases h1 : m.length = 1
        · obtain ⟨d, rfl⟩ := List.length_eq_one_iff.1 h1
          have hd := hp.2.1 d (by simp)
          rcases h.2.2 with e | e
          · simp at e
          · have h3 : d ≠ 48 := by simpa using e
            have : d.toNat ≠ 48 := fun e => h3 (UInt8.toNat.inj e)
            have := hd.1
            simp [valL, valFrom]
            omega
        · have := valL_ge hp h1
          have : 0 < 10 ^ (m.length - 1) := Nat.pow_pos (by decide)
          omega
      rw [Lib.decDigits, dif_neg (by omega), show (valL m * 10 + (c.toNat - 48)) / 10 = valL m by omega, show (valL m * 10 + (c.toNat - 48)) % 10 = c.toNat - 48 by omega, digit_of hc, ih m hm hp]
theorem dec_plain (u : Nat) : plain (Lib.decDigits u) := by
  refine ⟨dec_ne u, dec_digits u, ?_⟩
  induction u using Nat.strongRecOn with
  | _ u ih =>
    rw [Lib.decDigits]
    by_cases h : u < 10
    · rw [dif_pos h]; left; rfl
    · rw [dif_neg h]
      right
      rw [head_app (dec_ne _)]
      rcases ih (u / 10) (by omega) with e | e
      · obtain ⟨d, hd⟩ := List.length_eq_one_iff.1 e
        rw [hd]
        intro e2
        have e3 : d = 48 := by simpa using e2
        have := valL_dec (u / 10)
        rw [hd, e3] at this
        simp [valL, valFrom] at this
        omega
      · exact e
theorem dec_fits (u k : Nat) (hk : 0 < k) : (Lib.decDigits u).length ≤ k ↔ u < 10 ^ k := by
  constructor
  · intro h
    have := valL_lt (dec_digits u)
    rw [valL_dec] at this
    exact Nat.lt_of_lt_of_le this (Nat.pow_le_pow_right (by decide) h)
  · intro h
    rcases Nat.lt_or_ge k (Lib.decDigits u).length with e | e
    · have := valL_ge (dec_plain u) (by omega)
      rw [valL_dec] at this
      have := Nat.pow_le_pow_right (n := 10) (by decide) (show k ≤ (Lib.decDigits u).length - 1 by omega)
      omega
    · exact e
theorem seg_split {s : ByteArray} {f e : Nat} (hf : f ≤ e) (he : e ≤ s.size) : seg s 0 e = seg s 0 f * 10 ^ (e - f) + seg s f e := by
  unfold seg
  have h1 : (s.data.toList.drop 0).take (e - 0) = (s.data.toList.drop 0).take (f - 0) ++ (s.data.toList.drop f).take (e - f) := by
    rw [List.drop_zero, Nat.sub_zero, Nat.sub_zero, show e = f + (e - f) by omega, List.take_add, show f + (e - f) - f = e - f by omega]
  have hs : s.data.toList.length = s.size := by simp
  have h2 : ((s.data.toList.drop f).take (e - f)).length = e - f := by
    rw [List.length_take, List.length_drop, hs]; omega
  rw [h1, valL_app, h2]
theorem rest_val {s : ByteArray} (e : Nat) (he : e ≤ s.size) : val (rest s e) = seg s 0 e := by
  induction e using Nat.strongRecOn with
  | _ e ih =>
    by_cases h : e = 0
    · subst h; rw [rest_zero, seg_zero]; rfl
    · rw [rest_pos s h]
      show ((seg s (e - 9) e : Nat) : Int) + 1000000000 * val (rest s (e - 9)) = _
      rw [ih (e - 9) (by omega) (by omega)]
      by_cases h9 : e ≤ 9
      · rw [show e - 9 = 0 by omega, seg_zero]
        show ((seg s 0 e : Nat) : Int) + 1000000000 * ((0 : Nat) : Int) = _
        omega
      · rw [seg_split (f := e - 9) (e := e) (by omega) he, show e - (e - 9) = 9 by omega, show (10 : Nat) ^ 9 = 1000000000 from rfl]
        omega
theorem seg_all (s : ByteArray) : seg s 0 s.size = valL s.data.toList := by
  unfold seg
  rw [List.drop_zero, Nat.sub_zero, List.take_of_length_le (by simp)]
theorem plain_of {s : ByteArray} (h : parseB s = true) : plain s.data.toList := by
  obtain ⟨h1, h2⟩ := parse_parts h
  have hp := digs_pos h1
  have hl : s.data.toList.length = s.size := by simp
  refine ⟨fun e => by rw [e] at hl; simp at hl; omega, fun c hc => ?_, ?_⟩
  · obtain ⟨i, hi, rfl⟩ := List.getElem_of_mem hc
    have := isD_of h1 (i := i) (by omega)
    exact this
  · by_cases e : s.size = 1
    · left; omega
    · right
      intro e2
      unfold parseB at h
      rw [e2] at h
      simp at h
      omega
/-- A numeral that is read: the decimal of its value. -/
theorem parse_text {s : ByteArray} (h : parseB s = true) : s.data.toList = Lib.decDigits (valL s.data.toList) ∧ parseR s = rep (valL s.data.toList) := by
  refine ⟨(dec_unique _ _ rfl (plain_of h)).symm, ?_⟩
  rw [parseR_yes h, rest_val _ (Nat.le_refl _), seg_all, Int.toNat_natCast]
theorem bts_list (l : List UInt8) : (bts l).data.toList = l := by simp [bts]
theorem app_list (x y : ByteArray) : (x ++ y).data.toList = x.data.toList ++ y.data.toList := by
  cases x; cases y; simp
theorem list_inj {x y : ByteArray} (h : x.data.toList = y.data.toList) : x = y := by
  cases x; cases y
  simp only at h
  congr 1
  exact Array.toList_inj.1 h
theorem itoa_dec {z : Int} (h : 0 ≤ z) : Lib.itoa z = Lib.decDigits z.toNat := by
  unfold Lib.itoa
  rw [if_neg (by omega)]
theorem val_zeros48 (k : Nat) : valL (List.replicate k 48) = 0 := by
  induction k with
  | zero => rfl
  | succ k ih => rw [List.replicate_succ', valL_snoc, ih]; rfl
/-- Nine digits of a limb. -/
theorem pad_nine {x : Int} (h0 : 0 ≤ x) (h1 : x < 1000000000) : (padded (bts (Lib.itoa x)) 9).data.toList.length = 9 ∧ (∀ c ∈ (padded (bts (Lib.itoa x)) 9).data.toList, isD c) ∧ valL (padded (bts (Lib.itoa x)) 9).data.toList = x.toNat := by
  have hl : (Lib.decDigits x.toNat).length ≤ 9 := (dec_fits _ 9 (by decide)).2 (by show x.toNat < 1000000000; omega)
  rw [itoa_dec h0]
  have hs : (bts (Lib.decDigits x.toNat)).size = (Lib.decDigits x.toNat).length := bts_size _
  by_cases h9 : (Lib.decDigits x.toNat).length = 9
  · rw [padded_no (.inl (by rw [hs, h9]; decide)), bts_list]
    exact ⟨h9, dec_digits _, valL_dec _⟩
  · rw [padded_yes (by rw [hs]; omega) (by decide), padK_is]
    simp only [bts_list]
    refine ⟨by simp [hs]; omega, fun c hc => ?_, ?_⟩
    · rcases List.mem_append.1 hc with e | e
      · have := (List.mem_replicate.1 e).2
        subst this
        exact ⟨by decide, by decide⟩
      · exact dec_digits _ c e
    · rw [valL_app, val_zeros48, valL_dec, Nat.zero_mul, Nat.zero_add]
theorem fmtD_list {L : List Int} (hc : Can L) (hne : L ≠ []) : ∀ j, j + 1 ≤ L.length → (fmtD L j).data.toList ≠ [] ∧ (∀ c ∈ (fmtD L j).data.toList, isD c) ∧ (fmtD L j).data.toList.head? ≠ some 48 ∧ ((valL (fmtD L j).data.toList : Nat) : Int) = val (L.drop (L.length - 1 - j)) := by
  intro j
  induction j with
  | zero =>
    intro hj
    have hlim := Lim_at hc.1 (i := L.length - 1) (by omega)
    have hget : L.getD (L.length - 1) 0 = L[L.length - 1] := getD_in (by omega)
    have hlast : L[L.length - 1] ≠ 0 := by
      have := hc.2 hne
      rwa [List.getLast_eq_getElem] at this
    show (bts (Lib.itoa (L.getD (L.length - 1) 0))).data.toList ≠ [] ∧ _
    have e : (fmtD L 0).data.toList = Lib.decDigits (L[L.length - 1]).toNat := by
      show (bts (Lib.itoa (L.getD (L.length - 1) 0))).data.toList = _
      rw [hget, itoa_dec hlim.1, bts_list]
    show (fmtD L 0).data.toList ≠ [] ∧ _
    rw [e]
    refine ⟨dec_ne _, dec_digits _, ?_, ?_⟩
    · rcases (dec_plain (L[L.length - 1]).toNat).2.2 with h | h
      · obtain ⟨d, hd⟩ := List.length_eq_one_iff.1 h
        rw [hd]
        intro e2
        have e3 : d = 48 := by simpa using e2
        have := valL_dec (L[L.length - 1]).toNat
        rw [hd, e3] at this
        simp [valL, valFrom] at this
        omega
      · exact h
    · rw [valL_dec, Nat.sub_zero, val_drop (by omega), val_drop_end (by omega)]
      omega
  | succ j ih =>
    intro hj
    obtain ⟨h1, h2, h3, h4⟩ := ih (by omega)
    have hlim := Lim_at hc.1 (i := L.length - 2 - j) (by omega)
    have hget : L.getD (L.length - 2 - j) 0 = L[L.length - 2 - j] := getD_in (by omega)
    obtain ⟨p1, p2, p3⟩ := pad_nine hlim.1 hlim.2
    have e : (fmtD L (j + 1)).data.toList = (fmtD L j).data.toList ++ (padded (bts (Lib.itoa L[L.length - 2 - j])) 9).data.toList := by
      show (fmtD L j ++ padded (bts (Lib.itoa (L.getD (L.length - 2 - j) 0))) 9).data.toList = _
      rw [app_list, hget]
    rw [e]
    refine ⟨by simp [h1], fun c hc => ?_, by rw [head_app h1]; exact h3, ?_⟩
    · rcases List.mem_append.1 hc with e | e
      · exact h2 c e
      · exact p2 c e
    · rw [valL_app, p1, p3]
      have e2 : L.length - 1 - (j + 1) = L.length - 2 - j := by omega
      rw [e2, val_drop (by omega), show L.length - 2 - j + 1 = L.length - 1 - j by omega, ← h4, show (10 : Nat) ^ 9 = 1000000000 from rfl]
      omega
/-- A number's text is the decimal of its value. -/
theorem format_text {L : List Int} (h : nok L = true) : (formatL L).data.toList = Lib.decDigits (val L).toNat := by
  by_cases hne : L = []
  · rw [formatL_nil h hne, hne]
    show [48] = Lib.decDigits 0
    rw [Lib.decDigits, dif_pos (by decide)]
    rfl
  · have hlen : 0 < L.length := List.length_pos_iff.2 hne
    obtain ⟨h1, h2, h3, h4⟩ := fmtD_list (nok_iff.1 h).2 hne (L.length - 1) (by omega)
    rw [formatL_yes h (by omega), ← dec_unique _ _ rfl ⟨h1, h2, .inr h3⟩]
    rw [show L.length - 1 - (L.length - 1) = 0 by omega, List.drop_zero] at h4
    rw [← h4, Int.toNat_natCast]
theorem pw_ten : ∀ n : Nat, pw n = ((10 ^ (9 * n) : Nat) : Int) := by
  intro n
  induction n with
  | zero => rfl
  | succ n ih =>
    show 1000000000 * pw n = _
    rw [ih, Nat.mul_add, Nat.pow_add, show (10 : Nat) ^ (9 * 1) = 1000000000 from rfl]
    omega
/-- What is written reads back. -/
theorem parse_format {L : List Int} (h : nok L = true) : parseB (formatL L) = true ∧ parseR (formatL L) = L := by
  have ht := format_text h
  have hp := dec_plain (val L).toNat
  have hv := nok_lt h
  have h0 := val_nonneg (nok_lim h)
  rw [← ht] at hp
  have hl : (formatL L).data.toList.length = (formatL L).size := by simp
  have hlen : (formatL L).size ≤ 540 := by
    rw [← hl, ht]
    refine (dec_fits _ 540 (by decide)).2 ?_
    have := pw_ten 60
    have e : (9 * 60 : Nat) = 540 := rfl
    rw [e] at this
    omega
  have hpos : 0 < (formatL L).size := by
    have := List.length_pos_iff.2 hp.1
    omega
  have hd : digs (formatL L) = true := by
    rw [digs_true, decide_eq_true hpos]
    intro j hj
    have := hp.2.1 (formatL L)[j] (by
      have : (formatL L)[j] = (formatL L).data.toList[j]'(by omega) := rfl
      rw [this]
      exact List.getElem_mem _)
    exact digAt_yes hj (by have := this.1; omega) (by have := this.2; omega)
  have hb : parseB (formatL L) = true := by
    refine parseB_yes hd hlen ?_
    rcases hp.2.2 with e | e
    · left; omega
    · right
      intro h0 e2
      rw [head_at h0] at e
      exact e (congrArg some (UInt8.toNat.inj e2))
  refine ⟨hb, ?_⟩
  rw [(parse_text hb).2, ht, valL_dec, rep_val (nok_iff.1 h).2]
/-- What is read is written so. -/
theorem format_parse {s : ByteArray} (h : parseB s = true) : formatL (parseR s) = s := by
  obtain ⟨h1, h2⟩ := parse_text h
  have hn : nok (parseR s) = true := nok_parseR
  refine list_inj ?_
  rw [format_text hn, h2, val_rep, Int.toNat_natCast, ← h1]
end Go.Proofs.YtmghoedjcokhpaaGreatDoor

/- The pieces of a text between slashes; the first slash. No program text. -/
namespace Go.Proofs.YtmghoedjcokhpaaGreatDoor
open Go.RowKit
open Go.Lib (hid)
set_option linter.unusedVariables false

def slash (s : ByteArray) (i : Nat) : Bool := hitAt s (ByteArray.mk #[47]) i
theorem slash_iff {s : ByteArray} {i : Nat} : slash s i = true ↔ ∃ h : i < s.size, s[i] = 47 := by
  unfold slash hitAt
  by_cases h : i < s.size
  · rw [dif_pos h]
    have : hitTo (ByteArray.mk #[47]) s[i] (ByteArray.mk #[47]).size = ((47 : UInt8) == s[i]) := by
      show (hitTo (ByteArray.mk #[47]) s[i] 0 || (if h : 0 < (ByteArray.mk #[47]).size then (ByteArray.mk #[47])[0] == s[i] else false)) = _
      rw [dif_pos (by decide)]
      rfl
    rw [this, beq_iff_eq]
    constructor
    · intro e; exact ⟨h, e.symm⟩
    · rintro ⟨_, e⟩; exact e.symm
  · rw [dif_neg h]
    constructor
    · intro e; cases e
    · rintro ⟨e, _⟩; exact absurd e h
theorem cut_stay {s : ByteArray} {p : Nat → Bool} {a : Nat} : ∀ {b : Nat}, a ≤ b → (∀ j, a ≤ j → j < b → p j = false) → cutTo s p b = cutTo s p a := by
  intro b
  induction b with
  | zero => intro h _; rw [show a = 0 by omega]
  | succ b ih =>
    intro h hp
    by_cases e : a = b + 1
    · rw [e]
    · rw [cutTo_no (hp b (by omega) (by omega)), ih (by omega) fun j h1 h2 => hp j h1 (by omega)]
theorem cut_more {s : ByteArray} {p : Nat → Bool} {a : Nat} : ∀ {b : Nat}, a ≤ b → ∃ M, (cutTo s p b).1 = (cutTo s p a).1 ++ M := by
  intro b
  induction b with
  | zero => intro h; rw [show a = 0 by omega]; exact ⟨[], by simp⟩
  | succ b ih =>
    intro h
    by_cases e : a = b + 1
    · subst e; exact ⟨[], by simp⟩
    · obtain ⟨M, hM⟩ := ih (by omega)
      cases hp : p b with
      | true => rw [cutTo_yes hp]; exact ⟨M ++ [s.extract (cutTo s p b).2 b], by simp [hM]⟩
      | false => rw [cutTo_no hp]; exact ⟨M, hM⟩
theorem extract_all (s : ByteArray) : s.extract 0 s.size = s := by
  refine list_inj ?_
  simp
/-- The text has no slash. -/
theorem pieces_none {s : ByteArray} (h : ∀ j, slash s j = false) : pieces s (ByteArray.mk #[47]) = [s] := by
  have e : cutTo s (slash s) s.size = ([], 0) := cut_stay (a := 0) (Nat.zero_le _) fun j _ _ => h j
  unfold pieces
  rw [show hitAt s (ByteArray.mk #[47]) = slash s from rfl, e]
  simp
/-- The first slash is at k. -/
theorem cut_first {s : ByteArray} {k : Nat} (hk : slash s k = true) (h : ∀ j, j < k → slash s j = false) : cutTo s (slash s) (k + 1) = ([s.extract 0 k], k + 1) := by
  have e : cutTo s (slash s) k = ([], 0) := cut_stay (a := 0) (Nat.zero_le _) fun j _ hj => h j hj
  rw [cutTo_yes hk, e]
  rfl
theorem pieces_one {s : ByteArray} {k : Nat} (hk : slash s k = true) (h : ∀ j, j < k → slash s j = false) (h2 : ∀ j, k < j → slash s j = false) : pieces s (ByteArray.mk #[47]) = [s.extract 0 k, s.extract (k + 1) s.size] := by
  obtain ⟨hs, -⟩ := slash_iff.1 hk
  have e : cutTo s (slash s) s.size = ([s.extract 0 k], k + 1) := by
    rw [cut_stay (a := k + 1) (by omega) fun j h1 _ => h2 j (by omega), cut_first hk h]
  unfold pieces
  rw [show hitAt s (ByteArray.mk #[47]) = slash s from rfl, e]
  rfl
theorem pieces_two {s : ByteArray} {k k2 : Nat} (hk : slash s k = true) (h : ∀ j, j < k → slash s j = false) (hkk : k < k2) (hk2 : slash s k2 = true) (h2 : ∀ j, k < j → j < k2 → slash s j = false) : ∃ M, pieces s (ByteArray.mk #[47]) = s.extract 0 k :: s.extract (k + 1) k2 :: M := by
  obtain ⟨hs, -⟩ := slash_iff.1 hk2
  have e : cutTo s (slash s) (k2 + 1) = ([s.extract 0 k, s.extract (k + 1) k2], k2 + 1) := by
    rw [cutTo_yes hk2, cut_stay (a := k + 1) (by omega) fun j h1 h3 => h2 j (by omega) h3, cut_first hk h]
    rfl
  obtain ⟨M, hM⟩ := cut_more (s := s) (p := slash s) (a := k2 + 1) (b := s.size) (by omega)
  rw [e] at hM
  unfold pieces
  rw [show hitAt s (ByteArray.mk #[47]) = slash s from rfl, hM]
  exact ⟨M ++ [s.extract (cutTo s (slash s) s.size).2 s.size], by simp⟩
/-- The least place at which a test holds. -/
theorem least {p : Nat → Bool} {n : Nat} (h : p n = true) : ∃ k, k ≤ n ∧ p k = true ∧ ∀ j, j < k → p j = false := by
  induction n using Nat.strongRecOn with
  | _ n ih =>
    by_cases e : ∃ m, m < n ∧ p m = true
    · obtain ⟨m, hm, hp⟩ := e
      obtain ⟨k, h1, h2, h3⟩ := ih m hm hp
      exact ⟨k, by omega, h2, h3⟩
    · refine ⟨n, Nat.le_refl _, h, fun j hj => ?_⟩
      cases hj2 : p j with
      | true => exact absurd ⟨j, hj, hj2⟩ e
      | false => rfl
theorem index_none {l : List UInt8} (h : ∀ c ∈ l, c ≠ 47) : Lib.index l [47] = -1 := by
  induction l with
  | nil => rfl
  | cons c l ih =>
    have hc := h c (by simp)
    have e := ih fun d hd => h d (by simp [hd])
    unfold Lib.index
    rw [if_neg (by simp; exact fun e => hc e.symm), e]
    rfl
theorem index_at {l m : List UInt8} (h : ∀ c ∈ l, c ≠ 47) : Lib.index (l ++ 47 :: m) [47] = (l.length : Int) := by
  induction l with
  | nil => unfold Lib.index; simp
  | cons c l ih =>
    have hc := h c (by simp)
    have e := ih fun d hd => h d (by simp [hd])
    rw [List.cons_append]
    unfold Lib.index
    rw [if_neg (by simp; exact fun e => hc e.symm), e, if_neg (by simp)]
    simp
/-- How a text is cut at its first slash. -/
theorem cut_cases (s : ByteArray) : ((∀ j, slash s j = false) ∧ Lib.cut s.data.toList [47] = (s.data.toList, [], false)) ∨
    ∃ k, slash s k = true ∧ (∀ j, j < k → slash s j = false) ∧ Lib.cut s.data.toList [47] = ((s.extract 0 k).data.toList, (s.extract (k + 1) s.size).data.toList, true) := by
  have hl : s.data.toList.length = s.size := by simp
  by_cases e : ∃ m, slash s m = true
  · obtain ⟨m, hm⟩ := e
    obtain ⟨k, -, hk, hlt⟩ := least hm
    right
    refine ⟨k, hk, hlt, ?_⟩
    obtain ⟨hs, h47⟩ := slash_iff.1 hk
    have h1 : s.data.toList = s.data.toList.take k ++ 47 :: s.data.toList.drop (k + 1) := by
      have h2 : s.data.toList[k]'(by omega) = 47 := h47
      rw [← h2, ← List.drop_eq_getElem_cons, List.take_append_drop]
    have hno : ∀ c ∈ s.data.toList.take k, c ≠ 47 := by
      intro c hc e
      obtain ⟨j, hj, rfl⟩ := List.getElem_of_mem hc
      have hj1 : j < k := by have := List.length_take_le k s.data.toList; omega
      have hj2 : s.data.toList[j]'(by omega) = 47 := by rw [List.getElem_take] at e; exact e
      have := hlt j hj1
      have h3 : slash s j = true := slash_iff.2 ⟨by omega, hj2⟩
      rw [h3] at this
      cases this
    have hi : Lib.index s.data.toList [47] = (k : Int) := by
      rw [h1, index_at hno, List.length_take, hl]
      omega
    unfold Lib.cut
    rw [hi, if_pos (by omega)]
    have e1 : (s.extract 0 k).data.toList = s.data.toList.take k := by simp
    have e2 : (s.extract (k + 1) s.size).data.toList = s.data.toList.drop (k + 1) := by
      rw [part_list, List.take_of_length_le (by rw [List.length_drop, hl]; omega)]
    rw [e1, e2]
    rfl
  · left
    have hn : ∀ j, slash s j = false := fun j => by
      cases hj : slash s j with
      | true => exact absurd ⟨j, hj⟩ e
      | false => rfl
    refine ⟨hn, ?_⟩
    unfold Lib.cut
    rw [index_none, if_neg (by decide)]
    intro c hc e
    obtain ⟨j, hj, rfl⟩ := List.getElem_of_mem hc
    have := hn j
    rw [slash_iff.2 ⟨by omega, e⟩] at this
    cases this
end Go.Proofs.YtmghoedjcokhpaaGreatDoor

/- The text of an integer, of a fraction, read and written: what ParseRat returns. No program text. -/
namespace Go.Proofs.YtmghoedjcokhpaaGreatDoor
open Go.RowKit
open Go.Lib (hid)
set_option linter.unusedVariables false

theorem neg_text {t : ByteArray} (h : isNeg t = true) : ByteArray.mk #[45] ++ tailOf t = t := by
  have hl : t.data.toList.length = t.size := by simp
  unfold isNeg at h
  have hh := of_decide_eq_true h
  refine list_inj ?_
  rw [app_list]
  have ht : (tailOf t).data.toList = t.data.toList.drop 1 := by
    unfold tailOf isNeg
    rw [if_pos h, part_list, List.take_of_length_le (by rw [List.length_drop, hl]; omega)]
  rw [ht]
  cases hd : t.data.toList with
  | nil => rw [hd] at hh; cases hh
  | cons c l => rw [hd] at hh; injection hh with e; subst e; rfl
/-- What is read as an integer is written so. -/
theorem fmtB_parse {t : ByteArray} (h : pbB t = true) : fmtB (pbS t) (pbR t) = t := by
  obtain ⟨e1, e2⟩ := pb_yes h
  rw [e1, e2]
  have hp : parseB (tailOf t) = true := by
    cases e : parseB (tailOf t) with
    | true => rfl
    | false => rw [pbB_one e] at h; cases h
  have hb : bok (isNeg t) (parseR (tailOf t)) = true := by rw [pb_bok, ← pbB_two hp]; exact h
  cases hn : isNeg t with
  | true =>
    rw [hn] at hb
    rw [fmtB_neg hb, format_parse hp, neg_text hn]
  | false =>
    rw [hn] at hb
    rw [fmtB_pos hb, format_parse hp]
    unfold tailOf
    rw [hn]
    rfl
/-- What is written of an integer reads back. -/
theorem parse_fmtB {s : Bool} {L : List Int} (h : bok s L = true) : pbB (fmtB s L) = true ∧ pbS (fmtB s L) = s ∧ pbR (fmtB s L) = L := by
  have hn := (bok_iff.1 h).1
  obtain ⟨p1, p2⟩ := parse_format hn
  have key : ∀ t : ByteArray, isNeg t = s → tailOf t = formatL L → pbB t = true ∧ pbS t = s ∧ pbR t = L := by
    intro t e1 e2
    have hb : pbB t = true := by
      rw [pbB_two (by rw [e2]; exact p1), ← pb_bok, e1, e2, p2]
      exact h
    obtain ⟨q1, q2⟩ := pb_yes hb
    exact ⟨hb, by rw [q1, e1], by rw [q2, e2, p2]⟩
  cases s with
  | true =>
    rw [fmtB_neg h]
    have hi : isNeg (ByteArray.mk #[45] ++ formatL L) = true := by
      unfold isNeg
      rw [app_list]
      exact decide_eq_true rfl
    refine key _ hi ?_
    refine list_inj ?_
    have := congrArg (fun x : ByteArray => x.data.toList) (neg_text hi)
    simp only [app_list] at this
    exact List.append_cancel_left this
  | false =>
    rw [fmtB_pos h]
    have hp := plain_of p1
    have h0 : 0 < (formatL L).size := digs_pos (parse_parts p1).1
    obtain ⟨e1, e2⟩ := isNeg_no (s := formatL L) fun h0 e => by
      have := isD_of (parse_parts p1).1 h0
      omega
    exact key _ e1 e2
/-! A fraction's text. -/
def prL (s : ByteArray) : ByteArray := ⟨(Lib.cut s.data.toList [47]).1.toArray⟩
def prR (s : ByteArray) : ByteArray := ⟨(Lib.cut s.data.toList [47]).2.1.toArray⟩
def prF (s : ByteArray) : Bool := (Lib.cut s.data.toList [47]).2.2
def prD (s : ByteArray) : List Int := if prF s then parseR (prR s) else [1]
def prO (s : ByteArray) : Bool := if prF s then parseB (prR s) && !decide (parseR (prR s) = [1]) else true
def prB (s : ByteArray) : Bool := pbB (prL s) && prO s && rok (pbS (prL s)) (pbR (prL s)) (prD s)
theorem mk_list (s : ByteArray) : (⟨s.data.toList.toArray⟩ : ByteArray) = s := list_inj (by simp)
theorem pr_size (s : ByteArray) : (prL s).size ≤ s.size ∧ (prR s).size ≤ s.size := by
  have hl : s.data.toList.length = s.size := by simp
  unfold prL prR
  rcases cut_cases s with ⟨-, e⟩ | ⟨k, hk, -, e⟩
  · rw [e]
    exact ⟨by show s.data.toList.toArray.size ≤ _; simp, by show ([] : List UInt8).toArray.size ≤ _; simp⟩
  · rw [e]
    simp only [mk_list]
    exact ⟨by rw [ByteArray.size_extract]; omega, by rw [ByteArray.size_extract]; omega⟩
/-- The reference's pieces and what it makes of them. -/
def spD (W : List ByteArray) : List Int := if 1 < W.length then parseR (W.getD 1 (ByteArray.mk #[])) else [1]
def spO (W : List ByteArray) : Bool := if 1 < W.length then parseB (W.getD 1 (ByteArray.mk #[])) else true
theorem no_slash_digs {s : ByteArray} (h : parseB s = true) (j : Nat) : slash s j = false := by
  cases e : slash s j with
  | false => rfl
  | true =>
    obtain ⟨hj, e2⟩ := slash_iff.1 e
    have := isD_of (parse_parts h).1 hj
    rw [e2] at this
    exact absurd this.1 (by decide)
theorem slash_sub {s : ByteArray} {f e j : Nat} (he : e ≤ s.size) (hj : j < e - f) : slash (s.extract f e) j = slash s (f + j) := by
  have hl : s.data.toList.length = s.size := by simp
  have hsz : (s.extract f e).size = e - f := by rw [ByteArray.size_extract]; omega
  have hg : (s.extract f e)[j]'(by omega) = s[f + j]'(by omega) := by
    have h1 : (s.extract f e).data.toList[j]'(by simp; omega) = s.data.toList[f + j]'(by omega) := by
      simp only [part_list, List.getElem_take, List.getElem_drop]
    exact h1
  cases h1 : slash (s.extract f e) j with
  | true =>
    obtain ⟨_, e2⟩ := slash_iff.1 h1
    exact (slash_iff.2 ⟨by omega, by rw [← hg]; exact e2⟩).symm
  | false =>
    cases h2 : slash s (f + j) with
    | false => rfl
    | true =>
      obtain ⟨_, e2⟩ := slash_iff.1 h2
      have h3 : slash (s.extract f e) j = true := slash_iff.2 ⟨by omega, by rw [hg]; exact e2⟩
      rw [h1] at h3
      cases h3
theorem join_at {s : ByteArray} {k : Nat} (hk : slash s k = true) : s.extract 0 k ++ ByteArray.mk #[47] ++ s.extract (k + 1) s.size = s := by
  have hl : s.data.toList.length = s.size := by simp
  obtain ⟨hs, e⟩ := slash_iff.1 hk
  refine list_inj ?_
  rw [app_list, app_list, part_list, part_list, List.take_of_length_le (l := s.data.toList.drop (k + 1)) (by rw [List.length_drop, hl]; omega)]
  have h2 : s.data.toList[k]'(by omega) = 47 := e
  show (s.data.toList.drop 0).take (k - 0) ++ [47] ++ s.data.toList.drop (k + 1) = _
  rw [List.drop_zero, Nat.sub_zero, List.append_assoc, List.singleton_append, ← h2, ← List.drop_eq_getElem_cons, List.take_append_drop]
theorem size_cat (a b : ByteArray) : (a ++ ByteArray.mk #[47] ++ b).size = a.size + 1 + b.size := by
  rw [ByteArray.size_append, ByteArray.size_append]
  rfl
theorem pb_size {t : ByteArray} (h : pbB t = true) : 0 < t.size := by
  rcases Nat.eq_zero_or_pos t.size with e | e
  · have hl : t.data.toList.length = t.size := by simp
    have hnil : t.data.toList = [] := List.eq_nil_of_length_eq_zero (by omega)
    have ht : t = ByteArray.mk #[] := list_inj (by rw [hnil])
    subst ht
    revert h
    decide
  · exact e
/-- The reference's answer is the program's. -/
theorem pr_same (s : ByteArray) (W : List ByteArray) (hW : W = pieces s (ByteArray.mk #[47])) :
    W.getD 0 (ByteArray.mk #[]) = prL s ∧ (pbB (prL s) && spO W && !decide (fmtR (pbS (prL s)) (pbR (prL s)) (spD W) = ByteArray.mk #[]) && decide (fmtR (pbS (prL s)) (pbR (prL s)) (spD W) = s)) = prB s ∧ (prB s = true → spD W = prD s) := by
  rcases cut_cases s with ⟨hn, e⟩ | ⟨k, hk, hlt, e⟩
  · have e1 : prL s = s := by unfold prL; rw [e]
    have e2 : prF s = false := by unfold prF; rw [e]
    rw [pieces_none hn] at hW
    subst hW
    have d1 : spD [s] = [1] := rfl
    have d2 : prD s = [1] := by unfold prD; rw [e2]; rfl
    have d3 : prO s = true := by unfold prO; rw [e2]; rfl
    refine ⟨by rw [e1]; rfl, ?_, fun _ => by rw [d1, d2]⟩
    unfold prB
    rw [d1, d2, d3, e1]
    show (pbB s && true && _ && _) = _
    cases hp : pbB s with
    | false => rfl
    | true =>
      have hf := fmtB_parse hp
      have hs := pb_size hp
      cases hr : rok (pbS s) (pbR s) [1] with
      | false => rw [fmtR_no hr]; simp
      | true =>
        rw [fmtR_one hr rfl, hf]
        have : s ≠ ByteArray.mk #[] := fun e => by rw [e] at hs; exact absurd hs (by decide)
        simp [this]
  · obtain ⟨hks, -⟩ := slash_iff.1 hk
    have e1 : prL s = s.extract 0 k := by unfold prL; rw [e]
    have e2 : prF s = true := by unfold prF; rw [e]
    have e3 : prR s = s.extract (k + 1) s.size := by unfold prR; rw [e]
    have d2 : prD s = parseR (s.extract (k + 1) s.size) := by unfold prD; rw [e2, e3]; rfl
    have d3 : prO s = (parseB (s.extract (k + 1) s.size) && !decide (parseR (s.extract (k + 1) s.size) = [1])) := by unfold prO; rw [e2, e3]; rfl
    have hsz0 : (s.extract 0 k).size = k := by rw [ByteArray.size_extract]; omega
    by_cases h2 : ∃ m, (decide (k < m) && slash s m) = true
    · obtain ⟨m0, hm0⟩ := h2
      obtain ⟨k2, -, hk2, hlt2⟩ := least (p := fun m => decide (k < m) && slash s m) hm0
      simp only [Bool.and_eq_true, decide_eq_true_eq] at hk2
      obtain ⟨hkk, hk2s⟩ := hk2
      obtain ⟨hk2z, -⟩ := slash_iff.1 hk2s
      have hmid : ∀ j, k < j → j < k2 → slash s j = false := fun j h1 h3 => by
        have := hlt2 j h3
        simp only [Bool.and_eq_false_iff, decide_eq_false_iff_not] at this
        rcases this with e | e
        · exact absurd h1 e
        · exact e
      obtain ⟨M, hM⟩ := pieces_two hk hlt hkk hk2s hmid
      rw [hM] at hW
      subst hW
      have d1 : spD (s.extract 0 k :: s.extract (k + 1) k2 :: M) = parseR (s.extract (k + 1) k2) := by
        unfold spD; rw [if_pos (by simp)]; rfl
      have hz : parseB (s.extract (k + 1) s.size) = false := by
        cases hp : parseB (s.extract (k + 1) s.size) with
        | false => rfl
        | true =>
          have h3 := no_slash_digs hp (k2 - (k + 1))
          rw [slash_sub (Nat.le_refl _) (by omega), show k + 1 + (k2 - (k + 1)) = k2 by omega, hk2s] at h3
          cases h3
      have hB : prB s = false := by unfold prB; rw [d3, hz]; simp
      refine ⟨by rw [e1]; rfl, ?_, fun h => by rw [hB] at h; cases h⟩
      rw [hB, d1, e1]
      have hsz2 : (s.extract (k + 1) k2).size = k2 - (k + 1) := by rw [ByteArray.size_extract]; omega
      have o1 : spO (s.extract 0 k :: s.extract (k + 1) k2 :: M) = parseB (s.extract (k + 1) k2) := by
        unfold spO; rw [if_pos (by simp)]; rfl
      rw [o1]
      cases hp : pbB (s.extract 0 k) with
      | false => rfl
      | true =>
        cases hq : parseB (s.extract (k + 1) k2) with
        | false => rfl
        | true =>
          have hne : ∀ t : ByteArray, t.size < s.size → decide (t = s) = false := fun t ht => decide_eq_false fun e => by rw [e] at ht; omega
          cases hr : rok (pbS (s.extract 0 k)) (pbR (s.extract 0 k)) (parseR (s.extract (k + 1) k2)) with
          | false => rw [fmtR_no hr]; simp
          | true =>
            by_cases h1 : parseR (s.extract (k + 1) k2) = [1]
            · rw [fmtR_one hr h1, fmtB_parse hp, hne _ (by omega)]; simp
            · rw [fmtR_two hr h1, fmtB_parse hp, format_parse hq, hne _ (by rw [size_cat]; omega)]; simp
    · have hnone : ∀ j, k < j → slash s j = false := fun j hj => by
        cases h3 : slash s j with
        | false => rfl
        | true => exact absurd ⟨j, by simp [hj, h3]⟩ h2
      rw [pieces_one hk hlt hnone] at hW
      subst hW
      have d1 : spD [s.extract 0 k, s.extract (k + 1) s.size] = parseR (s.extract (k + 1) s.size) := by
        unfold spD; rw [if_pos (by simp)]; rfl
      have o1 : spO [s.extract 0 k, s.extract (k + 1) s.size] = parseB (s.extract (k + 1) s.size) := by
        unfold spO; rw [if_pos (by simp)]; rfl
      refine ⟨by rw [e1]; rfl, ?_, fun _ => by rw [d1, d2]⟩
      unfold prB
      rw [d1, d2, d3, o1, e1]
      cases hp : pbB (s.extract 0 k) with
      | false => simp only [Bool.false_and]
      | true =>
        cases hq : parseB (s.extract (k + 1) s.size) with
        | false => simp only [Bool.true_and, Bool.false_and]
        | true =>
          cases hr : rok (pbS (s.extract 0 k)) (pbR (s.extract 0 k)) (parseR (s.extract (k + 1) s.size)) with
          | false => rw [fmtR_no hr]; simp
          | true =>
            by_cases h1 : parseR (s.extract (k + 1) s.size) = [1]
            · rw [fmtR_one hr h1, fmtB_parse hp, decide_eq_true h1]
              have : ¬ s.extract 0 k = s := fun e => by rw [e] at hsz0; omega
              simp [this]
            · rw [fmtR_two hr h1, fmtB_parse hp, format_parse hq, join_at hk, decide_eq_false h1]
              have : s ≠ ByteArray.mk #[] := fun e => by rw [e] at hks; exact absurd hks (Nat.not_lt_zero _)
              simp [this]
end Go.Proofs.YtmghoedjcokhpaaGreatDoor
