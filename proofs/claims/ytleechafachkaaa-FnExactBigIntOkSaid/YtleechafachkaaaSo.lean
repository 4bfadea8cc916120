/- The reference's signed sum, difference and product. -/
import Derived.Test.YtleechafachkaaaSn
import Derived.Deep.RegionHeld3
namespace Go.Proofs.Ytleechafachkaaa
open Go.RowKit
open Go.Lib (hid)
set_option linter.unusedVariables false

theorem OwnG_below {s : Bool} {L : List Int} {w w' : World} {e : Ending} (h : OwnG s L w e w') : Below w.heap.size w w' := by obtain ⟨r, _, _, hb⟩ := h; exact hb
theorem Can_le {A B : List Int} (hA : Can A) (hB : Can B) (h : val B ≤ val A) : B.length ≤ A.length := by
  have := (Can_len hA (k := A.length)).1 (Nat.le_refl _)
  exact (Can_len hB).2 (by omega)
theorem add_eq {s : Bool} {x y : Int} : sval s x + sval s y = sval s (x + y) := by cases s <;> simp [sval] <;> omega
theorem sub_eq1 {s t : Bool} {x y : Int} (h : s ≠ t) : sval s x + sval t y = sval s (x - y) := by cases s <;> cases t <;> simp_all [sval] <;> omega
theorem sub_eq2 {s t : Bool} {x y : Int} (h : s ≠ t) : sval s x + sval t y = sval t (y - x) := by cases s <;> cases t <;> simp_all [sval] <;> omega

set_option maxRecDepth 100000 in
set_option maxHeartbeats 3200000 in
theorem l03Add_own (s t : Bool) (v u : Value) (A B : List Int) (nA : nok A = true) (nB : nok B = true) (b1 b2 : Nat) (w : World) (h1 : Ints w b1 v A) (h2 : Ints w b2 u B) :
    Calls Try.prog 47 #[.agg #[.bool s, v], .agg #[.bool t, u]] w (OwnG (gzs (sval s (val A) + sval t (val B))) (gzl (sval s (val A) + sval t (val B))) w) := by
  obtain ⟨Z, hZ⟩ : ∃ Z, Z = sval s (val A) + sval t (val B) := ⟨_, rfl⟩
  have HZ := hid hZ
  rw [← hZ]
  clear hZ
  obtain ⟨gs, hgs⟩ : ∃ g, g = gzs Z := ⟨_, rfl⟩
  rw [← hgs]
  have HGS := hid hgs
  clear hgs
  have C := hid (cmp_nok nA nB)
  have lA := hid (nok_lim nA)
  have lB := hid (nok_lim nB)
  have vA := hid (val_nonneg lA.out)
  have vB := hid (val_nonneg lB.out)
  have cA := hid (nok_iff.1 nA).2
  have cB := hid (nok_iff.1 nB).2
  have n1 := nok_len nA
  have n2 := nok_len nB
  clear nA nB
  have B0 := hid (W3_below (w := w) (s := s) (v := v) (t := t) (u := u) (T := 27))
  have L1 := hid (W3_1 (w := w) (s := s) (v := v) (t := t) (u := u) (T := 27))
  have L2 := hid (W3_2 (w := w) (s := s) (v := v) (t := t) (u := u) (T := 27))
  have L0 := hid (W3_3 (w := w) (s := s) (v := v) (t := t) (u := u) (T := 27))
  have I1 := hid (Ints_old h1 B0.out)
  have I2 := hid (Ints_old h2 B0.out)
  obtain ⟨a, c, rfl, -⟩ := Ints_form h1
  obtain ⟨a', c', rfl, -⟩ := Ints_form h2
  clear h1 h2
  generalize hW : W3 w s (.slice a A.length c) t (.slice a' B.length c') 27 = W at B0 L1 L2 L0 I1 I2
  have HW := hid hW
  clear hW
  cases s <;> cases t
  · have hE := hid (show Z = sval false (val A + val B) by rw [HZ.out, add_eq])
    have KA := hid (fun (W : World) (h1 : RowI W a A.length A) (h2 : RowI W a' B.length B) => l02Add_any a a' _ _ c c' A B (by omega) (by omega) lA.out lB.out W h1 h2)
    have KM := hid (fun (W : World) (D : Nat) (v : Value) (M : List Int) (hM : Lim M) (hv : val M = val A + val B) (hl : M.length ≤ 1073741824) (h : Ints W D v M) => l03Make_own false D v M hl hM W h)
    go_enter Try.func47, Try.ntmps47
    go_wp2_with fail
    change Code.wp _ _ _ _ (W3 w false (.slice a A.length c) false (.slice a' B.length c') 27)
    rw [HW.out]
    have B0 := hid (Below_drew1 B0.out)
    have L1 := hid (show Loc 27 W.drew _ _ _ from L1.out)
    have L2 := hid (show Loc 27 W.drew _ _ _ from L2.out)
    have L0 := hid (show Loc 27 W.drew _ _ _ from L0.out)
    have I1 := hid (show Ints W.drew _ _ _ from I1.out)
    have I2 := hid (show Ints W.drew _ _ _ from I2.out)
    have q0 := L2.out.c0
    have q1 := L2.out.c1
    have q2 := L1.out.c0
    have q3 := L1.out.c1
    go_region_held3 (fun w' => w'.cell? ⟨w.heap.size + 1, 0, none⟩ = some (.bool false) ∧ w'.cell? ⟨w.heap.size + 1, 1, none⟩ = some (.slice a' B.length c') ∧ w'.cell? ⟨w.heap.size, 0, none⟩ = some (.bool false) ∧ w'.cell? ⟨w.heap.size, 1, none⟩ = some (.slice a A.length c)) (first | exact ⟨q0, q1, q2, q3⟩ | exact ⟨(cell_set2 (by omega)).trans q0, (cell_set2 (by omega)).trans q1, (cell_set2 (by omega)).trans q2, (cell_set2 (by omega)).trans q3⟩) (first | (go_at_call 61; (with_reducible refine (KA.out _ (Ints_rowW I1.out) (Ints_rowW I2.out)).mono ?_); rintro e w1 ⟨M, hM, hv, hl, u, rfl, iu, b2⟩; have KM := hid (fun (W : World) (D : Nat) (v : Value) (h : Ints W D v M) => KM.out W D v M hM hv (by omega) h); rw [hv, ← hE.out, ← HGS.out] at KM; clear hM hv hl; have L0 := hid (L0.out.old b2); have L1 := hid (L1.out.old b2); have L2 := hid (L2.out.old b2); have B0 := hid (B0.out.trans (b2.mono B0.out.size)); have q0 := L2.out.c0; have q1 := L2.out.c1; have q2 := L1.out.c0; have q3 := L1.out.c1; have HU := hid iu; obtain ⟨au, cu, rfl, -⟩ := Ints_form iu; clear iu b2) | (go_at_call 37; (with_reducible refine (KM.out _ _ _ HU.out).mono ?_); rintro e w9 hk; obtain ⟨r, rfl, ir, lr, br⟩ := OwnG_in hk L0.out B0.out; have b2 := OwnG_below hk; have L1 := hid (L1.out.old b2); have L2 := hid (L2.out.old b2); have q0 := L2.out.c0; have q1 := L2.out.c1; have q2 := L1.out.c0; have q3 := L1.out.c1; have R := hid (OwnG_out1 (s := gs) (w := w) (b := w.heap.size + 1 + 1) B0.out.size (by omega) lr (by decide) ir br); obtain ⟨ar, cr, rfl, -⟩ := Ints_form ir; have f0 := lr.f0 0; have f1 := lr.f0 1; have p0 := lr.c0; have p1 := lr.c1; clear hk ir lr br b2))
    go_wp2
    exact bodyPost_ret (v := .agg #[.bool gs, .slice ar (gzl Z).length cr]) (by simp [results, Try.results47, go_sem, p0, p1]) rfl R.out
  · have KC := hid (fun (W : World) (h1 : RowI W a A.length A) (h2 : RowI W a' B.length B) => l02Cmp_any a a' _ _ c c' A B (by omega) (by omega) W h1 h2)
    obtain ⟨cm, hcm⟩ : ∃ c, c = cmpL A B := ⟨_, rfl⟩
    rw [← hcm] at KC
    have HC := hid hcm
    clear hcm
    by_cases hlt : val A < val B
    · have hle := hid (show val A ≤ val B by omega)
      have hc : ¬ 0 ≤ cm := by have := C.out; have := HC.out; omega
      have hE := hid (show Z = sval true (val B - val A) by rw [HZ.out, sub_eq2 (by decide)])
      have KA := hid (fun (W : World) (h1 : RowI W a' B.length B) (h2 : RowI W a A.length A) => l02Sub_any a' a _ _ c' c B A (by omega) (Can_le cB.out cA.out hle.out) lB.out lA.out hle.out W h1 h2)
      have hrl := rep_len' (V := val B - val A) (n := 60) (by have := (Can_len cB.out (k := 60)).1 (by omega); have := val_nonneg lA.out; omega)
      have KM := hid (fun (W : World) (D : Nat) (v : Value) (h : Ints W D v (rep (val B - val A).toNat)) => l03Make_own true D v _ (by omega) (Lim_rep _) W h)
      rw [val_rep' (by have := hle.out; omega), ← hE.out, ← HGS.out] at KM
      clear hrl hlt
      go_enter Try.func47, Try.ntmps47
      go_wp2_with fail
      change Calls _ _ _ (W3 w false (.slice a A.length c) true (.slice a' B.length c') 27) _
      rw [HW.out]
      (with_reducible refine (KC.out _ (Ints_rowW I1.out) (Ints_rowW I2.out)).mono ?_)
      rintro e w1 ⟨rfl, d, rfl⟩
      have B0 := hid (Below_drewN (d := d) B0.out)
      have L1 := hid (Loc_drewN (d := d) L1.out)
      have L2 := hid (Loc_drewN (d := d) L2.out)
      have L0 := hid (Loc_drewN (d := d) L0.out)
      have I1 := hid (Ints_drew (d := d) I1.out)
      have I2 := hid (Ints_drew (d := d) I2.out)
      generalize W.drewN d = W4 at B0 L0 L1 L2 I1 I2 ⊢
      have q0 := L2.out.c0
      have q1 := L2.out.c1
      have q2 := L1.out.c0
      have q3 := L1.out.c1
      go_wp2_with fail
      clear q0 q1 q2 q3
      have B0 := hid (Below_drew1 B0.out)
      have L1 := hid (show Loc 27 W4.drew _ _ _ from L1.out)
      have L2 := hid (show Loc 27 W4.drew _ _ _ from L2.out)
      have L0 := hid (show Loc 27 W4.drew _ _ _ from L0.out)
      have I1 := hid (show Ints W4.drew _ _ _ from I1.out)
      have I2 := hid (show Ints W4.drew _ _ _ from I2.out)
      have q0 := L2.out.c0
      have q1 := L2.out.c1
      have q2 := L1.out.c0
      have q3 := L1.out.c1
      go_region_held3 (fun w' => w'.cell? ⟨w.heap.size + 1, 0, none⟩ = some (.bool true) ∧ w'.cell? ⟨w.heap.size + 1, 1, none⟩ = some (.slice a' B.length c') ∧ w'.cell? ⟨w.heap.size, 0, none⟩ = some (.bool false) ∧ w'.cell? ⟨w.heap.size, 1, none⟩ = some (.slice a A.length c)) (first | exact ⟨q0, q1, q2, q3⟩ | exact ⟨(cell_set2 (by omega)).trans q0, (cell_set2 (by omega)).trans q1, (cell_set2 (by omega)).trans q2, (cell_set2 (by omega)).trans q3⟩) (first | (go_at_call 62; (with_reducible refine (KA.out _ (Ints_rowW I2.out) (Ints_rowW I1.out)).mono ?_); rintro e w1 ⟨u, rfl, iu, b2⟩; have L0 := hid (L0.out.old b2); have L1 := hid (L1.out.old b2); have L2 := hid (L2.out.old b2); have B0 := hid (B0.out.trans (b2.mono B0.out.size)); have q0 := L2.out.c0; have q1 := L2.out.c1; have q2 := L1.out.c0; have q3 := L1.out.c1; have HU := hid iu; obtain ⟨au, cu, rfl, -⟩ := Ints_form iu; clear iu b2) | (go_at_call 37; (with_reducible refine (KM.out _ _ _ HU.out).mono ?_); rintro e w9 hk; obtain ⟨r, rfl, ir, lr, br⟩ := OwnG_in hk L0.out B0.out; have b2 := OwnG_below hk; have L1 := hid (L1.out.old b2); have L2 := hid (L2.out.old b2); have q0 := L2.out.c0; have q1 := L2.out.c1; have q2 := L1.out.c0; have q3 := L1.out.c1; have R := hid (OwnG_out1 (s := gs) (w := w) (b := w.heap.size + 1 + 1) B0.out.size (by omega) lr (by decide) ir br); obtain ⟨ar, cr, rfl, -⟩ := Ints_form ir; have f0 := lr.f0 0; have f1 := lr.f0 1; have p0 := lr.c0; have p1 := lr.c1; clear hk ir lr br b2))
      go_wp2
      exact bodyPost_ret (v := .agg #[.bool gs, .slice ar (gzl Z).length cr]) (by simp [results, Try.results47, go_sem, p0, p1]) rfl R.out
    · have hle := hid (show val B ≤ val A by omega)
      have hc : 0 ≤ cm := by have := C.out; have := HC.out; omega
      have hE := hid (show Z = sval false (val A - val B) by rw [HZ.out, sub_eq1 (by decide)])
      have KA := hid (fun (W : World) (h1 : RowI W a A.length A) (h2 : RowI W a' B.length B) => l02Sub_any a a' _ _ c c' A B (by omega) (Can_le cA.out cB.out hle.out) lA.out lB.out hle.out W h1 h2)
      have hrl := rep_len' (V := val A - val B) (n := 60) (by have := (Can_len cA.out (k := 60)).1 (by omega); have := val_nonneg lB.out; omega)
      have KM := hid (fun (W : World) (D : Nat) (v : Value) (h : Ints W D v (rep (val A - val B).toNat)) => l03Make_own false D v _ (by omega) (Lim_rep _) W h)
      rw [val_rep' (by have := hle.out; omega), ← hE.out, ← HGS.out] at KM
      clear hrl hlt
      go_enter Try.func47, Try.ntmps47
      go_wp2_with fail
      change Calls _ _ _ (W3 w false (.slice a A.length c) true (.slice a' B.length c') 27) _
      rw [HW.out]
      (with_reducible refine (KC.out _ (Ints_rowW I1.out) (Ints_rowW I2.out)).mono ?_)
      rintro e w1 ⟨rfl, d, rfl⟩
      have B0 := hid (Below_drewN (d := d) B0.out)
      have L1 := hid (Loc_drewN (d := d) L1.out)
      have L2 := hid (Loc_drewN (d := d) L2.out)
      have L0 := hid (Loc_drewN (d := d) L0.out)
      have I1 := hid (Ints_drew (d := d) I1.out)
      have I2 := hid (Ints_drew (d := d) I2.out)
      generalize W.drewN d = W4 at B0 L0 L1 L2 I1 I2 ⊢
      have q0 := L2.out.c0
      have q1 := L2.out.c1
      have q2 := L1.out.c0
      have q3 := L1.out.c1
      go_wp2_with fail
      clear q0 q1 q2 q3
      have B0 := hid (Below_drew1 B0.out)
      have L1 := hid (show Loc 27 W4.drew _ _ _ from L1.out)
      have L2 := hid (show Loc 27 W4.drew _ _ _ from L2.out)
      have L0 := hid (show Loc 27 W4.drew _ _ _ from L0.out)
      have I1 := hid (show Ints W4.drew _ _ _ from I1.out)
      have I2 := hid (show Ints W4.drew _ _ _ from I2.out)
      have q0 := L2.out.c0
      have q1 := L2.out.c1
      have q2 := L1.out.c0
      have q3 := L1.out.c1
      go_region_held3 (fun w' => w'.cell? ⟨w.heap.size + 1, 0, none⟩ = some (.bool true) ∧ w'.cell? ⟨w.heap.size + 1, 1, none⟩ = some (.slice a' B.length c') ∧ w'.cell? ⟨w.heap.size, 0, none⟩ = some (.bool false) ∧ w'.cell? ⟨w.heap.size, 1, none⟩ = some (.slice a A.length c)) (first | exact ⟨q0, q1, q2, q3⟩ | exact ⟨(cell_set2 (by omega)).trans q0, (cell_set2 (by omega)).trans q1, (cell_set2 (by omega)).trans q2, (cell_set2 (by omega)).trans q3⟩) (first | (go_at_call 62; (with_reducible refine (KA.out _ (Ints_rowW I1.out) (Ints_rowW I2.out)).mono ?_); rintro e w1 ⟨u, rfl, iu, b2⟩; have L0 := hid (L0.out.old b2); have L1 := hid (L1.out.old b2); have L2 := hid (L2.out.old b2); have B0 := hid (B0.out.trans (b2.mono B0.out.size)); have q0 := L2.out.c0; have q1 := L2.out.c1; have q2 := L1.out.c0; have q3 := L1.out.c1; have HU := hid iu; obtain ⟨au, cu, rfl, -⟩ := Ints_form iu; clear iu b2) | (go_at_call 37; (with_reducible refine (KM.out _ _ _ HU.out).mono ?_); rintro e w9 hk; obtain ⟨r, rfl, ir, lr, br⟩ := OwnG_in hk L0.out B0.out; have b2 := OwnG_below hk; have L1 := hid (L1.out.old b2); have L2 := hid (L2.out.old b2); have q0 := L2.out.c0; have q1 := L2.out.c1; have q2 := L1.out.c0; have q3 := L1.out.c1; have R := hid (OwnG_out1 (s := gs) (w := w) (b := w.heap.size + 1 + 1) B0.out.size (by omega) lr (by decide) ir br); obtain ⟨ar, cr, rfl, -⟩ := Ints_form ir; have f0 := lr.f0 0; have f1 := lr.f0 1; have p0 := lr.c0; have p1 := lr.c1; clear hk ir lr br b2))
      go_wp2
      exact bodyPost_ret (v := .agg #[.bool gs, .slice ar (gzl Z).length cr]) (by simp [results, Try.results47, go_sem, p0, p1]) rfl R.out
  · have KC := hid (fun (W : World) (h1 : RowI W a A.length A) (h2 : RowI W a' B.length B) => l02Cmp_any a a' _ _ c c' A B (by omega) (by omega) W h1 h2)
    obtain ⟨cm, hcm⟩ : ∃ c, c = cmpL A B := ⟨_, rfl⟩
    rw [← hcm] at KC
    have HC := hid hcm
    clear hcm
    by_cases hlt : val A < val B
    · have hle := hid (show val A ≤ val B by omega)
      have hc : ¬ 0 ≤ cm := by have := C.out; have := HC.out; omega
      have hE := hid (show Z = sval false (val B - val A) by rw [HZ.out, sub_eq2 (by decide)])
      have KA := hid (fun (W : World) (h1 : RowI W a' B.length B) (h2 : RowI W a A.length A) => l02Sub_any a' a _ _ c' c B A (by omega) (Can_le cB.out cA.out hle.out) lB.out lA.out hle.out W h1 h2)
      have hrl := rep_len' (V := val B - val A) (n := 60) (by have := (Can_len cB.out (k := 60)).1 (by omega); have := val_nonneg lA.out; omega)
      have KM := hid (fun (W : World) (D : Nat) (v : Value) (h : Ints W D v (rep (val B - val A).toNat)) => l03Make_own false D v _ (by omega) (Lim_rep _) W h)
      rw [val_rep' (by have := hle.out; omega), ← hE.out, ← HGS.out] at KM
      clear hrl hlt
      go_enter Try.func47, Try.ntmps47
      go_wp2_with fail
      change Calls _ _ _ (W3 w true (.slice a A.length c) false (.slice a' B.length c') 27) _
      rw [HW.out]
      (with_reducible refine (KC.out _ (Ints_rowW I1.out) (Ints_rowW I2.out)).mono ?_)
      rintro e w1 ⟨rfl, d, rfl⟩
      have B0 := hid (Below_drewN (d := d) B0.out)
      have L1 := hid (Loc_drewN (d := d) L1.out)
      have L2 := hid (Loc_drewN (d := d) L2.out)
      have L0 := hid (Loc_drewN (d := d) L0.out)
      have I1 := hid (Ints_drew (d := d) I1.out)
      have I2 := hid (Ints_drew (d := d) I2.out)
      generalize W.drewN d = W4 at B0 L0 L1 L2 I1 I2 ⊢
      have q0 := L2.out.c0
      have q1 := L2.out.c1
      have q2 := L1.out.c0
      have q3 := L1.out.c1
      go_wp2_with fail
      clear q0 q1 q2 q3
      have B0 := hid (Below_drew1 B0.out)
      have L1 := hid (show Loc 27 W4.drew _ _ _ from L1.out)
      have L2 := hid (show Loc 27 W4.drew _ _ _ from L2.out)
      have L0 := hid (show Loc 27 W4.drew _ _ _ from L0.out)
      have I1 := hid (show Ints W4.drew _ _ _ from I1.out)
      have I2 := hid (show Ints W4.drew _ _ _ from I2.out)
      have q0 := L2.out.c0
      have q1 := L2.out.c1
      have q2 := L1.out.c0
      have q3 := L1.out.c1
      go_region_held3 (fun w' => w'.cell? ⟨w.heap.size + 1, 0, none⟩ = some (.bool false) ∧ w'.cell? ⟨w.heap.size + 1, 1, none⟩ = some (.slice a' B.length c') ∧ w'.cell? ⟨w.heap.size, 0, none⟩ = some (.bool true) ∧ w'.cell? ⟨w.heap.size, 1, none⟩ = some (.slice a A.length c)) (first | exact ⟨q0, q1, q2, q3⟩ | exact ⟨(cell_set2 (by omega)).trans q0, (cell_set2 (by omega)).trans q1, (cell_set2 (by omega)).trans q2, (cell_set2 (by omega)).trans q3⟩) (first | (go_at_call 62; (with_reducible refine (KA.out _ (Ints_rowW I2.out) (Ints_rowW I1.out)).mono ?_); rintro e w1 ⟨u, rfl, iu, b2⟩; have L0 := hid (L0.out.old b2); have L1 := hid (L1.out.old b2); have L2 := hid (L2.out.old b2); have B0 := hid (B0.out.trans (b2.mono B0.out.size)); have q0 := L2.out.c0; have q1 := L2.out.c1; have q2 := L1.out.c0; have q3 := L1.out.c1; have HU := hid iu; obtain ⟨au, cu, rfl, -⟩ := Ints_form iu; clear iu b2) | (go_at_call 37; (with_reducible refine (KM.out _ _ _ HU.out).mono ?_); rintro e w9 hk; obtain ⟨r, rfl, ir, lr, br⟩ := OwnG_in hk L0.out B0.out; have b2 := OwnG_below hk; have L1 := hid (L1.out.old b2); have L2 := hid (L2.out.old b2); have q0 := L2.out.c0; have q1 := L2.out.c1; have q2 := L1.out.c0; have q3 := L1.out.c1; have R := hid (OwnG_out1 (s := gs) (w := w) (b := w.heap.size + 1 + 1) B0.out.size (by omega) lr (by decide) ir br); obtain ⟨ar, cr, rfl, -⟩ := Ints_form ir; have f0 := lr.f0 0; have f1 := lr.f0 1; have p0 := lr.c0; have p1 := lr.c1; clear hk ir lr br b2))
      go_wp2
      exact bodyPost_ret (v := .agg #[.bool gs, .slice ar (gzl Z).length cr]) (by simp [results, Try.results47, go_sem, p0, p1]) rfl R.out
    · have hle := hid (show val B ≤ val A by omega)
      have hc : 0 ≤ cm := by have := C.out; have := HC.out; omega
      have hE := hid (show Z = sval true (val A - val B) by rw [HZ.out, sub_eq1 (by decide)])
      have KA := hid (fun (W : World) (h1 : RowI W a A.length A) (h2 : RowI W a' B.length B) => l02Sub_any a a' _ _ c c' A B (by omega) (Can_le cA.out cB.out hle.out) lA.out lB.out hle.out W h1 h2)
      have hrl := rep_len' (V := val A - val B) (n := 60) (by have := (Can_len cA.out (k := 60)).1 (by omega); have := val_nonneg lB.out; omega)
      have KM := hid (fun (W : World) (D : Nat) (v : Value) (h : Ints W D v (rep (val A - val B).toNat)) => l03Make_own true D v _ (by omega) (Lim_rep _) W h)
      rw [val_rep' (by have := hle.out; omega), ← hE.out, ← HGS.out] at KM
      clear hrl hlt
      go_enter Try.func47, Try.ntmps47
      go_wp2_with fail
      change Calls _ _ _ (W3 w true (.slice a A.length c) false (.slice a' B.length c') 27) _
      rw [HW.out]
      (with_reducible refine (KC.out _ (Ints_rowW I1.out) (Ints_rowW I2.out)).mono ?_)
      rintro e w1 ⟨rfl, d, rfl⟩
      have B0 := hid (Below_drewN (d := d) B0.out)
      have L1 := hid (Loc_drewN (d := d) L1.out)
      have L2 := hid (Loc_drewN (d := d) L2.out)
      have L0 := hid (Loc_drewN (d := d) L0.out)
      have I1 := hid (Ints_drew (d := d) I1.out)
      have I2 := hid (Ints_drew (d := d) I2.out)
      generalize W.drewN d = W4 at B0 L0 L1 L2 I1 I2 ⊢
      have q0 := L2.out.c0
      have q1 := L2.out.c1
      have q2 := L1.out.c0
      have q3 := L1.out.c1
      go_wp2_with fail
      clear q0 q1 q2 q3
      have B0 := hid (Below_drew1 B0.out)
      have L1 := hid (show Loc 27 W4.drew _ _ _ from L1.out)
      have L2 := hid (show Loc 27 W4.drew _ _ _ from L2.out)
      have L0 := hid (show Loc 27 W4.drew _ _ _ from L0.out)
      have I1 := hid (show Ints W4.drew _ _ _ from I1.out)
      have I2 := hid (show Ints W4.drew _ _ _ from I2.out)
      have q0 := L2.out.c0
      have q1 := L2.out.c1
      have q2 := L1.out.c0
      have q3 := L1.out.c1
      go_region_held3 (fun w' => w'.cell? ⟨w.heap.size + 1, 0, none⟩ = some (.bool false) ∧ w'.cell? ⟨w.heap.size + 1, 1, none⟩ = some (.slice a' B.length c') ∧ w'.cell? ⟨w.heap.size, 0, none⟩ = some (.bool true) ∧ w'.cell? ⟨w.heap.size, 1, none⟩ = some (.slice a A.length c)) (first | exact ⟨q0, q1, q2, q3⟩ | exact ⟨(cell_set2 (by omega)).trans q0, (cell_set2 (by omega)).trans q1, (cell_set2 (by omega)).trans q2, (cell_set2 (by omega)).trans q3⟩) (first | (go_at_call 62; (with_reducible refine (KA.out _ (Ints_rowW I1.out) (Ints_rowW I2.out)).mono ?_); rintro e w1 ⟨u, rfl, iu, b2⟩; have L0 := hid (L0.out.old b2); have L1 := hid (L1.out.old b2); have L2 := hid (L2.out.old b2); have B0 := hid (B0.out.trans (b2.mono B0.out.size)); have q0 := L2.out.c0; have q1 := L2.out.c1; have q2 := L1.out.c0; have q3 := L1.out.c1; have HU := hid iu; obtain ⟨au, cu, rfl, -⟩ := Ints_form iu; clear iu b2) | (go_at_call 37; (with_reducible refine (KM.out _ _ _ HU.out).mono ?_); rintro e w9 hk; obtain ⟨r, rfl, ir, lr, br⟩ := OwnG_in hk L0.out B0.out; have b2 := OwnG_below hk; have L1 := hid (L1.out.old b2); have L2 := hid (L2.out.old b2); have q0 := L2.out.c0; have q1 := L2.out.c1; have q2 := L1.out.c0; have q3 := L1.out.c1; have R := hid (OwnG_out1 (s := gs) (w := w) (b := w.heap.size + 1 + 1) B0.out.size (by omega) lr (by decide) ir br); obtain ⟨ar, cr, rfl, -⟩ := Ints_form ir; have f0 := lr.f0 0; have f1 := lr.f0 1; have p0 := lr.c0; have p1 := lr.c1; clear hk ir lr br b2))
      go_wp2
      exact bodyPost_ret (v := .agg #[.bool gs, .slice ar (gzl Z).length cr]) (by simp [results, Try.results47, go_sem, p0, p1]) rfl R.out
  · have hE := hid (show Z = sval true (val A + val B) by rw [HZ.out, add_eq])
    have KA := hid (fun (W : World) (h1 : RowI W a A.length A) (h2 : RowI W a' B.length B) => l02Add_any a a' _ _ c c' A B (by omega) (by omega) lA.out lB.out W h1 h2)
    have KM := hid (fun (W : World) (D : Nat) (v : Value) (M : List Int) (hM : Lim M) (hv : val M = val A + val B) (hl : M.length ≤ 1073741824) (h : Ints W D v M) => l03Make_own true D v M hl hM W h)
    go_enter Try.func47, Try.ntmps47
    go_wp2_with fail
    change Code.wp _ _ _ _ (W3 w true (.slice a A.length c) true (.slice a' B.length c') 27)
    rw [HW.out]
    have B0 := hid (Below_drew1 B0.out)
    have L1 := hid (show Loc 27 W.drew _ _ _ from L1.out)
    have L2 := hid (show Loc 27 W.drew _ _ _ from L2.out)
    have L0 := hid (show Loc 27 W.drew _ _ _ from L0.out)
    have I1 := hid (show Ints W.drew _ _ _ from I1.out)
    have I2 := hid (show Ints W.drew _ _ _ from I2.out)
    have q0 := L2.out.c0
    have q1 := L2.out.c1
    have q2 := L1.out.c0
    have q3 := L1.out.c1
    go_region_held3 (fun w' => w'.cell? ⟨w.heap.size + 1, 0, none⟩ = some (.bool true) ∧ w'.cell? ⟨w.heap.size + 1, 1, none⟩ = some (.slice a' B.length c') ∧ w'.cell? ⟨w.heap.size, 0, none⟩ = some (.bool true) ∧ w'.cell? ⟨w.heap.size, 1, none⟩ = some (.slice a A.length c)) (first | exact ⟨q0, q1, q2, q3⟩ | exact ⟨(cell_set2 (by omega)).trans q0, (cell_set2 (by omega)).trans q1, (cell_set2 (by omega)).trans q2, (cell_set2 (by omega)).trans q3⟩) (first | (go_at_call 61; (with_reducible refine (KA.out _ (Ints_rowW I1.out) (Ints_rowW I2.out)).mono ?_); rintro e w1 ⟨M, hM, hv, hl, u, rfl, iu, b2⟩; have KM := hid (fun (W : World) (D : Nat) (v : Value) (h : Ints W D v M) => KM.out W D v M hM hv (by omega) h); rw [hv, ← hE.out, ← HGS.out] at KM; clear hM hv hl; have L0 := hid (L0.out.old b2); have L1 := hid (L1.out.old b2); have L2 := hid (L2.out.old b2); have B0 := hid (B0.out.trans (b2.mono B0.out.size)); have q0 := L2.out.c0; have q1 := L2.out.c1; have q2 := L1.out.c0; have q3 := L1.out.c1; have HU := hid iu; obtain ⟨au, cu, rfl, -⟩ := Ints_form iu; clear iu b2) | (go_at_call 37; (with_reducible refine (KM.out _ _ _ HU.out).mono ?_); rintro e w9 hk; obtain ⟨r, rfl, ir, lr, br⟩ := OwnG_in hk L0.out B0.out; have b2 := OwnG_below hk; have L1 := hid (L1.out.old b2); have L2 := hid (L2.out.old b2); have q0 := L2.out.c0; have q1 := L2.out.c1; have q2 := L1.out.c0; have q3 := L1.out.c1; have R := hid (OwnG_out1 (s := gs) (w := w) (b := w.heap.size + 1 + 1) B0.out.size (by omega) lr (by decide) ir br); obtain ⟨ar, cr, rfl, -⟩ := Ints_form ir; have f0 := lr.f0 0; have f1 := lr.f0 1; have p0 := lr.c0; have p1 := lr.c1; clear hk ir lr br b2))
    go_wp2
    exact bodyPost_ret (v := .agg #[.bool gs, .slice ar (gzl Z).length cr]) (by simp [results, Try.results47, go_sem, p0, p1]) rfl R.out
end Go.Proofs.Ytleechafachkaaa
