/- The program's signed sum and difference of two structs. -/
import Derived.Test.YtnkcihcmkojdmaaGreatWj
namespace Go.Proofs.YtnkcihcmkojdmaaGreat
open Go.RowKit
open Go.Lib (hid)
set_option linter.unusedVariables false

/-- A function of two integers on pairs of sign and limbs; 0 where one is not valid. -/
def bin (f : Int → Int → Int) (s : Bool) (A : List Int) (t : Bool) (B : List Int) : Int := if bok s A && bok t B then f (sval s (val A)) (sval t (val B)) else 0
theorem bin_no {f : Int → Int → Int} {s t : Bool} {A B : List Int} (h : bok s A = false ∨ bok t B = false) : bin f s A t B = 0 := by
  unfold bin; rcases h with h | h <;> simp [h]
theorem bin_yes {f : Int → Int → Int} {s t : Bool} {A B : List Int} (h : bok s A = true) (h' : bok t B = true) : bin f s A t B = f (sval s (val A)) (sval t (val B)) := by simp [bin, h, h']
theorem OwnG_zero {s : Bool} {L : List Int} {Z : Int} {w w4 : World} {b : Nat} {T : TypeId} (hs : s = gzs Z) (hl : L = gzl Z) (hz : Z = 0) (hb : b = w.heap.size + 1 + 1) (hB : Below w.heap.size w w4) :
    OwnG s L w (.returned (.agg #[.bool false, .slice none 0 0])) ((w4.setCell ⟨b, 0, none⟩ (.bool false)).setCell ⟨b, 1, none⟩ (.slice none 0 0)) := by
  rw [hs, hl, hz, gzs_zero, gzl_zero]
  exact OwnG_mk (Nat.le_refl _) rfl (Ints_nil _ _) ((hB.setCell (by simp [hb]; omega) _).setCell (by simp [hb]; omega) _)
theorem OwnG_out2 {s : Bool} {L : List Int} {w w4 : World} {r : Value} {lo b : Nat} {T : TypeId} (hlo : w.heap.size ≤ lo) (hb : b = w.heap.size + 1 + 1) (hL : Loc T w4 b false (.slice none 0 0)) (hT : T ≠ 3) (hi : Ints w4 lo r L) (hB : Below w.heap.size w w4) :
    OwnG s L w (.returned (.agg #[.bool s, r])) ((w4.setCell ⟨b, 0, none⟩ (.bool s)).setCell ⟨b, 1, none⟩ r) :=
  OwnG_mk hlo rfl (Ints_set (Ints_set hi (hL.ne hT hi)) (hL.ne hT hi)) ((hB.setCell (by simp [hb]; omega) _).setCell (by simp [hb]; omega) _)
theorem neg_sval {t : Bool} {y : Int} : sval (!t) y = - sval t y := by cases t <;> simp [sval]

/-- The world in which two structs and a result have been laid. -/
def W3 (w : World) (s : Bool) (v : Value) (t : Bool) (u : Value) (T : TypeId) : World := ((w.alloc (.cells #[.bool s, v] T)).alloc (.cells #[.bool t, u] T)).alloc (.cells #[.bool false, .slice none 0 0] T)
theorem W3_below {w : World} {s t : Bool} {v u : Value} {T : TypeId} : Below w.heap.size w (W3 w s v t u T) := (((Below.refl _ _).alloc (Nat.le_refl _) _).alloc (by simp) _).alloc (by simp; omega) _
theorem W3_1 {w : World} {s t : Bool} {v u : Value} {T : TypeId} : Loc T (W3 w s v t u T) w.heap.size s v := (Loc.at rfl).new1.new1
theorem W3_2 {w : World} {s t : Bool} {v u : Value} {T : TypeId} : Loc T (W3 w s v t u T) (w.heap.size + 1) t u := (Loc.at (by simp)).new1
theorem W3_3 {w : World} {s t : Bool} {v u : Value} {T : TypeId} : Loc T (W3 w s v t u T) (w.heap.size + 1 + 1) false (.slice none 0 0) := Loc.at (by simp)
theorem W3_size {w : World} {s t : Bool} {v u : Value} {T : TypeId} : w.heap.size ≤ (W3 w s v t u T).heap.size := W3_below.size

set_option maxRecDepth 100000 in
set_option maxHeartbeats 3200000 in
theorem impl_BigIntAdd (s t : Bool) (v u : Value) (A B : List Int) (hA : A.length ≤ 1073741824) (hB : B.length ≤ 1073741824) (b1 b2 : Nat) (w : World) (h1 : Ints w b1 v A) (h2 : Ints w b2 u B) :
    Calls Tryz.prog 97 #[.agg #[.bool s, v], .agg #[.bool t, u]] w (OwnG (gzs (bin (fun x y => x + y) s A t B)) (gzl (bin (fun x y => x + y) s A t B)) w) := by
  obtain ⟨Z, hZ⟩ : ∃ Z, Z = bin (fun x y => x + y) s A t B := ⟨_, rfl⟩
  have HZ := hid hZ
  rw [← hZ]
  clear hZ
  obtain ⟨gs, hgs⟩ : ∃ g, g = gzs Z := ⟨_, rfl⟩
  rw [← hgs]
  have HGS := hid hgs
  clear hgs
  have KA := hid (fun (W : World) (h : Ints W b1 v A) => impl_BigIntOk_own s v A hA b1 W h)
  have KB := hid (fun (W : World) (h : Ints W b2 u B) => impl_BigIntOk_own t u B hB b2 W h)
  have B0 := hid (W3_below (w := w) (s := s) (v := v) (t := t) (u := u) (T := 28))
  have L1 := hid (W3_1 (w := w) (s := s) (v := v) (t := t) (u := u) (T := 28))
  have L2 := hid (W3_2 (w := w) (s := s) (v := v) (t := t) (u := u) (T := 28))
  have L3 := hid (W3_3 (w := w) (s := s) (v := v) (t := t) (u := u) (T := 28))
  have I1 := hid (Ints_old h1 B0.out)
  have I2 := hid (Ints_old h2 B0.out)
  obtain ⟨a, c, rfl, -⟩ := Ints_form h1
  obtain ⟨a', c', rfl, -⟩ := Ints_form h2
  clear h1 h2
  cases e1 : bok s A with
  | false =>
    have hE := hid (HZ.out.trans (bin_no (.inl e1)))
    rw [e1] at KA
    clear e1
    go_enter Tryz.func97, Tryz.ntmps97
    go_wp2_with fail
    change Calls _ _ _ (W3 w s (.slice a A.length c) t (.slice a' B.length c') 28) _
    refine (KA.out _ I1.out).mono ?_
    rintro e w1 ⟨rfl, b1⟩
    have B0 := hid (B0.out.trans (b1.mono B0.out.size))
    have L3 := hid (L3.out.old b1)
    clear b1
    have f0 := L3.out.f0 0
    have f1 := L3.out.f0 1
    have p0 := L3.out.c0
    have p1 := L3.out.c1
    have R := hid (OwnG_zero (T := 28) HGS.out rfl hE.out rfl B0.out)
    clear hE
    go_wp2
    exact bodyPost_ret (v := .agg #[.bool false, .slice none 0 0]) (by simp [results, Tryz.results97, go_sem, p0, p1]) rfl R.out
  | true =>
    rw [e1] at KA
    cases e2 : bok t B with
    | false =>
      have hE := hid (HZ.out.trans (bin_no (.inr e2)))
      rw [e2] at KB
      clear e1 e2
      go_enter Tryz.func97, Tryz.ntmps97
      go_wp2_with fail
      change Calls _ _ _ (W3 w s (.slice a A.length c) t (.slice a' B.length c') 28) _
      refine (KA.out _ I1.out).mono ?_
      rintro e w1 ⟨rfl, b1⟩
      have B0 := hid (B0.out.trans (b1.mono B0.out.size))
      have I2 := hid (Ints_old I2.out b1)
      have L2 := hid (L2.out.old b1)
      have L3 := hid (L3.out.old b1)
      have q0 := L2.out.c0
      have q1 := L2.out.c1
      clear b1
      go_wp2_with fail
      refine (KB.out _ I2.out).mono ?_
      rintro e w2 ⟨rfl, b1⟩
      have B0 := hid (B0.out.trans (b1.mono B0.out.size))
      have L3 := hid (L3.out.old b1)
      clear b1 q0 q1
      have f0 := L3.out.f0 0
      have f1 := L3.out.f0 1
      have p0 := L3.out.c0
      have p1 := L3.out.c1
      have R := hid (OwnG_zero (T := 28) HGS.out rfl hE.out rfl B0.out)
      clear hE
      go_wp2
      exact bodyPost_ret (v := .agg #[.bool false, .slice none 0 0]) (by simp [results, Tryz.results97, go_sem, p0, p1]) rfl R.out
    | true =>
      have hE := hid (HZ.out.trans (bin_yes e1 e2))
      rw [e2] at KB
      have nA := hid (bok_iff.1 e1).1
      have nB := hid (bok_iff.1 e2).1
      clear e1 e2
      go_enter Tryz.func97, Tryz.ntmps97
      go_wp2_with fail
      change Calls _ _ _ (W3 w s (.slice a A.length c) t (.slice a' B.length c') 28) _
      refine (KA.out _ I1.out).mono ?_
      rintro e w1 ⟨rfl, b1⟩
      have B0 := hid (B0.out.trans (b1.mono B0.out.size))
      have I1 := hid (Ints_old I1.out b1)
      have I2 := hid (Ints_old I2.out b1)
      have L1 := hid (L1.out.old b1)
      have L2 := hid (L2.out.old b1)
      have L3 := hid (L3.out.old b1)
      have q0 := L2.out.c0
      have q1 := L2.out.c1
      clear b1
      go_wp2_with fail
      refine (KB.out _ I2.out).mono ?_
      rintro e w2 ⟨rfl, b1⟩
      have B0 := hid (B0.out.trans (b1.mono B0.out.size))
      have I1 := hid (Ints_old I1.out b1)
      have I2 := hid (Ints_old I2.out b1)
      have L1 := hid (L1.out.old b1)
      have L2 := hid (L2.out.old b1)
      have L3 := hid (L3.out.old b1)
      clear b1 q0 q1
      have q0 := L2.out.c0
      have q1 := L2.out.c1
      have q2 := L1.out.c0
      have q3 := L1.out.c1
      go_wp2_with fail
      refine (addSigned_own s (t) _ _ A B nA.out nB.out _ _ w2 I1.out I2.out).mono ?_
      rintro e w3 ⟨r, rfl, ir, b1⟩
      have hE2 := hid (show sval s (val A) + sval (t) (val B) = Z from by rw [hE.out])
      rw [hE2.out] at ir
      rw [hE2.out, ← HGS.out]
      have BB := hid (B0.out.trans (b1.mono B0.out.size))
      have L3 := hid (L3.out.old b1)
      have R := hid (OwnG_out2 (s := gs) B0.out.size rfl L3.out (by decide) ir BB.out)
      obtain ⟨ar, cr, rfl, -⟩ := Ints_form ir
      have f0 := L3.out.f0 0
      have f1 := L3.out.f0 1
      have p0 := L3.out.c0
      have p1 := L3.out.c1
      clear ir b1 q0 q1 q2 q3
      go_wp2
      exact bodyPost_ret (v := .agg #[.bool gs, .slice ar _ cr]) (by simp [results, Tryz.results97, go_sem, p0, p1]) rfl R.out

set_option maxRecDepth 100000 in
set_option maxHeartbeats 3200000 in
theorem impl_BigIntSub (s t : Bool) (v u : Value) (A B : List Int) (hA : A.length ≤ 1073741824) (hB : B.length ≤ 1073741824) (b1 b2 : Nat) (w : World) (h1 : Ints w b1 v A) (h2 : Ints w b2 u B) :
    Calls Tryz.prog 131 #[.agg #[.bool s, v], .agg #[.bool t, u]] w (OwnG (gzs (bin (fun x y => x - y) s A t B)) (gzl (bin (fun x y => x - y) s A t B)) w) := by
  obtain ⟨Z, hZ⟩ : ∃ Z, Z = bin (fun x y => x - y) s A t B := ⟨_, rfl⟩
  have HZ := hid hZ
  rw [← hZ]
  clear hZ
  obtain ⟨gs, hgs⟩ : ∃ g, g = gzs Z := ⟨_, rfl⟩
  rw [← hgs]
  have HGS := hid hgs
  clear hgs
  have KA := hid (fun (W : World) (h : Ints W b1 v A) => impl_BigIntOk_own s v A hA b1 W h)
  have KB := hid (fun (W : World) (h : Ints W b2 u B) => impl_BigIntOk_own t u B hB b2 W h)
  have B0 := hid (W3_below (w := w) (s := s) (v := v) (t := t) (u := u) (T := 28))
  have L1 := hid (W3_1 (w := w) (s := s) (v := v) (t := t) (u := u) (T := 28))
  have L2 := hid (W3_2 (w := w) (s := s) (v := v) (t := t) (u := u) (T := 28))
  have L3 := hid (W3_3 (w := w) (s := s) (v := v) (t := t) (u := u) (T := 28))
  have I1 := hid (Ints_old h1 B0.out)
  have I2 := hid (Ints_old h2 B0.out)
  obtain ⟨a, c, rfl, -⟩ := Ints_form h1
  obtain ⟨a', c', rfl, -⟩ := Ints_form h2
  clear h1 h2
  cases e1 : bok s A with
  | false =>
    have hE := hid (HZ.out.trans (bin_no (.inl e1)))
    rw [e1] at KA
    clear e1
    go_enter Tryz.func131, Tryz.ntmps131
    go_wp2_with fail
    change Calls _ _ _ (W3 w s (.slice a A.length c) t (.slice a' B.length c') 28) _
    refine (KA.out _ I1.out).mono ?_
    rintro e w1 ⟨rfl, b1⟩
    have B0 := hid (B0.out.trans (b1.mono B0.out.size))
    have L3 := hid (L3.out.old b1)
    clear b1
    have f0 := L3.out.f0 0
    have f1 := L3.out.f0 1
    have p0 := L3.out.c0
    have p1 := L3.out.c1
    have R := hid (OwnG_zero (T := 28) HGS.out rfl hE.out rfl B0.out)
    clear hE
    go_wp2
    exact bodyPost_ret (v := .agg #[.bool false, .slice none 0 0]) (by simp [results, Tryz.results131, go_sem, p0, p1]) rfl R.out
  | true =>
    rw [e1] at KA
    cases e2 : bok t B with
    | false =>
      have hE := hid (HZ.out.trans (bin_no (.inr e2)))
      rw [e2] at KB
      clear e1 e2
      go_enter Tryz.func131, Tryz.ntmps131
      go_wp2_with fail
      change Calls _ _ _ (W3 w s (.slice a A.length c) t (.slice a' B.length c') 28) _
      refine (KA.out _ I1.out).mono ?_
      rintro e w1 ⟨rfl, b1⟩
      have B0 := hid (B0.out.trans (b1.mono B0.out.size))
      have I2 := hid (Ints_old I2.out b1)
      have L2 := hid (L2.out.old b1)
      have L3 := hid (L3.out.old b1)
      have q0 := L2.out.c0
      have q1 := L2.out.c1
      clear b1
      go_wp2_with fail
      refine (KB.out _ I2.out).mono ?_
      rintro e w2 ⟨rfl, b1⟩
      have B0 := hid (B0.out.trans (b1.mono B0.out.size))
      have L3 := hid (L3.out.old b1)
      clear b1 q0 q1
      have f0 := L3.out.f0 0
      have f1 := L3.out.f0 1
      have p0 := L3.out.c0
      have p1 := L3.out.c1
      have R := hid (OwnG_zero (T := 28) HGS.out rfl hE.out rfl B0.out)
      clear hE
      go_wp2
      exact bodyPost_ret (v := .agg #[.bool false, .slice none 0 0]) (by simp [results, Tryz.results131, go_sem, p0, p1]) rfl R.out
    | true =>
      have hE := hid (HZ.out.trans (bin_yes e1 e2))
      rw [e2] at KB
      have nA := hid (bok_iff.1 e1).1
      have nB := hid (bok_iff.1 e2).1
      clear e1 e2
      go_enter Tryz.func131, Tryz.ntmps131
      go_wp2_with fail
      change Calls _ _ _ (W3 w s (.slice a A.length c) t (.slice a' B.length c') 28) _
      refine (KA.out _ I1.out).mono ?_
      rintro e w1 ⟨rfl, b1⟩
      have B0 := hid (B0.out.trans (b1.mono B0.out.size))
      have I1 := hid (Ints_old I1.out b1)
      have I2 := hid (Ints_old I2.out b1)
      have L1 := hid (L1.out.old b1)
      have L2 := hid (L2.out.old b1)
      have L3 := hid (L3.out.old b1)
      have q0 := L2.out.c0
      have q1 := L2.out.c1
      clear b1
      go_wp2_with fail
      refine (KB.out _ I2.out).mono ?_
      rintro e w2 ⟨rfl, b1⟩
      have B0 := hid (B0.out.trans (b1.mono B0.out.size))
      have I1 := hid (Ints_old I1.out b1)
      have I2 := hid (Ints_old I2.out b1)
      have L1 := hid (L1.out.old b1)
      have L2 := hid (L2.out.old b1)
      have L3 := hid (L3.out.old b1)
      clear b1 q0 q1
      have q0 := L2.out.c0
      have q1 := L2.out.c1
      have q2 := L1.out.c0
      have q3 := L1.out.c1
      go_wp2_with fail
      refine (addSigned_own s (!t) _ _ A B nA.out nB.out _ _ w2 I1.out I2.out).mono ?_
      rintro e w3 ⟨r, rfl, ir, b1⟩
      have hE2 := hid (show sval s (val A) + sval (!t) (val B) = Z from by rw [hE.out, neg_sval, Int.sub_eq_add_neg])
      rw [hE2.out] at ir
      rw [hE2.out, ← HGS.out]
      have BB := hid (B0.out.trans (b1.mono B0.out.size))
      have L3 := hid (L3.out.old b1)
      have R := hid (OwnG_out2 (s := gs) B0.out.size rfl L3.out (by decide) ir BB.out)
      obtain ⟨ar, cr, rfl, -⟩ := Ints_form ir
      have f0 := L3.out.f0 0
      have f1 := L3.out.f0 1
      have p0 := L3.out.c0
      have p1 := L3.out.c1
      clear ir b1 q0 q1 q2 q3
      go_wp2
      exact bodyPost_ret (v := .agg #[.bool gs, .slice ar _ cr]) (by simp [results, Tryz.results131, go_sem, p0, p1]) rfl R.out

end Go.Proofs.YtnkcihcmkojdmaaGreat
