/- The reference's sum, difference and product of two structs. -/
import Derived.Test.YtleechafachkaaaSo
import Derived.Deep.RegionHeld3
namespace Go.Proofs.Ytleechafachkaaa
open Go.RowKit
open Go.Lib (hid)
set_option linter.unusedVariables false

theorem gz_back {Z : Int} (h : (Z.natAbs : Int) < pw 60) : nok (gzl Z) = true ∧ sval (gzs Z) (val (gzl Z)) = Z := by
  unfold gzl
  rw [capped_of h]
  refine ⟨nok_iff.2 ⟨rep_len h, Can_rep _⟩, ?_⟩
  rw [val_rep' (by omega)]
  unfold gzs sval
  by_cases hz : Z < 0
  · rw [if_pos (by simp; omega)]; omega
  · rw [if_neg (by simp; omega)]; omega
theorem sval_lt {s : Bool} {A : List Int} (h : nok A = true) : ((sval s (val A)).natAbs : Int) < pw 60 := by
  rw [sval_abs (val_nonneg (nok_lim h))]; exact nok_lt h

set_option maxRecDepth 100000 in
set_option maxHeartbeats 3200000 in
theorem spec_BigIntAdd (s t : Bool) (v u : Value) (A B : List Int) (hA : A.length ≤ 1073741824) (hB : B.length ≤ 1073741824) (b1 b2 : Nat) (w : World) (h1 : Ints w b1 v A) (h2 : Ints w b2 u B) :
    Calls Try.prog 24 #[.agg #[.bool s, v], .agg #[.bool t, u]] w (OwnG (gzs (bin (fun x y => x + y) s A t B)) (gzl (bin (fun x y => x + y) s A t B)) w) := by
  obtain ⟨Z, hZ⟩ : ∃ Z, Z = bin (fun x y => x + y) s A t B := ⟨_, rfl⟩
  have HZ := hid hZ
  rw [← hZ]
  clear hZ
  obtain ⟨gs, hgs⟩ : ∃ g, g = gzs Z := ⟨_, rfl⟩
  rw [← hgs]
  have HGS := hid hgs
  clear hgs
  have KA := hid (fun (W : World) (h : Ints W b1 v A) => spec_BigIntOk_own s v A hA b1 W h)
  have KB := hid (fun (W : World) (h : Ints W b2 u B) => spec_BigIntOk_own t u B hB b2 W h)
  have B0 := hid (W3_below (w := w) (s := s) (v := v) (t := t) (u := u) (T := 27))
  have L1 := hid (W3_1 (w := w) (s := s) (v := v) (t := t) (u := u) (T := 27))
  have L2 := hid (W3_2 (w := w) (s := s) (v := v) (t := t) (u := u) (T := 27))
  have L3 := hid (W3_3 (w := w) (s := s) (v := v) (t := t) (u := u) (T := 27))
  have I1 := hid (Ints_old h1 B0.out)
  have I2 := hid (Ints_old h2 B0.out)
  obtain ⟨a, c, rfl, -⟩ := Ints_form h1
  obtain ⟨a', c', rfl, -⟩ := Ints_form h2
  clear h1 h2
  cases e1 : bok s A with
  | false =>
    have hE := hid (HZ.out.trans (bin_no (.inl e1)))
    rw [e1] at KA
    clear e1
    go_enter Try.func24, Try.ntmps24
    go_wp2_with fail
    change Calls _ _ _ (W3 w s (.slice a A.length c) t (.slice a' B.length c') 27) _
    refine (KA.out _ I1.out).mono ?_
    rintro e w1 ⟨rfl, b1⟩
    have B0 := hid (B0.out.trans (b1.mono B0.out.size))
    have L3 := hid (L3.out.old b1)
    clear b1
    have f0 := L3.out.f0 0
    have f1 := L3.out.f0 1
    have p0 := L3.out.c0
    have p1 := L3.out.c1
    have R := hid (OwnG_zero (T := 27) HGS.out rfl hE.out rfl B0.out)
    clear hE
    go_wp2
    exact bodyPost_ret (v := .agg #[.bool false, .slice none 0 0]) (by simp [results, Try.results24, go_sem, p0, p1]) rfl R.out
  | true =>
    rw [e1] at KA
    cases e2 : bok t B with
    | false =>
      have hE := hid (HZ.out.trans (bin_no (.inr e2)))
      rw [e2] at KB
      clear e1 e2
      go_enter Try.func24, Try.ntmps24
      go_wp2_with fail
      change Calls _ _ _ (W3 w s (.slice a A.length c) t (.slice a' B.length c') 27) _
      refine (KA.out _ I1.out).mono ?_
      rintro e w1 ⟨rfl, b1⟩
      have B0 := hid (B0.out.trans (b1.mono B0.out.size))
      have I2 := hid (Ints_old I2.out b1)
      have L2 := hid (L2.out.old b1)
      have L3 := hid (L3.out.old b1)
      have q0 := L2.out.c0
      have q1 := L2.out.c1
      clear b1
      go_wp2_with fail
      refine (KB.out _ I2.out).mono ?_
      rintro e w2 ⟨rfl, b1⟩
      have B0 := hid (B0.out.trans (b1.mono B0.out.size))
      have L3 := hid (L3.out.old b1)
      clear b1 q0 q1
      have f0 := L3.out.f0 0
      have f1 := L3.out.f0 1
      have p0 := L3.out.c0
      have p1 := L3.out.c1
      have R := hid (OwnG_zero (T := 27) HGS.out rfl hE.out rfl B0.out)
      clear hE
      go_wp2
      exact bodyPost_ret (v := .agg #[.bool false, .slice none 0 0]) (by simp [results, Try.results24, go_sem, p0, p1]) rfl R.out
    | true =>
      have hE := hid (HZ.out.trans (bin_yes e1 e2))
      rw [e2] at KB
      have nA := hid (bok_iff.1 e1).1
      have nB := hid (bok_iff.1 e2).1
      clear e1 e2
      go_enter Try.func24, Try.ntmps24
      go_wp2_with fail
      change Calls _ _ _ (W3 w s (.slice a A.length c) t (.slice a' B.length c') 27) _
      refine (KA.out _ I1.out).mono ?_
      rintro e w1 ⟨rfl, b1⟩
      have B0 := hid (B0.out.trans (b1.mono B0.out.size))
      have I1 := hid (Ints_old I1.out b1)
      have I2 := hid (Ints_old I2.out b1)
      have L1 := hid (L1.out.old b1)
      have L2 := hid (L2.out.old b1)
      have L3 := hid (L3.out.old b1)
      have q0 := L2.out.c0
      have q1 := L2.out.c1
      clear b1
      go_wp2_with fail
      refine (KB.out _ I2.out).mono ?_
      rintro e w2 ⟨rfl, b1⟩
      have B0 := hid (B0.out.trans (b1.mono B0.out.size))
      have I1 := hid (Ints_old I1.out b1)
      have I2 := hid (Ints_old I2.out b1)
      have L1 := hid (L1.out.old b1)
      have L2 := hid (L2.out.old b1)
      have L3 := hid (L3.out.old b1)
      clear b1 q0 q1
      have q0 := L2.out.c0
      have q1 := L2.out.c1
      have q2 := L1.out.c0
      have q3 := L1.out.c1
      go_wp2_with fail
      refine (l03Add_own s t _ _ A B nA.out nB.out _ _ w2 I1.out I2.out).mono ?_
      rintro e w3 ⟨r, rfl, ir, b1⟩
      rw [← hE.out] at ir
      rw [← hE.out, ← HGS.out]
      have BB := hid (B0.out.trans (b1.mono B0.out.size))
      have L3 := hid (L3.out.old b1)
      have R := hid (OwnG_out2 (s := gs) B0.out.size rfl L3.out (by decide) ir BB.out)
      obtain ⟨ar, cr, rfl, -⟩ := Ints_form ir
      have f0 := L3.out.f0 0
      have f1 := L3.out.f0 1
      have p0 := L3.out.c0
      have p1 := L3.out.c1
      clear ir b1 q0 q1 q2 q3
      go_wp2
      exact bodyPost_ret (v := .agg #[.bool gs, .slice ar (gzl Z).length cr]) (by simp [results, Try.results24, go_sem, p0, p1]) rfl R.out

set_option maxRecDepth 100000 in
set_option maxHeartbeats 3200000 in
theorem spec_BigIntSub (s t : Bool) (v u : Value) (A B : List Int) (hA : A.length ≤ 1073741824) (hB : B.length ≤ 1073741824) (b1 b2 : Nat) (w : World) (h1 : Ints w b1 v A) (h2 : Ints w b2 u B) :
    Calls Try.prog 26 #[.agg #[.bool s, v], .agg #[.bool t, u]] w (OwnG (gzs (bin (fun x y => x - y) s A t B)) (gzl (bin (fun x y => x - y) s A t B)) w) := by
  obtain ⟨Z, hZ⟩ : ∃ Z, Z = bin (fun x y => x - y) s A t B := ⟨_, rfl⟩
  have HZ := hid hZ
  rw [← hZ]
  clear hZ
  obtain ⟨gs, hgs⟩ : ∃ g, g = gzs Z := ⟨_, rfl⟩
  rw [← hgs]
  have HGS := hid hgs
  clear hgs
  have KA := hid (fun (W : World) (h : Ints W b1 v A) => spec_BigIntOk_own s v A hA b1 W h)
  have KB := hid (fun (W : World) (h : Ints W b2 u B) => spec_BigIntOk_own t u B hB b2 W h)
  have B0 := hid (W3_below (w := w) (s := s) (v := v) (t := t) (u := u) (T := 27))
  have L1 := hid (W3_1 (w := w) (s := s) (v := v) (t := t) (u := u) (T := 27))
  have L2 := hid (W3_2 (w := w) (s := s) (v := v) (t := t) (u := u) (T := 27))
  have L3 := hid (W3_3 (w := w) (s := s) (v := v) (t := t) (u := u) (T := 27))
  have I1 := hid (Ints_old h1 B0.out)
  have I2 := hid (Ints_old h2 B0.out)
  obtain ⟨a, c, rfl, -⟩ := Ints_form h1
  obtain ⟨a', c', rfl, -⟩ := Ints_form h2
  clear h1 h2
  cases e1 : bok s A with
  | false =>
    have hE := hid (HZ.out.trans (bin_no (.inl e1)))
    rw [e1] at KA
    clear e1
    go_enter Try.func26, Try.ntmps26
    go_wp2_with fail
    change Calls _ _ _ (W3 w s (.slice a A.length c) t (.slice a' B.length c') 27) _
    refine (KA.out _ I1.out).mono ?_
    rintro e w1 ⟨rfl, b1⟩
    have B0 := hid (B0.out.trans (b1.mono B0.out.size))
    have L3 := hid (L3.out.old b1)
    clear b1
    have f0 := L3.out.f0 0
    have f1 := L3.out.f0 1
    have p0 := L3.out.c0
    have p1 := L3.out.c1
    have R := hid (OwnG_zero (T := 27) HGS.out rfl hE.out rfl B0.out)
    clear hE
    go_wp2
    exact bodyPost_ret (v := .agg #[.bool false, .slice none 0 0]) (by simp [results, Try.results26, go_sem, p0, p1]) rfl R.out
  | true =>
    rw [e1] at KA
    cases e2 : bok t B with
    | false =>
      have hE := hid (HZ.out.trans (bin_no (.inr e2)))
      rw [e2] at KB
      clear e1 e2
      go_enter Try.func26, Try.ntmps26
      go_wp2_with fail
      change Calls _ _ _ (W3 w s (.slice a A.length c) t (.slice a' B.length c') 27) _
      refine (KA.out _ I1.out).mono ?_
      rintro e w1 ⟨rfl, b1⟩
      have B0 := hid (B0.out.trans (b1.mono B0.out.size))
      have I2 := hid (Ints_old I2.out b1)
      have L2 := hid (L2.out.old b1)
      have L3 := hid (L3.out.old b1)
      have q0 := L2.out.c0
      have q1 := L2.out.c1
      clear b1
      go_wp2_with fail
      refine (KB.out _ I2.out).mono ?_
      rintro e w2 ⟨rfl, b1⟩
      have B0 := hid (B0.out.trans (b1.mono B0.out.size))
      have L3 := hid (L3.out.old b1)
      clear b1 q0 q1
      have f0 := L3.out.f0 0
      have f1 := L3.out.f0 1
      have p0 := L3.out.c0
      have p1 := L3.out.c1
      have R := hid (OwnG_zero (T := 27) HGS.out rfl hE.out rfl B0.out)
      clear hE
      go_wp2
      exact bodyPost_ret (v := .agg #[.bool false, .slice none 0 0]) (by simp [results, Try.results26, go_sem, p0, p1]) rfl R.out
    | true =>
      have hE := hid (HZ.out.trans (bin_yes e1 e2))
      rw [e2] at KB
      have nA := hid (bok_iff.1 e1).1
      have nB := hid (bok_iff.1 e2).1
      have eB := hid (bok_iff.1 e2)
      clear e1 e2
      go_enter Try.func26, Try.ntmps26
      go_wp2_with fail
      change Calls _ _ _ (W3 w s (.slice a A.length c) t (.slice a' B.length c') 27) _
      refine (KA.out _ I1.out).mono ?_
      rintro e w1 ⟨rfl, b1⟩
      have B0 := hid (B0.out.trans (b1.mono B0.out.size))
      have I1 := hid (Ints_old I1.out b1)
      have I2 := hid (Ints_old I2.out b1)
      have L1 := hid (L1.out.old b1)
      have L2 := hid (L2.out.old b1)
      have L3 := hid (L3.out.old b1)
      have q0 := L2.out.c0
      have q1 := L2.out.c1
      clear b1
      go_wp2_with fail
      refine (KB.out _ I2.out).mono ?_
      rintro e w2 ⟨rfl, b1⟩
      have B0 := hid (B0.out.trans (b1.mono B0.out.size))
      have I1 := hid (Ints_old I1.out b1)
      have I2 := hid (Ints_old I2.out b1)
      have L1 := hid (L1.out.old b1)
      have L2 := hid (L2.out.old b1)
      have L3 := hid (L3.out.old b1)
      clear b1 q0 q1
      have q0 := L2.out.c0
      have q1 := L2.out.c1
      have q2 := L1.out.c0
      have q3 := L1.out.c1
      have hK := hid (gz_back (Z := -(sval t (val B))) (by rw [Int.natAbs_neg]; exact sval_lt nB.out))
      have hU := hid (una_yes (f := fun x => -x) (bok_iff.2 eB.out))
      have KN := hid (fun (W : World) (h : Ints W b2 (.slice a' B.length c') B) => spec_BigIntNeg t _ B hB b2 W h)
      rw [hU.out] at KN
      have KM := hid (fun (W : World) (v : Value) (d : Nat) (h1 : Ints W b1 (.slice a A.length c) A) (h2 : Ints W d v (gzl (-(sval t (val B))))) => l03Add_own s (gzs (-(sval t (val B)))) _ v A (gzl (-(sval t (val B)))) nA.out hK.out.1 b1 d W h1 h2)
      have hZ2 := hid (show sval s (val A) + sval (gzs (-(sval t (val B)))) (val (gzl (-(sval t (val B))))) = Z by rw [hK.out.2, hE.out]; rfl)
      rw [hZ2.out, ← HGS.out] at KM
      obtain ⟨ns, hns⟩ : ∃ n, n = gzs (-(sval t (val B))) := ⟨_, rfl⟩
      obtain ⟨nl, hnl⟩ : ∃ n, n = gzl (-(sval t (val B))) := ⟨_, rfl⟩
      rw [← hns, ← hnl] at KN KM
      clear hns hnl hK hU hZ2
      clear q0 q1 q2 q3
      go_wp2_with fail
      have B0 := hid (Below_drew1 B0.out)
      have L1 := hid (show Loc 27 w2.drew _ _ _ from L1.out)
      have L2 := hid (show Loc 27 w2.drew _ _ _ from L2.out)
      have L3 := hid (show Loc 27 w2.drew _ _ _ from L3.out)
      have I1 := hid (show Ints w2.drew _ _ _ from I1.out)
      have I2 := hid (show Ints w2.drew _ _ _ from I2.out)
      have q0 := L2.out.c0
      have q1 := L2.out.c1
      have q2 := L1.out.c0
      have q3 := L1.out.c1
      go_region_held3 (fun w' => w'.cell? ⟨w.heap.size + 1, 0, none⟩ = some (.bool t) ∧ w'.cell? ⟨w.heap.size + 1, 1, none⟩ = some (.slice a' B.length c') ∧ w'.cell? ⟨w.heap.size, 0, none⟩ = some (.bool s) ∧ w'.cell? ⟨w.heap.size, 1, none⟩ = some (.slice a A.length c)) (first | exact ⟨q0, q1, q2, q3⟩ | exact ⟨(cell_set2 (by omega)).trans q0, (cell_set2 (by omega)).trans q1, (cell_set2 (by omega)).trans q2, (cell_set2 (by omega)).trans q3⟩) (first | (go_at_call 22; (with_reducible refine (KN.out _ I2.out).mono ?_); rintro e w8 ⟨u, rfl, iu, b2⟩; have L3 := hid (L3.out.old b2); have L1 := hid (L1.out.old b2); have L2 := hid (L2.out.old b2); have B0 := hid (B0.out.trans (b2.mono B0.out.size)); have q0 := L2.out.c0; have q1 := L2.out.c1; have q2 := L1.out.c0; have q3 := L1.out.c1; have I1 := hid (Ints_old I1.out b2); have HU := hid iu; obtain ⟨au, cu, rfl, -⟩ := Ints_form iu; clear iu b2) | (go_at_call 47; (with_reducible refine (KM.out _ _ _ I1.out HU.out).mono ?_); rintro e w9 hk; obtain ⟨r, rfl, ir, lr, br⟩ := OwnG_in hk L3.out B0.out; have b2 := OwnG_below hk; have L1 := hid (L1.out.old b2); have L2 := hid (L2.out.old b2); have q0 := L2.out.c0; have q1 := L2.out.c1; have q2 := L1.out.c0; have q3 := L1.out.c1; have R := hid (OwnG_out2 (s := gs) B0.out.size rfl lr (by decide) ir br); obtain ⟨ar, cr, rfl, -⟩ := Ints_form ir; have f0 := lr.f0 0; have f1 := lr.f0 1; have p0 := lr.c0; have p1 := lr.c1; clear hk ir lr br b2))
      go_wp2
      exact bodyPost_ret (v := .agg #[.bool gs, .slice ar (gzl Z).length cr]) (by simp [results, Try.results26, go_sem, p0, p1]) rfl R.out

set_option maxRecDepth 100000 in
set_option maxHeartbeats 3200000 in
theorem spec_BigIntMul (s t : Bool) (v u : Value) (A B : List Int) (hA : A.length ≤ 1073741824) (hB : B.length ≤ 1073741824) (b1 b2 : Nat) (w : World) (h1 : Ints w b1 v A) (h2 : Ints w b2 u B) :
    Calls Try.prog 28 #[.agg #[.bool s, v], .agg #[.bool t, u]] w (OwnG (gzs (bin (fun x y => x * y) s A t B)) (gzl (bin (fun x y => x * y) s A t B)) w) := by
  obtain ⟨Z, hZ⟩ : ∃ Z, Z = bin (fun x y => x * y) s A t B := ⟨_, rfl⟩
  have HZ := hid hZ
  rw [← hZ]
  clear hZ
  obtain ⟨gs, hgs⟩ : ∃ g, g = gzs Z := ⟨_, rfl⟩
  rw [← hgs]
  have HGS := hid hgs
  clear hgs
  have KA := hid (fun (W : World) (h : Ints W b1 v A) => spec_BigIntOk_own s v A hA b1 W h)
  have KB := hid (fun (W : World) (h : Ints W b2 u B) => spec_BigIntOk_own t u B hB b2 W h)
  have B0 := hid (W3_below (w := w) (s := s) (v := v) (t := t) (u := u) (T := 27))
  have L1 := hid (W3_1 (w := w) (s := s) (v := v) (t := t) (u := u) (T := 27))
  have L2 := hid (W3_2 (w := w) (s := s) (v := v) (t := t) (u := u) (T := 27))
  have L3 := hid (W3_3 (w := w) (s := s) (v := v) (t := t) (u := u) (T := 27))
  have I1 := hid (Ints_old h1 B0.out)
  have I2 := hid (Ints_old h2 B0.out)
  obtain ⟨a, c, rfl, -⟩ := Ints_form h1
  obtain ⟨a', c', rfl, -⟩ := Ints_form h2
  clear h1 h2
  cases e1 : bok s A with
  | false =>
    have hE := hid (HZ.out.trans (bin_no (.inl e1)))
    rw [e1] at KA
    clear e1
    go_enter Try.func28, Try.ntmps28
    go_wp2_with fail
    change Calls _ _ _ (W3 w s (.slice a A.length c) t (.slice a' B.length c') 27) _
    refine (KA.out _ I1.out).mono ?_
    rintro e w1 ⟨rfl, b1⟩
    have B0 := hid (B0.out.trans (b1.mono B0.out.size))
    have L3 := hid (L3.out.old b1)
    clear b1
    have f0 := L3.out.f0 0
    have f1 := L3.out.f0 1
    have p0 := L3.out.c0
    have p1 := L3.out.c1
    have R := hid (OwnG_zero (T := 27) HGS.out rfl hE.out rfl B0.out)
    clear hE
    go_wp2
    exact bodyPost_ret (v := .agg #[.bool false, .slice none 0 0]) (by simp [results, Try.results28, go_sem, p0, p1]) rfl R.out
  | true =>
    rw [e1] at KA
    cases e2 : bok t B with
    | false =>
      have hE := hid (HZ.out.trans (bin_no (.inr e2)))
      rw [e2] at KB
      clear e1 e2
      go_enter Try.func28, Try.ntmps28
      go_wp2_with fail
      change Calls _ _ _ (W3 w s (.slice a A.length c) t (.slice a' B.length c') 27) _
      refine (KA.out _ I1.out).mono ?_
      rintro e w1 ⟨rfl, b1⟩
      have B0 := hid (B0.out.trans (b1.mono B0.out.size))
      have I2 := hid (Ints_old I2.out b1)
      have L2 := hid (L2.out.old b1)
      have L3 := hid (L3.out.old b1)
      have q0 := L2.out.c0
      have q1 := L2.out.c1
      clear b1
      go_wp2_with fail
      refine (KB.out _ I2.out).mono ?_
      rintro e w2 ⟨rfl, b1⟩
      have B0 := hid (B0.out.trans (b1.mono B0.out.size))
      have L3 := hid (L3.out.old b1)
      clear b1 q0 q1
      have f0 := L3.out.f0 0
      have f1 := L3.out.f0 1
      have p0 := L3.out.c0
      have p1 := L3.out.c1
      have R := hid (OwnG_zero (T := 27) HGS.out rfl hE.out rfl B0.out)
      clear hE
      go_wp2
      exact bodyPost_ret (v := .agg #[.bool false, .slice none 0 0]) (by simp [results, Try.results28, go_sem, p0, p1]) rfl R.out
    | true =>
      have hE := hid (HZ.out.trans (bin_yes e1 e2))
      rw [e2] at KB
      have nA := hid (bok_iff.1 e1).1
      have nB := hid (bok_iff.1 e2).1
      clear e1 e2
      go_enter Try.func28, Try.ntmps28
      go_wp2_with fail
      change Calls _ _ _ (W3 w s (.slice a A.length c) t (.slice a' B.length c') 27) _
      refine (KA.out _ I1.out).mono ?_
      rintro e w1 ⟨rfl, b1⟩
      have B0 := hid (B0.out.trans (b1.mono B0.out.size))
      have I1 := hid (Ints_old I1.out b1)
      have I2 := hid (Ints_old I2.out b1)
      have L1 := hid (L1.out.old b1)
      have L2 := hid (L2.out.old b1)
      have L3 := hid (L3.out.old b1)
      have q0 := L2.out.c0
      have q1 := L2.out.c1
      clear b1
      go_wp2_with fail
      refine (KB.out _ I2.out).mono ?_
      rintro e w2 ⟨rfl, b1⟩
      have B0 := hid (B0.out.trans (b1.mono B0.out.size))
      have I1 := hid (Ints_old I1.out b1)
      have I2 := hid (Ints_old I2.out b1)
      have L1 := hid (L1.out.old b1)
      have L2 := hid (L2.out.old b1)
      have L3 := hid (L3.out.old b1)
      clear b1 q0 q1
      have q0 := L2.out.c0
      have q1 := L2.out.c1
      have q2 := L1.out.c0
      have q3 := L1.out.c1
      have n1 := nok_len nA.out
      have n2 := nok_len nB.out
      have hP := hid (Int.mul_nonneg (val_nonneg (nok_lim nA.out)) (val_nonneg (nok_lim nB.out)))
      have hl := (mul_lt (nok_lim nA.out) (nok_lim nB.out) n1 n2 A.length).1
      rw [List.take_length] at hl
      have hl := rep_len' hl
      have KN := hid (fun (W : World) (h1 : Ints W b1 (.slice a A.length c) A) (h2 : Ints W b2 (.slice a' B.length c') B) => l02Mul_any a a' _ _ c c' A B (by omega) (by omega) (nok_lim nA.out) (nok_lim nB.out) W (Ints_rowW h1) (Ints_rowW h2))
      have KM := hid (fun (W : World) (D : Nat) (v : Value) (h : Ints W D v (rep (val A * val B).toNat)) => l03Make_own (!(s == t)) D v _ (by omega) (Lim_rep _) W h)
      have hZ2 := hid (show sval (!(s == t)) (val A * val B) = Z from (hE.out.trans sval_mul).symm)
      rw [val_rep' hP.out, hZ2.out, ← HGS.out] at KM
      clear hl hP hZ2
      clear q0 q1 q2 q3
      go_wp2_with fail
      have B0 := hid (Below_drew1 B0.out)
      have L1 := hid (show Loc 27 w2.drew _ _ _ from L1.out)
      have L2 := hid (show Loc 27 w2.drew _ _ _ from L2.out)
      have L3 := hid (show Loc 27 w2.drew _ _ _ from L3.out)
      have I1 := hid (show Ints w2.drew _ _ _ from I1.out)
      have I2 := hid (show Ints w2.drew _ _ _ from I2.out)
      have q0 := L2.out.c0
      have q1 := L2.out.c1
      have q2 := L1.out.c0
      have q3 := L1.out.c1
      go_region_held3 (fun w' => w'.cell? ⟨w.heap.size + 1, 0, none⟩ = some (.bool t) ∧ w'.cell? ⟨w.heap.size + 1, 1, none⟩ = some (.slice a' B.length c') ∧ w'.cell? ⟨w.heap.size, 0, none⟩ = some (.bool s) ∧ w'.cell? ⟨w.heap.size, 1, none⟩ = some (.slice a A.length c)) (first | exact ⟨q0, q1, q2, q3⟩ | exact ⟨(cell_set2 (by omega)).trans q0, (cell_set2 (by omega)).trans q1, (cell_set2 (by omega)).trans q2, (cell_set2 (by omega)).trans q3⟩) (first | (go_at_call 49; (with_reducible refine (KN.out _ I1.out I2.out).mono ?_); rintro e w8 ⟨u, rfl, iu, b2⟩; have L3 := hid (L3.out.old b2); have L1 := hid (L1.out.old b2); have L2 := hid (L2.out.old b2); have B0 := hid (B0.out.trans (b2.mono B0.out.size)); have q0 := L2.out.c0; have q1 := L2.out.c1; have q2 := L1.out.c0; have q3 := L1.out.c1; have HU := hid iu; obtain ⟨au, cu, rfl, -⟩ := Ints_form iu; clear iu b2) | (go_at_call 37; (with_reducible refine (KM.out _ _ _ HU.out).mono ?_); rintro e w9 hk; obtain ⟨r, rfl, ir, lr, br⟩ := OwnG_in hk L3.out B0.out; have b2 := OwnG_below hk; have L1 := hid (L1.out.old b2); have L2 := hid (L2.out.old b2); have q0 := L2.out.c0; have q1 := L2.out.c1; have q2 := L1.out.c0; have q3 := L1.out.c1; have R := hid (OwnG_out2 (s := gs) B0.out.size rfl lr (by decide) ir br); obtain ⟨ar, cr, rfl, -⟩ := Ints_form ir; have f0 := lr.f0 0; have f1 := lr.f0 1; have p0 := lr.c0; have p1 := lr.c1; clear hk ir lr br b2))
      go_wp2
      exact bodyPost_ret (v := .agg #[.bool gs, .slice ar (gzl Z).length cr]) (by simp [results, Try.results28, go_sem, p0, p1]) rfl R.out

end Go.Proofs.Ytleechafachkaaa
