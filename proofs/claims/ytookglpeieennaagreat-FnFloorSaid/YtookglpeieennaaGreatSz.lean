/- The reference: sums, differences, products, quotients, the order, the smaller and the greater fraction. -/
import Derived.Test.YtookglpeieennaaGreatSx
import Derived.Test.YtookglpeieennaaGreatSy
import Derived.Deep.RegionHeld3
namespace Go.Proofs.YtookglpeieennaaGreat
open Go.RowKit
open Go.Lib (hid)
set_option linter.unusedVariables false

set_option maxRecDepth 100000 in
set_option maxHeartbeats 3200000 in
theorem spec_RatAdd (s t : Bool) (v u v' u' : Value) (A D A' D' : List Int) (w : World) (h : RL w v u A D) (h' : RL w v' u' A' D') :
    Calls Tryz.prog 81 #[.agg #[.bool s, v, u], .agg #[.bool t, v', u']] w (OwnS (bq addF (rval s A D) (rval t A' D')) w) := by
  obtain ⟨o, ho⟩ : ∃ o, o = bq addF (rval s A D) (rval t A' D') := ⟨_, rfl⟩
  have HO := hid ho
  rw [← ho]
  clear ho
  have KA := hid (fun (W : World) (h : RL W v u A D) => spec_RatOk s v u A D W h)
  have KB := hid (fun (W : World) (h : RL W v' u' A' D') => spec_RatOk t v' u' A' D' W h)
  obtain ⟨a, c, b, d, rfl, rfl⟩ := h.form
  obtain ⟨a', c', b', d', rfl, rfl⟩ := h'.form
  have B := hid (show Below w.heap.size w (((w.alloc (.cells #[.bool s, .slice a A.length c, .slice b D.length d] 27)).alloc (.cells #[.bool t, .slice a' A'.length c', .slice b' D'.length d'] 27)).alloc (.cells #[.bool false, .slice none 0 0, .slice none 0 0] 27)) from (((Below.refl _ _).alloc (Nat.le_refl _) _).alloc (by simp) _).alloc (by simp; try omega) _)
  have LP := hid (show LocA 27 (((w.alloc (.cells #[.bool s, .slice a A.length c, .slice b D.length d] 27)).alloc (.cells #[.bool t, .slice a' A'.length c', .slice b' D'.length d'] 27)).alloc (.cells #[.bool false, .slice none 0 0, .slice none 0 0] 27)) (w.heap.size) #[.bool s, .slice a A.length c, .slice b D.length d] from (LocA.at (by simp)).new1.new1)
  have LQ := hid (show LocA 27 (((w.alloc (.cells #[.bool s, .slice a A.length c, .slice b D.length d] 27)).alloc (.cells #[.bool t, .slice a' A'.length c', .slice b' D'.length d'] 27)).alloc (.cells #[.bool false, .slice none 0 0, .slice none 0 0] 27)) (w.heap.size + 1) #[.bool t, .slice a' A'.length c', .slice b' D'.length d'] from (LocA.at (by simp)).new1)
  have LR := hid (show LocA 27 (((w.alloc (.cells #[.bool s, .slice a A.length c, .slice b D.length d] 27)).alloc (.cells #[.bool t, .slice a' A'.length c', .slice b' D'.length d'] 27)).alloc (.cells #[.bool false, .slice none 0 0, .slice none 0 0] 27)) (w.heap.size + 1 + 1) #[.bool false, .slice none 0 0, .slice none 0 0] from (LocA.at (by simp)))
  have H1 := hid (h.old B.out)
  have H2 := hid (h'.old B.out)
  clear h h'
  generalize hW : ((w.alloc (.cells #[.bool s, .slice a A.length c, .slice b D.length d] 27)).alloc (.cells #[.bool t, .slice a' A'.length c', .slice b' D'.length d'] 27)).alloc (.cells #[.bool false, .slice none 0 0, .slice none 0 0] 27) = W0 at B LP LQ LR H1 H2
  have HW := hid hW
  clear hW
  have hs0 := B.out.size
  obtain ⟨p1, hp1⟩ : ∃ p, p = rok s A D := ⟨_, rfl⟩
  obtain ⟨p2, hp2⟩ : ∃ p, p = rok t A' D' := ⟨_, rfl⟩
  rw [← hp1] at KA
  rw [← hp2] at KB
  cases p1 with
  | false =>
    have hE := hid (show o = none by rw [HO.out]; exact bq_no (by rw [← hp1]; rfl))
    clear hp1 hp2
    go_enter Tryz.func81, Tryz.ntmps81
    have q0 := LP.out.c 0 rfl
    have q1 := LP.out.c 1 rfl
    have q2 := LP.out.c 2 rfl
    go_wp2_with fail
    rw [HW.out]
    (with_reducible refine (KA.out _ H1.out).mono ?_)
    clear q0 q1 q2
    rintro e w1 ⟨rfl, b1⟩
    have LR := hid (LR.out.old b1)
    have B := hid (B.out.trans (b1.mono B.out.size))
    clear b1
    have f0 := LR.out.f 0
    have f1 := LR.out.f 1
    have f2 := LR.out.f 2
    have p0 := LR.out.c 0 rfl
    have p1 := LR.out.c 1 rfl
    have p2 := LR.out.c 2 rfl
    have R := hid (OwnS_zero (N := w.heap.size + 1 + 1) hE.out (by omega) B.out)
    go_wp2
    exact bodyPost_ret (v := .agg #[.bool false, .slice none 0 0, .slice none 0 0]) (by simp [results, Tryz.results81, go_sem, p0, p1, p2]) rfl R.out
  | true =>
  cases p2 with
  | false =>
    have hE := hid (show o = none by rw [HO.out]; exact bq_no (by rw [← hp1, ← hp2]; rfl))
    clear hp1 hp2
    go_enter Tryz.func81, Tryz.ntmps81
    have q0 := LP.out.c 0 rfl
    have q1 := LP.out.c 1 rfl
    have q2 := LP.out.c 2 rfl
    go_wp2_with fail
    rw [HW.out]
    (with_reducible refine (KA.out _ H1.out).mono ?_)
    clear q0 q1 q2
    rintro e w1 ⟨rfl, b1⟩
    have LR := hid (LR.out.old b1)
    have LQ := hid (LQ.out.old b1)
    have H2 := hid (H2.out.old b1)
    have B := hid (B.out.trans (b1.mono B.out.size))
    clear b1
    have q0 := LQ.out.c 0 rfl
    have q1 := LQ.out.c 1 rfl
    have q2 := LQ.out.c 2 rfl
    go_wp2_with fail
    (with_reducible refine (KB.out _ H2.out).mono ?_)
    clear q0 q1 q2
    rintro e w2 ⟨rfl, b1⟩
    have LR := hid (LR.out.old b1)
    have LQ := hid (LQ.out.old b1)
    have H2 := hid (H2.out.old b1)
    have B := hid (B.out.trans (b1.mono B.out.size))
    clear b1
    have f0 := LR.out.f 0
    have f1 := LR.out.f 1
    have f2 := LR.out.f 2
    have p0 := LR.out.c 0 rfl
    have p1 := LR.out.c 1 rfl
    have p2 := LR.out.c 2 rfl
    have R := hid (OwnS_zero (N := w.heap.size + 1 + 1) hE.out (by omega) B.out)
    go_wp2
    exact bodyPost_ret (v := .agg #[.bool false, .slice none 0 0, .slice none 0 0]) (by simp [results, Tryz.results81, go_sem, p0, p1, p2]) rfl R.out
  | true =>
  obtain ⟨x, ex, rx⟩ := RatX.of H1.out hp1.symm
  obtain ⟨y, ey, ry⟩ := RatX.of H2.out hp2.symm
  have X := hid rx
  have Y := hid ry
  clear rx ry
  have hE := hid (show o = addF x y by rw [HO.out, ex, ey, bq_some])
  have KL := hid (fun (W : World) (h : RatX W s (.slice a A.length c) (.slice b D.length d) x) (h' : RatX W t (.slice a' A'.length c') (.slice b' D'.length d') y) => l04Add_own s t _ _ _ _ x y W h h')
  rw [← hE.out] at KL
  clear hp1 hp2 ex ey hE HO
  obtain ⟨gs, hgs⟩ : ∃ g, g = gzs (qn o) := ⟨_, rfl⟩
  have HGS := hid hgs
  clear hgs
  go_enter Tryz.func81, Tryz.ntmps81
  have q0 := LP.out.c 0 rfl
  have q1 := LP.out.c 1 rfl
  have q2 := LP.out.c 2 rfl
  go_wp2_with fail
  rw [HW.out]
  (with_reducible refine (KA.out _ H1.out).mono ?_)
  clear q0 q1 q2
  rintro e w1 ⟨rfl, b1⟩
  have LR := hid (LR.out.old b1)
  have LP := hid (LP.out.old b1)
  have LQ := hid (LQ.out.old b1)
  have H2 := hid (H2.out.old b1)
  have X := hid (X.out.old b1)
  have Y := hid (Y.out.old b1)
  have B := hid (B.out.trans (b1.mono B.out.size))
  clear b1
  have q0 := LQ.out.c 0 rfl
  have q1 := LQ.out.c 1 rfl
  have q2 := LQ.out.c 2 rfl
  go_wp2_with fail
  (with_reducible refine (KB.out _ H2.out).mono ?_)
  clear q0 q1 q2
  rintro e w2 ⟨rfl, b1⟩
  have LR := hid (LR.out.old b1)
  have LP := hid (LP.out.old b1)
  have LQ := hid (LQ.out.old b1)
  have H2 := hid (H2.out.old b1)
  have X := hid (X.out.old b1)
  have Y := hid (Y.out.old b1)
  have B := hid (B.out.trans (b1.mono B.out.size))
  clear b1
  have q0 := LP.out.c 0 rfl
  have q1 := LP.out.c 1 rfl
  have q2 := LP.out.c 2 rfl
  have q3 := LQ.out.c 0 rfl
  have q4 := LQ.out.c 1 rfl
  have q5 := LQ.out.c 2 rfl
  have hs2 := B.out.size
  go_wp2_with fail
  (with_reducible refine (KL.out _ X.out Y.out).mono ?_)
  clear q0 q1 q2 q3 q4 q5
  rintro e w3 ⟨v1, u1, rfl, j1, j2, b1⟩
  have LR := hid (LR.out.old b1)
  have LP := hid (LP.out.old b1)
  have LQ := hid (LQ.out.old b1)
  have H2 := hid (H2.out.old b1)
  have X := hid (X.out.old b1)
  have Y := hid (Y.out.old b1)
  have B := hid (B.out.trans (b1.mono B.out.size))
  rw [← HGS.out]
  have f0 := LR.out.f 0
  have f1 := LR.out.f 1
  have f2 := LR.out.f 2
  have p0 := LR.out.c 0 rfl
  have p1 := LR.out.c 1 rfl
  have p2 := LR.out.c 2 rfl
  have R := hid (OwnS_out (o := o) (N := w.heap.size + 1 + 1) HGS.out rfl rfl (by omega) LR.out (by decide) hs2 hs2 j1 j2 B.out)
  obtain ⟨e1, d1, rfl, -⟩ := Ints_form j1
  obtain ⟨e2, d2, rfl, -⟩ := Ints_form j2
  clear j1 j2 b1
  go_wp2
  exact bodyPost_ret (v := .agg #[.bool gs, .slice e1 _ d1, .slice e2 _ d2]) (by simp [results, Tryz.results81, go_sem, p0, p1, p2]) rfl R.out
set_option maxRecDepth 100000 in
set_option maxHeartbeats 3200000 in
theorem spec_RatSub (s t : Bool) (v u v' u' : Value) (A D A' D' : List Int) (w : World) (h : RL w v u A D) (h' : RL w v' u' A' D') :
    Calls Tryz.prog 71 #[.agg #[.bool s, v, u], .agg #[.bool t, v', u']] w (OwnS (bq subF (rval s A D) (rval t A' D')) w) := by
  obtain ⟨o, ho⟩ : ∃ o, o = bq subF (rval s A D) (rval t A' D') := ⟨_, rfl⟩
  have HO := hid ho
  rw [← ho]
  clear ho
  have KA := hid (fun (W : World) (h : RL W v u A D) => spec_RatOk s v u A D W h)
  have KB := hid (fun (W : World) (h : RL W v' u' A' D') => spec_RatOk t v' u' A' D' W h)
  obtain ⟨a, c, b, d, rfl, rfl⟩ := h.form
  obtain ⟨a', c', b', d', rfl, rfl⟩ := h'.form
  have B := hid (show Below w.heap.size w (((w.alloc (.cells #[.bool s, .slice a A.length c, .slice b D.length d] 27)).alloc (.cells #[.bool t, .slice a' A'.length c', .slice b' D'.length d'] 27)).alloc (.cells #[.bool false, .slice none 0 0, .slice none 0 0] 27)) from (((Below.refl _ _).alloc (Nat.le_refl _) _).alloc (by simp) _).alloc (by simp; try omega) _)
  have LP := hid (show LocA 27 (((w.alloc (.cells #[.bool s, .slice a A.length c, .slice b D.length d] 27)).alloc (.cells #[.bool t, .slice a' A'.length c', .slice b' D'.length d'] 27)).alloc (.cells #[.bool false, .slice none 0 0, .slice none 0 0] 27)) (w.heap.size) #[.bool s, .slice a A.length c, .slice b D.length d] from (LocA.at (by simp)).new1.new1)
  have LQ := hid (show LocA 27 (((w.alloc (.cells #[.bool s, .slice a A.length c, .slice b D.length d] 27)).alloc (.cells #[.bool t, .slice a' A'.length c', .slice b' D'.length d'] 27)).alloc (.cells #[.bool false, .slice none 0 0, .slice none 0 0] 27)) (w.heap.size + 1) #[.bool t, .slice a' A'.length c', .slice b' D'.length d'] from (LocA.at (by simp)).new1)
  have LR := hid (show LocA 27 (((w.alloc (.cells #[.bool s, .slice a A.length c, .slice b D.length d] 27)).alloc (.cells #[.bool t, .slice a' A'.length c', .slice b' D'.length d'] 27)).alloc (.cells #[.bool false, .slice none 0 0, .slice none 0 0] 27)) (w.heap.size + 1 + 1) #[.bool false, .slice none 0 0, .slice none 0 0] from (LocA.at (by simp)))
  have H1 := hid (h.old B.out)
  have H2 := hid (h'.old B.out)
  clear h h'
  generalize hW : ((w.alloc (.cells #[.bool s, .slice a A.length c, .slice b D.length d] 27)).alloc (.cells #[.bool t, .slice a' A'.length c', .slice b' D'.length d'] 27)).alloc (.cells #[.bool false, .slice none 0 0, .slice none 0 0] 27) = W0 at B LP LQ LR H1 H2
  have HW := hid hW
  clear hW
  have hs0 := B.out.size
  obtain ⟨p1, hp1⟩ : ∃ p, p = rok s A D := ⟨_, rfl⟩
  obtain ⟨p2, hp2⟩ : ∃ p, p = rok t A' D' := ⟨_, rfl⟩
  rw [← hp1] at KA
  rw [← hp2] at KB
  cases p1 with
  | false =>
    have hE := hid (show o = none by rw [HO.out]; exact bq_no (by rw [← hp1]; rfl))
    clear hp1 hp2
    go_enter Tryz.func71, Tryz.ntmps71
    have q0 := LP.out.c 0 rfl
    have q1 := LP.out.c 1 rfl
    have q2 := LP.out.c 2 rfl
    go_wp2_with fail
    rw [HW.out]
    (with_reducible refine (KA.out _ H1.out).mono ?_)
    clear q0 q1 q2
    rintro e w1 ⟨rfl, b1⟩
    have LR := hid (LR.out.old b1)
    have B := hid (B.out.trans (b1.mono B.out.size))
    clear b1
    have f0 := LR.out.f 0
    have f1 := LR.out.f 1
    have f2 := LR.out.f 2
    have p0 := LR.out.c 0 rfl
    have p1 := LR.out.c 1 rfl
    have p2 := LR.out.c 2 rfl
    have R := hid (OwnS_zero (N := w.heap.size + 1 + 1) hE.out (by omega) B.out)
    go_wp2
    exact bodyPost_ret (v := .agg #[.bool false, .slice none 0 0, .slice none 0 0]) (by simp [results, Tryz.results71, go_sem, p0, p1, p2]) rfl R.out
  | true =>
  cases p2 with
  | false =>
    have hE := hid (show o = none by rw [HO.out]; exact bq_no (by rw [← hp1, ← hp2]; rfl))
    clear hp1 hp2
    go_enter Tryz.func71, Tryz.ntmps71
    have q0 := LP.out.c 0 rfl
    have q1 := LP.out.c 1 rfl
    have q2 := LP.out.c 2 rfl
    go_wp2_with fail
    rw [HW.out]
    (with_reducible refine (KA.out _ H1.out).mono ?_)
    clear q0 q1 q2
    rintro e w1 ⟨rfl, b1⟩
    have LR := hid (LR.out.old b1)
    have LQ := hid (LQ.out.old b1)
    have H2 := hid (H2.out.old b1)
    have B := hid (B.out.trans (b1.mono B.out.size))
    clear b1
    have q0 := LQ.out.c 0 rfl
    have q1 := LQ.out.c 1 rfl
    have q2 := LQ.out.c 2 rfl
    go_wp2_with fail
    (with_reducible refine (KB.out _ H2.out).mono ?_)
    clear q0 q1 q2
    rintro e w2 ⟨rfl, b1⟩
    have LR := hid (LR.out.old b1)
    have LQ := hid (LQ.out.old b1)
    have H2 := hid (H2.out.old b1)
    have B := hid (B.out.trans (b1.mono B.out.size))
    clear b1
    have f0 := LR.out.f 0
    have f1 := LR.out.f 1
    have f2 := LR.out.f 2
    have p0 := LR.out.c 0 rfl
    have p1 := LR.out.c 1 rfl
    have p2 := LR.out.c 2 rfl
    have R := hid (OwnS_zero (N := w.heap.size + 1 + 1) hE.out (by omega) B.out)
    go_wp2
    exact bodyPost_ret (v := .agg #[.bool false, .slice none 0 0, .slice none 0 0]) (by simp [results, Tryz.results71, go_sem, p0, p1, p2]) rfl R.out
  | true =>
  obtain ⟨x, ex, rx⟩ := RatX.of H1.out hp1.symm
  obtain ⟨y, ey, ry⟩ := RatX.of H2.out hp2.symm
  have X := hid rx
  have Y := hid ry
  clear rx ry
  have hE := hid (show o = addF x (-y) by rw [HO.out, ex, ey, bq_some]; unfold subF addF; rw [Rat.sub_eq_add_neg])
  have KN := hid (fun (W : World) (h : RatX W t (.slice a' A'.length c') (.slice b' D'.length d') y) => l04Neg_own t _ _ y W h)
  have fy : fit (-y) := by
    obtain ⟨_, _, _, _, _, _, f⟩ := Y.out
    exact ⟨by rw [Rat.neg_num, Int.natAbs_neg]; exact f.1, f.2⟩
  obtain ⟨r1, r2, r3, r4⟩ := rval_parts (fitO_some fy)
  have RX := hid (fun (W : World) (v u : Value) (b1 b2 : Nat) (h1 : Ints W b1 v (gzl (qn (some (-y))))) (h2 : Ints W b2 u (gzl (qd (some (-y))))) => show RatX W (gzs (qn (some (-y)))) v u (-y) from by
    obtain ⟨z, e, k⟩ := RatX.of (s := gzs (qn (some (-y)))) (show RL W v u _ _ from ⟨⟨b1, h1⟩, ⟨b2, h2⟩, by omega, by omega⟩) r2
    rw [r1] at e
    cases e
    exact k)
  have KL := hid (fun (W : World) (g : Bool) (v u : Value) (h : RatX W s (.slice a A.length c) (.slice b D.length d) x) (h' : RatX W g v u (-y)) => l04Add_own s g _ _ v u x (-y) W h h')
  rw [← hE.out] at KL
  obtain ⟨gy, hgy⟩ : ∃ z, z = gzs (qn (some (-y))) := ⟨_, rfl⟩
  obtain ⟨ly, hly⟩ : ∃ z, z = gzl (qn (some (-y))) := ⟨_, rfl⟩
  obtain ⟨dy, hdy⟩ : ∃ z, z = gzl (qd (some (-y))) := ⟨_, rfl⟩
  unfold OwnS at KN
  rw [← hgy, ← hly, ← hdy] at KN
  rw [← hgy, ← hly, ← hdy] at RX
  clear hp1 hp2 ex ey hE HO r1 r2 r3 r4 fy hgy hly hdy
  obtain ⟨gs, hgs⟩ : ∃ g, g = gzs (qn o) := ⟨_, rfl⟩
  have HGS := hid hgs
  clear hgs
  go_enter Tryz.func71, Tryz.ntmps71
  have q0 := LP.out.c 0 rfl
  have q1 := LP.out.c 1 rfl
  have q2 := LP.out.c 2 rfl
  go_wp2_with fail
  rw [HW.out]
  (with_reducible refine (KA.out _ H1.out).mono ?_)
  clear q0 q1 q2
  rintro e w1 ⟨rfl, b1⟩
  have LR := hid (LR.out.old b1)
  have LP := hid (LP.out.old b1)
  have LQ := hid (LQ.out.old b1)
  have H2 := hid (H2.out.old b1)
  have X := hid (X.out.old b1)
  have Y := hid (Y.out.old b1)
  have B := hid (B.out.trans (b1.mono B.out.size))
  clear b1
  have q0 := LQ.out.c 0 rfl
  have q1 := LQ.out.c 1 rfl
  have q2 := LQ.out.c 2 rfl
  go_wp2_with fail
  (with_reducible refine (KB.out _ H2.out).mono ?_)
  clear q0 q1 q2
  rintro e w2 ⟨rfl, b1⟩
  have LR := hid (LR.out.old b1)
  have LP := hid (LP.out.old b1)
  have LQ := hid (LQ.out.old b1)
  have H2 := hid (H2.out.old b1)
  have X := hid (X.out.old b1)
  have Y := hid (Y.out.old b1)
  have B := hid (B.out.trans (b1.mono B.out.size))
  clear b1
  go_wp2_with fail
  have LR := hid (LR.out.old (Below_drew1 (Below.refl _ _)))
  have LP := hid (LP.out.old (Below_drew1 (Below.refl _ _)))
  have LQ := hid (LQ.out.old (Below_drew1 (Below.refl _ _)))
  have H2 := hid (H2.out.old (Below_drew1 (Below.refl _ _)))
  have X := hid (X.out.old (Below_drew1 (Below.refl _ _)))
  have Y := hid (Y.out.old (Below_drew1 (Below.refl _ _)))
  have B := hid (Below_drew1 B.out)
  have q0 := LP.out.c 0 rfl
  have q1 := LP.out.c 1 rfl
  have q2 := LP.out.c 2 rfl
  have q3 := LQ.out.c 0 rfl
  have q4 := LQ.out.c 1 rfl
  have q5 := LQ.out.c 2 rfl
  go_region_held3 (fun w' => w'.cell? ⟨w.heap.size, 0, none⟩ = some (.bool s) ∧ w'.cell? ⟨w.heap.size, 1, none⟩ = some (.slice a A.length c) ∧ w'.cell? ⟨w.heap.size, 2, none⟩ = some (.slice b D.length d) ∧ w'.cell? ⟨w.heap.size + 1, 0, none⟩ = some (.bool t) ∧ w'.cell? ⟨w.heap.size + 1, 1, none⟩ = some (.slice a' A'.length c') ∧ w'.cell? ⟨w.heap.size + 1, 2, none⟩ = some (.slice b' D'.length d')) (first | exact ⟨q0, q1, q2, q3, q4, q5⟩ | exact ⟨(cell_set3 (by omega)).trans q0, (cell_set3 (by omega)).trans q1, (cell_set3 (by omega)).trans q2, (cell_set3 (by omega)).trans q3, (cell_set3 (by omega)).trans q4, (cell_set3 (by omega)).trans q5⟩ | go_keep) (first | (go_at_call 115; (with_reducible refine (KN.out _ Y.out).mono ?_); rintro e w3 ⟨v2, u2, rfl, j1, j2, b1⟩; have LR := hid (LR.out.old b1); have LP := hid (LP.out.old b1); have LQ := hid (LQ.out.old b1); have H2 := hid (H2.out.old b1); have X := hid (X.out.old b1); have Y := hid (Y.out.old b1); have B := hid (B.out.trans (b1.mono B.out.size)); have J := hid (RX.out _ _ _ _ _ j1 j2); obtain ⟨a2, c2, rfl, -⟩ := Ints_form j1; obtain ⟨b2, d2, rfl, -⟩ := Ints_form j2; clear j1 j2 b1; have hs2 := B.out.size; have q0 := LP.out.c 0 rfl; have q1 := LP.out.c 1 rfl; have q2 := LP.out.c 2 rfl; have q3 := LQ.out.c 0 rfl; have q4 := LQ.out.c 1 rfl; have q5 := LQ.out.c 2 rfl) | (go_at_call 114; (with_reducible refine (KL.out _ _ _ _ X.out J.out).mono ?_); rintro e w4 ⟨v1, u1, rfl, j1, j2, b1⟩; have LR := hid (LR.out.old b1); have LP := hid (LP.out.old b1); have LQ := hid (LQ.out.old b1); have H2 := hid (H2.out.old b1); have X := hid (X.out.old b1); have Y := hid (Y.out.old b1); have B := hid (B.out.trans (b1.mono B.out.size)); clear b1; have q0 := LP.out.c 0 rfl; have q1 := LP.out.c 1 rfl; have q2 := LP.out.c 2 rfl; have q3 := LQ.out.c 0 rfl; have q4 := LQ.out.c 1 rfl; have q5 := LQ.out.c 2 rfl; have f0 := LR.out.f 0; have f1 := LR.out.f 1; have f2 := LR.out.f 2; have p0 := LR.out.c 0 rfl; have p1 := LR.out.c 1 rfl; have p2 := LR.out.c 2 rfl; rw [← HGS.out]; have R := hid (OwnS_out (o := o) (N := w.heap.size + 1 + 1) HGS.out rfl rfl (by omega) LR.out (by decide) hs2 hs2 j1 j2 B.out); obtain ⟨e1, d1, rfl, -⟩ := Ints_form j1; obtain ⟨e2, d2, rfl, -⟩ := Ints_form j2; clear j1 j2))
  clear q0 q1 q2 q3 q4 q5
  go_wp2
  exact bodyPost_ret (v := .agg #[.bool gs, .slice e1 _ d1, .slice e2 _ d2]) (by simp [results, Tryz.results71, go_sem, p0, p1, p2]) rfl R.out
set_option maxRecDepth 100000 in
set_option maxHeartbeats 3200000 in
theorem spec_RatDiv (s t : Bool) (v u v' u' : Value) (A D A' D' : List Int) (w : World) (h : RL w v u A D) (h' : RL w v' u' A' D') :
    Calls Tryz.prog 128 #[.agg #[.bool s, v, u], .agg #[.bool t, v', u']] w (OwnS (bq divF (rval s A D) (rval t A' D')) w) := by
  obtain ⟨o, ho⟩ : ∃ o, o = bq divF (rval s A D) (rval t A' D') := ⟨_, rfl⟩
  have HO := hid ho
  rw [← ho]
  clear ho
  have KA := hid (fun (W : World) (h : RL W v u A D) => spec_RatOk s v u A D W h)
  have KB := hid (fun (W : World) (h : RL W v' u' A' D') => spec_RatOk t v' u' A' D' W h)
  obtain ⟨a, c, b, d, rfl, rfl⟩ := h.form
  obtain ⟨a', c', b', d', rfl, rfl⟩ := h'.form
  have B := hid (show Below w.heap.size w (((w.alloc (.cells #[.bool s, .slice a A.length c, .slice b D.length d] 27)).alloc (.cells #[.bool t, .slice a' A'.length c', .slice b' D'.length d'] 27)).alloc (.cells #[.bool false, .slice none 0 0, .slice none 0 0] 27)) from (((Below.refl _ _).alloc (Nat.le_refl _) _).alloc (by simp) _).alloc (by simp; try omega) _)
  have LP := hid (show LocA 27 (((w.alloc (.cells #[.bool s, .slice a A.length c, .slice b D.length d] 27)).alloc (.cells #[.bool t, .slice a' A'.length c', .slice b' D'.length d'] 27)).alloc (.cells #[.bool false, .slice none 0 0, .slice none 0 0] 27)) (w.heap.size) #[.bool s, .slice a A.length c, .slice b D.length d] from (LocA.at (by simp)).new1.new1)
  have LQ := hid (show LocA 27 (((w.alloc (.cells #[.bool s, .slice a A.length c, .slice b D.length d] 27)).alloc (.cells #[.bool t, .slice a' A'.length c', .slice b' D'.length d'] 27)).alloc (.cells #[.bool false, .slice none 0 0, .slice none 0 0] 27)) (w.heap.size + 1) #[.bool t, .slice a' A'.length c', .slice b' D'.length d'] from (LocA.at (by simp)).new1)
  have LR := hid (show LocA 27 (((w.alloc (.cells #[.bool s, .slice a A.length c, .slice b D.length d] 27)).alloc (.cells #[.bool t, .slice a' A'.length c', .slice b' D'.length d'] 27)).alloc (.cells #[.bool false, .slice none 0 0, .slice none 0 0] 27)) (w.heap.size + 1 + 1) #[.bool false, .slice none 0 0, .slice none 0 0] from (LocA.at (by simp)))
  have H1 := hid (h.old B.out)
  have H2 := hid (h'.old B.out)
  clear h h'
  generalize hW : ((w.alloc (.cells #[.bool s, .slice a A.length c, .slice b D.length d] 27)).alloc (.cells #[.bool t, .slice a' A'.length c', .slice b' D'.length d'] 27)).alloc (.cells #[.bool false, .slice none 0 0, .slice none 0 0] 27) = W0 at B LP LQ LR H1 H2
  have HW := hid hW
  clear hW
  have hs0 := B.out.size
  obtain ⟨p1, hp1⟩ : ∃ p, p = rok s A D := ⟨_, rfl⟩
  obtain ⟨p2, hp2⟩ : ∃ p, p = rok t A' D' := ⟨_, rfl⟩
  rw [← hp1] at KA
  rw [← hp2] at KB
  cases p1 with
  | false =>
    have hE := hid (show o = none by rw [HO.out]; exact bq_no (by rw [← hp1]; rfl))
    clear hp1 hp2
    go_enter Tryz.func128, Tryz.ntmps128
    have q0 := LP.out.c 0 rfl
    have q1 := LP.out.c 1 rfl
    have q2 := LP.out.c 2 rfl
    go_wp2_with fail
    rw [HW.out]
    (with_reducible refine (KA.out _ H1.out).mono ?_)
    clear q0 q1 q2
    rintro e w1 ⟨rfl, b1⟩
    have LR := hid (LR.out.old b1)
    have B := hid (B.out.trans (b1.mono B.out.size))
    clear b1
    have f0 := LR.out.f 0
    have f1 := LR.out.f 1
    have f2 := LR.out.f 2
    have p0 := LR.out.c 0 rfl
    have p1 := LR.out.c 1 rfl
    have p2 := LR.out.c 2 rfl
    have R := hid (OwnS_zero (N := w.heap.size + 1 + 1) hE.out (by omega) B.out)
    go_wp2
    exact bodyPost_ret (v := .agg #[.bool false, .slice none 0 0, .slice none 0 0]) (by simp [results, Tryz.results128, go_sem, p0, p1, p2]) rfl R.out
  | true =>
  cases p2 with
  | false =>
    have hE := hid (show o = none by rw [HO.out]; exact bq_no (by rw [← hp1, ← hp2]; rfl))
    clear hp1 hp2
    go_enter Tryz.func128, Tryz.ntmps128
    have q0 := LP.out.c 0 rfl
    have q1 := LP.out.c 1 rfl
    have q2 := LP.out.c 2 rfl
    go_wp2_with fail
    rw [HW.out]
    (with_reducible refine (KA.out _ H1.out).mono ?_)
    clear q0 q1 q2
    rintro e w1 ⟨rfl, b1⟩
    have LR := hid (LR.out.old b1)
    have LQ := hid (LQ.out.old b1)
    have H2 := hid (H2.out.old b1)
    have B := hid (B.out.trans (b1.mono B.out.size))
    clear b1
    have q0 := LQ.out.c 0 rfl
    have q1 := LQ.out.c 1 rfl
    have q2 := LQ.out.c 2 rfl
    go_wp2_with fail
    (with_reducible refine (KB.out _ H2.out).mono ?_)
    clear q0 q1 q2
    rintro e w2 ⟨rfl, b1⟩
    have LR := hid (LR.out.old b1)
    have LQ := hid (LQ.out.old b1)
    have H2 := hid (H2.out.old b1)
    have B := hid (B.out.trans (b1.mono B.out.size))
    clear b1
    have f0 := LR.out.f 0
    have f1 := LR.out.f 1
    have f2 := LR.out.f 2
    have p0 := LR.out.c 0 rfl
    have p1 := LR.out.c 1 rfl
    have p2 := LR.out.c 2 rfl
    have R := hid (OwnS_zero (N := w.heap.size + 1 + 1) hE.out (by omega) B.out)
    go_wp2
    exact bodyPost_ret (v := .agg #[.bool false, .slice none 0 0, .slice none 0 0]) (by simp [results, Tryz.results128, go_sem, p0, p1, p2]) rfl R.out
  | true =>
  obtain ⟨x, ex, rx⟩ := RatX.of H1.out hp1.symm
  obtain ⟨y, ey, ry⟩ := RatX.of H2.out hp2.symm
  have X := hid rx
  have Y := hid ry
  clear rx ry
  obtain ⟨x', e1, n1, d1, -⟩ := rval_yes hp1.symm
  obtain rfl : x' = x := by rw [e1] at ex; cases ex; rfl
  obtain ⟨y', e2, n2, d2, -⟩ := rval_yes hp2.symm
  obtain rfl : y' = y := by rw [e2] at ey; cases ey; rfl
  have hE := hid (show o = mkFr (sval (!(s == t)) (val A * val D')) (val D * val A') by
    rw [HO.out, ex, ey, bq_some, ← mkFr_div, n1, n2, d1, d2, show (!(s == t)) = (s != t) from rfl, mk_sign]
    cases s <;> cases t <;> simp [sval, Int.mul_comm, Int.neg_mul, Int.mul_neg])
  obtain ⟨b1, i1⟩ := H1.out.a
  obtain ⟨b2, i2⟩ := H1.out.d
  obtain ⟨b3, i3⟩ := H2.out.a
  obtain ⟨b4, i4⟩ := H2.out.d
  obtain ⟨o1, o2, -, -, -, -⟩ := rok_iff.1 hp1.symm
  obtain ⟨o3, o4, -, -, -, -⟩ := rok_iff.1 hp2.symm
  have nA := (bok_iff.1 o1).1
  have nA' := (bok_iff.1 o3).1
  obtain ⟨q1, q2⟩ := rok_lt hp1.symm
  obtain ⟨q3, q4⟩ := rok_lt hp2.symm
  have KM1 := hid (fun (W : World) (h1 : Ints W b1 (.slice a A.length c) A) (h2 : Ints W b4 (.slice b' D'.length d') D') => mul_p h1 h2 nA o4)
  have KM2 := hid (fun (W : World) (h1 : Ints W b2 (.slice b D.length d) D) (h2 : Ints W b3 (.slice a' A'.length c') A') => mul_p h1 h2 o2 nA')
  have m1 := mul48 q1 q4
  have m2 := mul48 q2 q3
  obtain ⟨X, hX⟩ : ∃ X, X = val A * val D' := ⟨_, rfl⟩
  obtain ⟨Y, hY⟩ : ∃ Y, Y = val D * val A' := ⟨_, rfl⟩
  rw [← hX] at KM1 hE m1
  rw [← hY] at KM2 hE m2
  have KL := hid (fun (W : World) (x y : Value) (b1 b2 : Nat) (h1 : Ints W b1 x (rep X.toNat)) (h2 : Ints W b2 y (rep Y.toNat)) => low_p (s := !(s == t)) h1 h2 m1.1 m2.1 m1.2 m2.2)
  rw [← hE.out] at KL
  obtain ⟨L1, hL1⟩ : ∃ L, L = rep X.toNat := ⟨_, rfl⟩
  obtain ⟨L2, hL2⟩ : ∃ L, L = rep Y.toNat := ⟨_, rfl⟩
  rw [← hL1] at KM1 KL
  rw [← hL2] at KM2 KL
  have I1 := hid i1
  have I2 := hid i2
  have I3 := hid i3
  have I4 := hid i4
  clear hp1 hp2 ex ey hE HO e1 n1 d1 e2 n2 d2 i1 i2 i3 i4 o1 o2 o3 o4 nA nA' q1 q2 q3 q4 m1 m2 hX hY hL1 hL2
  obtain ⟨gs, hgs⟩ : ∃ g, g = gzs (qn o) := ⟨_, rfl⟩
  have HGS := hid hgs
  clear hgs
  go_enter Tryz.func128, Tryz.ntmps128
  have q0 := LP.out.c 0 rfl
  have q1 := LP.out.c 1 rfl
  have q2 := LP.out.c 2 rfl
  go_wp2_with fail
  rw [HW.out]
  (with_reducible refine (KA.out _ H1.out).mono ?_)
  clear q0 q1 q2
  rintro e w1 ⟨rfl, b1⟩
  have LR := hid (LR.out.old b1)
  have LP := hid (LP.out.old b1)
  have LQ := hid (LQ.out.old b1)
  have H2 := hid (H2.out.old b1)
  have I1 := hid (Ints_old I1.out b1)
  have I2 := hid (Ints_old I2.out b1)
  have I3 := hid (Ints_old I3.out b1)
  have I4 := hid (Ints_old I4.out b1)
  have B := hid (B.out.trans (b1.mono B.out.size))
  clear b1
  have q0 := LQ.out.c 0 rfl
  have q1 := LQ.out.c 1 rfl
  have q2 := LQ.out.c 2 rfl
  go_wp2_with fail
  (with_reducible refine (KB.out _ H2.out).mono ?_)
  clear q0 q1 q2
  rintro e w2 ⟨rfl, b1⟩
  have LR := hid (LR.out.old b1)
  have LP := hid (LP.out.old b1)
  have LQ := hid (LQ.out.old b1)
  have H2 := hid (H2.out.old b1)
  have I1 := hid (Ints_old I1.out b1)
  have I2 := hid (Ints_old I2.out b1)
  have I3 := hid (Ints_old I3.out b1)
  have I4 := hid (Ints_old I4.out b1)
  have B := hid (B.out.trans (b1.mono B.out.size))
  clear b1
  go_wp2_with fail
  have LR := hid (LR.out.old (Below_drew1 (Below.refl _ _)))
  have LP := hid (LP.out.old (Below_drew1 (Below.refl _ _)))
  have LQ := hid (LQ.out.old (Below_drew1 (Below.refl _ _)))
  have H2 := hid (H2.out.old (Below_drew1 (Below.refl _ _)))
  have I1 := hid (Ints_old I1.out (Below_drew1 (Below.refl _ _)))
  have I2 := hid (Ints_old I2.out (Below_drew1 (Below.refl _ _)))
  have I3 := hid (Ints_old I3.out (Below_drew1 (Below.refl _ _)))
  have I4 := hid (Ints_old I4.out (Below_drew1 (Below.refl _ _)))
  have B := hid (Below_drew1 B.out)
  have q0 := LP.out.c 0 rfl
  have q1 := LP.out.c 1 rfl
  have q2 := LP.out.c 2 rfl
  have q3 := LQ.out.c 0 rfl
  have q4 := LQ.out.c 1 rfl
  have q5 := LQ.out.c 2 rfl
  go_region_held3 (fun w' => w'.cell? ⟨w.heap.size, 0, none⟩ = some (.bool s) ∧ w'.cell? ⟨w.heap.size, 1, none⟩ = some (.slice a A.length c) ∧ w'.cell? ⟨w.heap.size, 2, none⟩ = some (.slice b D.length d) ∧ w'.cell? ⟨w.heap.size + 1, 0, none⟩ = some (.bool t) ∧ w'.cell? ⟨w.heap.size + 1, 1, none⟩ = some (.slice a' A'.length c') ∧ w'.cell? ⟨w.heap.size + 1, 2, none⟩ = some (.slice b' D'.length d')) (first | exact ⟨q0, q1, q2, q3, q4, q5⟩ | exact ⟨(cell_set3 (by omega)).trans q0, (cell_set3 (by omega)).trans q1, (cell_set3 (by omega)).trans q2, (cell_set3 (by omega)).trans q3, (cell_set3 (by omega)).trans q4, (cell_set3 (by omega)).trans q5⟩ | go_keep) (first | (go_at_call 126; (with_reducible refine (KM1.out _ I1.out I4.out).mono ?_); rintro e w3 ⟨r, rfl, i1, b1⟩; have LR := hid (LR.out.old b1); have LP := hid (LP.out.old b1); have LQ := hid (LQ.out.old b1); have H2 := hid (H2.out.old b1); have I1 := hid (Ints_old I1.out b1); have I2 := hid (Ints_old I2.out b1); have I3 := hid (Ints_old I3.out b1); have I4 := hid (Ints_old I4.out b1); have B := hid (B.out.trans (b1.mono B.out.size)); have J1 := hid i1; obtain ⟨a1, c1, rfl, -⟩ := Ints_form i1; clear i1 b1; have q0 := LP.out.c 0 rfl; have q1 := LP.out.c 1 rfl; have q2 := LP.out.c 2 rfl; have q3 := LQ.out.c 0 rfl; have q4 := LQ.out.c 1 rfl; have q5 := LQ.out.c 2 rfl) | (go_at_call 126; (with_reducible refine (KM2.out _ I2.out I3.out).mono ?_); rintro e w4 ⟨r, rfl, i1, b1⟩; have LR := hid (LR.out.old b1); have LP := hid (LP.out.old b1); have LQ := hid (LQ.out.old b1); have H2 := hid (H2.out.old b1); have I1 := hid (Ints_old I1.out b1); have I2 := hid (Ints_old I2.out b1); have I3 := hid (Ints_old I3.out b1); have I4 := hid (Ints_old I4.out b1); have B := hid (B.out.trans (b1.mono B.out.size)); have J1 := hid (Ints_old J1.out b1); have J2 := hid i1; obtain ⟨a2, c2, rfl, -⟩ := Ints_form i1; clear i1 b1; have hs2 := B.out.size; have q0 := LP.out.c 0 rfl; have q1 := LP.out.c 1 rfl; have q2 := LP.out.c 2 rfl; have q3 := LQ.out.c 0 rfl; have q4 := LQ.out.c 1 rfl; have q5 := LQ.out.c 2 rfl) | (go_at_call 130; (with_reducible refine (KL.out _ _ _ _ _ J1.out J2.out).mono ?_); rintro e w5 ⟨v1, u1, rfl, j1, j2, b1⟩; have LR := hid (LR.out.old b1); have LP := hid (LP.out.old b1); have LQ := hid (LQ.out.old b1); have H2 := hid (H2.out.old b1); have I1 := hid (Ints_old I1.out b1); have I2 := hid (Ints_old I2.out b1); have I3 := hid (Ints_old I3.out b1); have I4 := hid (Ints_old I4.out b1); have B := hid (B.out.trans (b1.mono B.out.size)); clear b1; have q0 := LP.out.c 0 rfl; have q1 := LP.out.c 1 rfl; have q2 := LP.out.c 2 rfl; have q3 := LQ.out.c 0 rfl; have q4 := LQ.out.c 1 rfl; have q5 := LQ.out.c 2 rfl; have f0 := LR.out.f 0; have f1 := LR.out.f 1; have f2 := LR.out.f 2; have p0 := LR.out.c 0 rfl; have p1 := LR.out.c 1 rfl; have p2 := LR.out.c 2 rfl; rw [← HGS.out]; have R := hid (OwnS_out (o := o) (N := w.heap.size + 1 + 1) HGS.out rfl rfl (by omega) LR.out (by decide) hs2 hs2 j1 j2 B.out); obtain ⟨e1, d1, rfl, -⟩ := Ints_form j1; obtain ⟨e2, d2, rfl, -⟩ := Ints_form j2; clear j1 j2))
  clear q0 q1 q2 q3 q4 q5
  go_wp2
  exact bodyPost_ret (v := .agg #[.bool gs, .slice e1 _ d1, .slice e2 _ d2]) (by simp [results, Tryz.results128, go_sem, p0, p1, p2]) rfl R.out
set_option maxRecDepth 100000 in
set_option maxHeartbeats 3200000 in
theorem spec_RatCmp (s t : Bool) (v u v' u' : Value) (A D A' D' : List Int) (w : World) (h : RL w v u A D) (h' : RL w v' u' A' D') :
    Calls Tryz.prog 127 #[.agg #[.bool s, v, u], .agg #[.bool t, v', u']] w (RetB (.int .i64 (cmpO (rval s A D) (rval t A' D'))) w) := by
  obtain ⟨z, hz⟩ : ∃ z, z = cmpO (rval s A D) (rval t A' D') := ⟨_, rfl⟩
  have HZ := hid hz
  rw [← hz]
  clear hz
  have KA := hid (fun (W : World) (h : RL W v u A D) => spec_RatOk s v u A D W h)
  have KB := hid (fun (W : World) (h : RL W v' u' A' D') => spec_RatOk t v' u' A' D' W h)
  obtain ⟨a, c, b, d, rfl, rfl⟩ := h.form
  obtain ⟨a', c', b', d', rfl, rfl⟩ := h'.form
  have B := hid (show Below w.heap.size w ((w.alloc (.cells #[.bool s, .slice a A.length c, .slice b D.length d] 27)).alloc (.cells #[.bool t, .slice a' A'.length c', .slice b' D'.length d'] 27)) from ((Below.refl _ _).alloc (Nat.le_refl _) _).alloc (by simp) _)
  have LP := hid (show LocA 27 ((w.alloc (.cells #[.bool s, .slice a A.length c, .slice b D.length d] 27)).alloc (.cells #[.bool t, .slice a' A'.length c', .slice b' D'.length d'] 27)) (w.heap.size) #[.bool s, .slice a A.length c, .slice b D.length d] from (LocA.at (by simp)).new1)
  have LQ := hid (show LocA 27 ((w.alloc (.cells #[.bool s, .slice a A.length c, .slice b D.length d] 27)).alloc (.cells #[.bool t, .slice a' A'.length c', .slice b' D'.length d'] 27)) (w.heap.size + 1) #[.bool t, .slice a' A'.length c', .slice b' D'.length d'] from (LocA.at (by simp)))
  have H1 := hid (h.old B.out)
  have H2 := hid (h'.old B.out)
  clear h h'
  generalize hW : (w.alloc (.cells #[.bool s, .slice a A.length c, .slice b D.length d] 27)).alloc (.cells #[.bool t, .slice a' A'.length c', .slice b' D'.length d'] 27) = W0 at B LP LQ H1 H2
  have HW := hid hW
  clear hW
  have hs0 := B.out.size
  obtain ⟨p1, hp1⟩ : ∃ p, p = rok s A D := ⟨_, rfl⟩
  obtain ⟨p2, hp2⟩ : ∃ p, p = rok t A' D' := ⟨_, rfl⟩
  rw [← hp1] at KA
  rw [← hp2] at KB
  cases p1 with
  | false =>
    have hE := hid (show z = 0 by rw [HZ.out]; exact cmpO_no (by rw [← hp1]; rfl))
    clear hp1 hp2
    go_enter Tryz.func127, Tryz.ntmps127
    have q0 := LP.out.c 0 rfl
    have q1 := LP.out.c 1 rfl
    have q2 := LP.out.c 2 rfl
    go_wp2_with fail
    rw [HW.out]
    (with_reducible refine (KA.out _ H1.out).mono ?_)
    clear q0 q1 q2
    rintro e w1 ⟨rfl, b1⟩
    have B := hid (B.out.trans (b1.mono B.out.size))
    clear b1
    go_wp2
    go_ret
    exact ⟨ret_in hE.out.symm, B.out⟩
  | true =>
  cases p2 with
  | false =>
    have hE := hid (show z = 0 by rw [HZ.out]; exact cmpO_no (by rw [← hp1, ← hp2]; rfl))
    clear hp1 hp2
    go_enter Tryz.func127, Tryz.ntmps127
    have q0 := LP.out.c 0 rfl
    have q1 := LP.out.c 1 rfl
    have q2 := LP.out.c 2 rfl
    go_wp2_with fail
    rw [HW.out]
    (with_reducible refine (KA.out _ H1.out).mono ?_)
    clear q0 q1 q2
    rintro e w1 ⟨rfl, b1⟩
    have LQ := hid (LQ.out.old b1)
    have H2 := hid (H2.out.old b1)
    have B := hid (B.out.trans (b1.mono B.out.size))
    clear b1
    have q0 := LQ.out.c 0 rfl
    have q1 := LQ.out.c 1 rfl
    have q2 := LQ.out.c 2 rfl
    go_wp2_with fail
    (with_reducible refine (KB.out _ H2.out).mono ?_)
    clear q0 q1 q2
    rintro e w2 ⟨rfl, b1⟩
    have LQ := hid (LQ.out.old b1)
    have H2 := hid (H2.out.old b1)
    have B := hid (B.out.trans (b1.mono B.out.size))
    clear b1
    go_wp2
    go_ret
    exact ⟨ret_in hE.out.symm, B.out⟩
  | true =>
  obtain ⟨x, ex, rx⟩ := RatX.of H1.out hp1.symm
  obtain ⟨y, ey, ry⟩ := RatX.of H2.out hp2.symm
  have X := hid rx
  have Y := hid ry
  clear rx ry
  have hE := hid (show z = cmpF x y by rw [HZ.out, ex, ey]; rfl)
  have KL := hid (fun (W : World) (h : RatX W s (.slice a A.length c) (.slice b D.length d) x) (h' : RatX W t (.slice a' A'.length c') (.slice b' D'.length d') y) => l04Cmp_own s t _ _ _ _ x y W h h')
  rw [← hE.out] at KL
  clear hp1 hp2 ex ey hE HZ
  go_enter Tryz.func127, Tryz.ntmps127
  have q0 := LP.out.c 0 rfl
  have q1 := LP.out.c 1 rfl
  have q2 := LP.out.c 2 rfl
  go_wp2_with fail
  rw [HW.out]
  (with_reducible refine (KA.out _ H1.out).mono ?_)
  clear q0 q1 q2
  rintro e w1 ⟨rfl, b1⟩
  have LP := hid (LP.out.old b1)
  have LQ := hid (LQ.out.old b1)
  have H2 := hid (H2.out.old b1)
  have X := hid (X.out.old b1)
  have Y := hid (Y.out.old b1)
  have B := hid (B.out.trans (b1.mono B.out.size))
  clear b1
  have q0 := LQ.out.c 0 rfl
  have q1 := LQ.out.c 1 rfl
  have q2 := LQ.out.c 2 rfl
  go_wp2_with fail
  (with_reducible refine (KB.out _ H2.out).mono ?_)
  clear q0 q1 q2
  rintro e w2 ⟨rfl, b1⟩
  have LP := hid (LP.out.old b1)
  have LQ := hid (LQ.out.old b1)
  have H2 := hid (H2.out.old b1)
  have X := hid (X.out.old b1)
  have Y := hid (Y.out.old b1)
  have B := hid (B.out.trans (b1.mono B.out.size))
  clear b1
  have q0 := LP.out.c 0 rfl
  have q1 := LP.out.c 1 rfl
  have q2 := LP.out.c 2 rfl
  have q3 := LQ.out.c 0 rfl
  have q4 := LQ.out.c 1 rfl
  have q5 := LQ.out.c 2 rfl
  go_wp2_with fail
  (with_reducible refine (KL.out _ X.out Y.out).mono ?_)
  clear q0 q1 q2 q3 q4 q5
  rintro e w3 ⟨rfl, b1⟩
  have LP := hid (LP.out.old b1)
  have LQ := hid (LQ.out.old b1)
  have H2 := hid (H2.out.old b1)
  have X := hid (X.out.old b1)
  have Y := hid (Y.out.old b1)
  have B := hid (B.out.trans (b1.mono B.out.size))
  clear b1
  go_wp2
  go_ret
  exact ⟨rfl, B.out⟩
set_option maxRecDepth 100000 in
set_option maxHeartbeats 3200000 in
theorem spec_RatSign (s : Bool) (v u : Value) (A D : List Int) (w : World) (h : RL w v u A D) :
    Calls Tryz.prog 86 #[.agg #[.bool s, v, u]] w (RetB (.int .i64 (sgnO (rval s A D))) w) := by
  have KO := hid (fun (W : World) (h : RL W v u A D) => spec_RatOk s v u A D W h)
  obtain ⟨z, hz⟩ : ∃ z, z = sgnO (rval s A D) := ⟨_, rfl⟩
  have HZ := hid hz
  rw [← hz]
  clear hz
  have hA : A.length ≤ 1073741824 := by have := h.la; omega
  obtain ⟨a, c, b, d, rfl, rfl⟩ := h.form
  have B := hid (show Below w.heap.size w (w.alloc (.cells #[.bool s, .slice a A.length c, .slice b D.length d] 27)) from (Below.refl _ _).alloc (Nat.le_refl _) _)
  have LP := hid (show LocA 27 (w.alloc (.cells #[.bool s, .slice a A.length c, .slice b D.length d] 27)) (w.heap.size) #[.bool s, .slice a A.length c, .slice b D.length d] from (LocA.at (by simp)))
  have H1 := hid (h.old B.out)
  clear h
  generalize hW : w.alloc (.cells #[.bool s, .slice a A.length c, .slice b D.length d] 27) = W0 at B LP H1
  have HW := hid hW
  clear hW
  have hs0 := B.out.size
  obtain ⟨p, hp⟩ : ∃ p, p = rok s A D := ⟨_, rfl⟩
  rw [← hp] at KO
  cases p with
  | false =>
    have hE := hid (show z = 0 by rw [HZ.out, rval_no hp.symm]; rfl)
    clear hp
    go_enter Tryz.func86, Tryz.ntmps86
    have q0 := LP.out.c 0 rfl
    have q1 := LP.out.c 1 rfl
    have q2 := LP.out.c 2 rfl
    go_wp2_with fail
    rw [HW.out]
    (with_reducible refine (KO.out _ H1.out).mono ?_)
    clear q0 q1 q2
    rintro e w1 ⟨rfl, b1⟩
    have LP := hid (LP.out.old b1)
    have B := hid (B.out.trans (b1.mono B.out.size))
    clear b1
    have q0 := LP.out.c 0 rfl
    have q1 := LP.out.c 1 rfl
    go_wp2
    go_ret
    exact ⟨ret_in hE.out.symm, B.out⟩
  | true =>
  obtain ⟨x, ex, n1, -⟩ := rval_yes hp.symm
  have hE0 := hid (show z = sgn (sval s (val A)) by rw [HZ.out, ex, ← n1]; rfl)
  have kA := (rok_iff.1 hp.symm).1
  have nA := (bok_iff.1 kA).1
  have v0 := val_nonneg (nok_lim nA)
  by_cases h0 : A.length = 0
  · have hE := hid (show z = 0 by
      rw [hE0.out, List.length_eq_zero_iff.1 h0]
      cases s <;> rfl)
    have h1 : ((A.length : Int) == 0) = true := by simp [h0]
    clear h0 ex n1 kA nA v0 hp
    go_enter Tryz.func86, Tryz.ntmps86
    have q0 := LP.out.c 0 rfl
    have q1 := LP.out.c 1 rfl
    have q2 := LP.out.c 2 rfl
    go_wp2_with fail
    rw [HW.out]
    (with_reducible refine (KO.out _ H1.out).mono ?_)
    clear q0 q1 q2
    rintro e w1 ⟨rfl, b1⟩
    have LP := hid (LP.out.old b1)
    have B := hid (B.out.trans (b1.mono B.out.size))
    clear b1
    have q0 := LP.out.c 0 rfl
    have q1 := LP.out.c 1 rfl
    go_wp2
    go_ret
    exact ⟨ret_in hE.out.symm, B.out⟩
  have h1 : ((A.length : Int) == 0) = false := beq_eq_false_iff_ne.2 (by omega)
  have vp : 0 < val A := vpos nA (fun e => h0 (by rw [e]; rfl))
  cases s with
  | true =>
    have hE := hid (show z = -1 by rw [hE0.out]; unfold sval sgn; rw [if_pos rfl, if_pos (by omega)])
    clear h0 ex n1 kA nA v0 hp vp
    go_enter Tryz.func86, Tryz.ntmps86
    have q0 := LP.out.c 0 rfl
    have q1 := LP.out.c 1 rfl
    have q2 := LP.out.c 2 rfl
    go_wp2_with fail
    rw [HW.out]
    (with_reducible refine (KO.out _ H1.out).mono ?_)
    clear q0 q1 q2
    rintro e w1 ⟨rfl, b1⟩
    have LP := hid (LP.out.old b1)
    have B := hid (B.out.trans (b1.mono B.out.size))
    clear b1
    have q0 := LP.out.c 0 rfl
    have q1 := LP.out.c 1 rfl
    go_wp2
    go_ret
    exact ⟨ret_in hE.out.symm, B.out⟩
  | false =>
    have hE := hid (show z = 1 by rw [hE0.out]; show sgn (val A) = 1; unfold sgn; rw [if_neg (by omega), if_pos vp])
    clear h0 ex n1 kA nA v0 hp vp
    go_enter Tryz.func86, Tryz.ntmps86
    have q0 := LP.out.c 0 rfl
    have q1 := LP.out.c 1 rfl
    have q2 := LP.out.c 2 rfl
    go_wp2_with fail
    rw [HW.out]
    (with_reducible refine (KO.out _ H1.out).mono ?_)
    clear q0 q1 q2
    rintro e w1 ⟨rfl, b1⟩
    have LP := hid (LP.out.old b1)
    have B := hid (B.out.trans (b1.mono B.out.size))
    clear b1
    have q0 := LP.out.c 0 rfl
    have q1 := LP.out.c 1 rfl
    go_wp2
    go_ret
    exact ⟨ret_in hE.out.symm, B.out⟩
set_option maxRecDepth 100000 in
set_option maxHeartbeats 3200000 in
theorem spec_RatNeg (s : Bool) (v u : Value) (A D : List Int) (w : World) (h : RL w v u A D) :
    Calls Tryz.prog 89 #[.agg #[.bool s, v, u]] w (OwnS (negO (rval s A D)) w) := by
  obtain ⟨o, ho⟩ : ∃ o, o = negO (rval s A D) := ⟨_, rfl⟩
  have HO := hid ho
  rw [← ho]
  clear ho
  have KO := hid (fun (W : World) (h : RL W v u A D) => spec_RatOk s v u A D W h)
  obtain ⟨a, c, b, d, rfl, rfl⟩ := h.form
  have B := hid (show Below w.heap.size w ((w.alloc (.cells #[.bool s, .slice a A.length c, .slice b D.length d] 27)).alloc (.cells #[.bool false, .slice none 0 0, .slice none 0 0] 27)) from ((Below.refl _ _).alloc (Nat.le_refl _) _).alloc (by simp) _)
  have LP := hid (show LocA 27 ((w.alloc (.cells #[.bool s, .slice a A.length c, .slice b D.length d] 27)).alloc (.cells #[.bool false, .slice none 0 0, .slice none 0 0] 27)) (w.heap.size) #[.bool s, .slice a A.length c, .slice b D.length d] from (LocA.at (by simp)).new1)
  have LR := hid (show LocA 27 ((w.alloc (.cells #[.bool s, .slice a A.length c, .slice b D.length d] 27)).alloc (.cells #[.bool false, .slice none 0 0, .slice none 0 0] 27)) (w.heap.size + 1) #[.bool false, .slice none 0 0, .slice none 0 0] from (LocA.at (by simp)))
  have H1 := hid (h.old B.out)
  clear h
  generalize hW : (w.alloc (.cells #[.bool s, .slice a A.length c, .slice b D.length d] 27)).alloc (.cells #[.bool false, .slice none 0 0, .slice none 0 0] 27) = W0 at B LP LR H1
  have HW := hid hW
  clear hW
  have hs0 := B.out.size
  obtain ⟨p, hp⟩ : ∃ p, p = rok s A D := ⟨_, rfl⟩
  rw [← hp] at KO
  cases p with
  | false =>
    have hE := hid (show o = none by rw [HO.out, rval_no hp.symm]; rfl)
    clear hp
    go_enter Tryz.func89, Tryz.ntmps89
    have q0 := LP.out.c 0 rfl
    have q1 := LP.out.c 1 rfl
    have q2 := LP.out.c 2 rfl
    go_wp2_with fail
    rw [HW.out]
    (with_reducible refine (KO.out _ H1.out).mono ?_)
    clear q0 q1 q2
    rintro e w1 ⟨rfl, b1⟩
    have LR := hid (LR.out.old b1)
    have B := hid (B.out.trans (b1.mono B.out.size))
    clear b1
    have f0 := LR.out.f 0
    have f1 := LR.out.f 1
    have f2 := LR.out.f 2
    have p0 := LR.out.c 0 rfl
    have p1 := LR.out.c 1 rfl
    have p2 := LR.out.c 2 rfl
    have R := hid (OwnS_zero (N := w.heap.size + 1) hE.out (by omega) B.out)
    go_wp2
    exact bodyPost_ret (v := .agg #[.bool false, .slice none 0 0, .slice none 0 0]) (by simp [results, Tryz.results89, go_sem, p0, p1, p2]) rfl R.out
  | true =>
    obtain ⟨x, ex, rx⟩ := RatX.of H1.out hp.symm
    have X := hid rx
    have hE := hid (show o = some (-x) by rw [HO.out, ex]; rfl)
    have KN := hid (fun (W : World) (h : RatX W s (.slice a A.length c) (.slice b D.length d) x) => l04Neg_own s _ _ x W h)
    rw [← hE.out] at KN
    clear ex rx hp hE HO
    obtain ⟨gs, hgs⟩ : ∃ g, g = gzs (qn o) := ⟨_, rfl⟩
    have HGS := hid hgs
    clear hgs
    go_enter Tryz.func89, Tryz.ntmps89
    have q0 := LP.out.c 0 rfl
    have q1 := LP.out.c 1 rfl
    have q2 := LP.out.c 2 rfl
    go_wp2_with fail
    rw [HW.out]
    (with_reducible refine (KO.out _ H1.out).mono ?_)
    clear q0 q1 q2
    rintro e w1 ⟨rfl, b1⟩
    have LR := hid (LR.out.old b1)
    have LP := hid (LP.out.old b1)
    have X := hid (X.out.old b1)
    have B := hid (B.out.trans (b1.mono B.out.size))
    clear b1
    have q0 := LP.out.c 0 rfl
    have q1 := LP.out.c 1 rfl
    have q2 := LP.out.c 2 rfl
    have hs2 := B.out.size
    go_wp2_with fail
    (with_reducible refine (KN.out _ X.out).mono ?_)
    clear q0 q1 q2
    rintro e w2 ⟨v1, u1, rfl, j1, j2, b1⟩
    have LR := hid (LR.out.old b1)
    have LP := hid (LP.out.old b1)
    have X := hid (X.out.old b1)
    have B := hid (B.out.trans (b1.mono B.out.size))
    rw [← HGS.out]
    have f0 := LR.out.f 0
    have f1 := LR.out.f 1
    have f2 := LR.out.f 2
    have p0 := LR.out.c 0 rfl
    have p1 := LR.out.c 1 rfl
    have p2 := LR.out.c 2 rfl
    have R := hid (OwnS_out (o := o) (N := w.heap.size + 1) HGS.out rfl rfl (by omega) LR.out (by decide) hs2 hs2 j1 j2 B.out)
    obtain ⟨e1, d1, rfl, -⟩ := Ints_form j1
    obtain ⟨e2, d2, rfl, -⟩ := Ints_form j2
    clear j1 j2 b1
    go_wp2
    exact bodyPost_ret (v := .agg #[.bool gs, .slice e1 _ d1, .slice e2 _ d2]) (by simp [results, Tryz.results89, go_sem, p0, p1, p2]) rfl R.out
end Go.Proofs.YtookglpeieennaaGreat
