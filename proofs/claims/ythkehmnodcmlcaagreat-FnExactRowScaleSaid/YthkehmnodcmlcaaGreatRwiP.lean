import Derived.Test.YthkehmnodcmlcaaGreatRwhP
import Derived.Test.YthkehmnodcmlcaaGreatTsiP
import Derived.Test.YthkehmnodcmlcaaGreatTssP
import Derived.Deep.RegionLaw
import Derived.Deep.RegionHeld3
import Derived.Deep.DeepCutAuto
set_option maxRecDepth 100000
set_option maxHeartbeats 25600000
set_option linter.unusedVariables false
set_option linter.unusedSimpArgs false
namespace Go.Proofs.YthkehmnodcmlcaaGreat
open Go.RowKit
open Go.Lib (hid)
theorem spec_RowScale {t v u v' u' : Value} {T0 : List Tq} {A D : List Int} {o : Option Rat} (x : Int) (s sr : Bool) (hK : SmT T0) (la : A.length ≤ 1048576) (ld : D.length ≤ 1048576) (w : World) (h : RwW w t v u T0 A D) (hr : RA w sr v' u' o) :
  Calls Tryz.prog 29 #[.agg #[t, .int .i64 x, .bool s, v, u], .agg #[.bool sr, v', u']] w (RowRW (scaleR T0 x s A D o).K (scaleR T0 x s A D o).x (scaleR T0 x s A D o).s (scaleR T0 x s A D o).A (scaleR T0 x s A D o).D w) := by
 obtain ⟨a1, c1, b1, d1, e1, f1, rfl, rfl, rfl⟩ := h.form
 obtain ⟨a2, n2, c2, b2, m2, d2, rfl, rfl⟩ := hr.form
 have hlk := hK.2
 have B := hid (show Below w.heap.size w (((w.alloc (.cells #[.slice a1 T0.length c1, .int .i64 x, .bool s, .slice b1 A.length d1, .slice e1 D.length f1] 39)).alloc (.cells #[.bool sr, .slice a2 n2 c2, .slice b2 m2 d2] 37)).alloc (.cells #[.slice none 0 0, .int .i64 0, .bool false, .slice none 0 0, .slice none 0 0] 39)) from (((Below.refl _ _).alloc (Nat.le_refl _) _).alloc (by simp) _).alloc (by simp; omega) _)
 have LX := hid (show LocA 39 (((w.alloc (.cells #[.slice a1 T0.length c1, .int .i64 x, .bool s, .slice b1 A.length d1, .slice e1 D.length f1] 39)).alloc (.cells #[.bool sr, .slice a2 n2 c2, .slice b2 m2 d2] 37)).alloc (.cells #[.slice none 0 0, .int .i64 0, .bool false, .slice none 0 0, .slice none 0 0] 39)) w.heap.size #[.slice a1 T0.length c1, .int .i64 x, .bool s, .slice b1 A.length d1, .slice e1 D.length f1] from (LocA.at rfl).new1.new1)
 have LY := hid (show LocA 37 (((w.alloc (.cells #[.slice a1 T0.length c1, .int .i64 x, .bool s, .slice b1 A.length d1, .slice e1 D.length f1] 39)).alloc (.cells #[.bool sr, .slice a2 n2 c2, .slice b2 m2 d2] 37)).alloc (.cells #[.slice none 0 0, .int .i64 0, .bool false, .slice none 0 0, .slice none 0 0] 39)) (w.heap.size + 1) #[.bool sr, .slice a2 n2 c2, .slice b2 m2 d2] from (LocA.at (by simp)).new1)
 have LR := hid (show LocA 39 (((w.alloc (.cells #[.slice a1 T0.length c1, .int .i64 x, .bool s, .slice b1 A.length d1, .slice e1 D.length f1] 39)).alloc (.cells #[.bool sr, .slice a2 n2 c2, .slice b2 m2 d2] 37)).alloc (.cells #[.slice none 0 0, .int .i64 0, .bool false, .slice none 0 0, .slice none 0 0] 39)) (w.heap.size + 1 + 1) #[.slice none 0 0, .int .i64 0, .bool false, .slice none 0 0, .slice none 0 0] from LocA.at (by simp))
 have H := hid (h.old B.out)
 have HR := hid (hr.old B.out)
 have hsW := hid (show (((w.alloc (.cells #[.slice a1 T0.length c1, .int .i64 x, .bool s, .slice b1 A.length d1, .slice e1 D.length f1] 39)).alloc (.cells #[.bool sr, .slice a2 n2 c2, .slice b2 m2 d2] 37)).alloc (.cells #[.slice none 0 0, .int .i64 0, .bool false, .slice none 0 0, .slice none 0 0] 39)).heap.size = w.heap.size + 1 + 1 + 1 by simp)
 clear h hr
 have KO := hid (fun (W : World) (g : RwW W (.slice a1 T0.length c1) (.slice b1 A.length d1) (.slice e1 D.length f1) T0 A D) => spec_RowOk x s hK la ld 40 (by omega) (by omega) W g)
 have KG := hid (fun (W : World) (g : RA W sr (.slice a2 n2 c2) (.slice b2 m2 d2) o) => ssign_o g)
 have KT := hid (fun (W : World) (g : RwW W (.slice a1 T0.length c1) (.slice b1 A.length d1) (.slice e1 D.length f1) T0 A D) (g' : RA W sr (.slice a2 n2 c2) (.slice b2 m2 d2) o) => show Calls Tryz.prog 79 #[.slice a1 T0.length c1, .agg #[.bool sr, .slice a2 n2 c2, .slice b2 m2 d2]] W (TerR false (scaleT T0 o) W) from by
  obtain ⟨⟨_, _, _, y⟩, -⟩ := g
  exact spec_TermsScale hK W y g')
 have KM := hid (fun (W : World) (g : RwW W (.slice a1 T0.length c1) (.slice b1 A.length d1) (.slice e1 D.length f1) T0 A D) (g' : RA W sr (.slice a2 n2 c2) (.slice b2 m2 d2) o) => (smul_oR (g.ra la ld s) g').mono fun e w' hh => OwnRS_of hh.ownS)
 have KK := hid (fun (W : World) (sa : Bool) (va ua : Value) (g : RA W sa va ua (bq mulF (rval s A D) o)) => sok_o g)
 obtain ⟨R, hR⟩ : ∃ R, R = scaleR T0 x s A D o := ⟨_, rfl⟩
 rw [← hR]
 have HRR := hid hR
 clear hR
 obtain ⟨z, hz⟩ : ∃ z, sgnO o = z := ⟨_, rfl⟩
 rw [hz] at KG
 have HZ := hid hz
 have hfit := fitO_bq fitO_mul (rval s A D) o
 obtain ⟨oR, hoR⟩ : ∃ oR, bq mulF (rval s A D) o = oR := ⟨_, rfl⟩
 have HOR := hid hoR
 obtain ⟨K1, hK1⟩ : ∃ K1, scaleT T0 o = K1 := ⟨_, rfl⟩
 have HK1 := hid hK1
 have hk1 : K1.length ≤ 2000 := by rw [← hK1]; exact Nat.le_trans (szT_len _) scaleT_sz'
 rw [hoR] at KM KK hfit
 rw [hK1] at KT
 have HFR := hid hfit
 clear hoR hK1 hz hfit
 obtain ⟨gs, hgs⟩ : ∃ gs, gzs (qn oR) = gs := ⟨_, rfl⟩
 obtain ⟨GA, hGA⟩ : ∃ GA, gzl (qn oR) = GA := ⟨_, rfl⟩
 obtain ⟨GD, hGD⟩ : ∃ GD, gzl (qd oR) = GD := ⟨_, rfl⟩
 have HG := hid (And.intro hgs (And.intro hGA hGD))
 rw [hgs, hGA, hGD] at KM
 have hl24 : GA.length ≤ 24 ∧ GD.length ≤ 24 := by
  obtain ⟨-, -, l1, l2⟩ := rval_parts HFR.out
  rw [hGA] at l1
  rw [hGD] at l2
  exact ⟨l1, l2⟩
 have KK' := hid (fun (W : World) (va ua : Value) (lo hi : Nat) (g : ROw W va ua GA GD lo hi) => KK.out W gs va ua ⟨GA, GD, ⟨⟨_, g.a.ints⟩, ⟨_, g.d.ints⟩, by omega, by omega⟩, by
  have := (rval_parts HFR.out).1
  rw [HG.out.1, HG.out.2.1, HG.out.2.2] at this
  exact this⟩)
 clear KK hgs hGA hGD
 generalize hW : ((w.alloc (.cells #[.slice a1 T0.length c1, .int .i64 x, .bool s, .slice b1 A.length d1, .slice e1 D.length f1] 39)).alloc (.cells #[.bool sr, .slice a2 n2 c2, .slice b2 m2 d2] 37)).alloc (.cells #[.slice none 0 0, .int .i64 0, .bool false, .slice none 0 0, .slice none 0 0] 39) = W0 at B LX LY LR H HR hsW
 have HW := hid hW
 clear hW
 have hsW' := hsW.out
 cases ho : rowOk T0 x s A D 40 with
 |false =>
  rw [ho] at KO
  have HN := hid (show R = Rq0 from by rw [HRR.out]; exact scaleR_no (by rw [ho]; rfl))
  rw [HN.out]
  show Calls _ _ _ _ (RowRW [] 0 false [] [] w)
  go_enter Tryz.func29, Tryz.ntmps29
  go_wp2_with fail
  rw [HW.out]
  (with_reducible refine (KO.out _ H.out).mono ?_)
  rintro e w1 ⟨rfl, b1⟩
  have tw1 : W0.heap.size ≤ w1.heap.size := b1.size
  have H := hid (H.out.old b1)
  have HR := hid (HR.out.old b1)
  have LX := hid (LX.out.old b1)
  have LY := hid (LY.out.old b1)
  have LR := hid (LR.out.old b1)
  have B := hid (B.out.trans (b1.mono B.out.size))
  clear b1
  obtain ⟨q0, q1, q2, q3, q4⟩ := LX.out.all5
  obtain ⟨y0, y1, y2⟩ := LY.out.all3
  have f0 := LR.out.f 0
  have f1 := LR.out.f 1
  have f2 := LR.out.f 2
  have f3 := LR.out.f 3
  have f4 := LR.out.f 4
  have p0 := LR.out.c 0 rfl
  have p1 := LR.out.c 1 rfl
  have p2 := LR.out.c 2 rfl
  have p3 := LR.out.c 3 rfl
  have p4 := LR.out.c 4 rfl
  have RR := hid (RowRW_zero (N := w.heap.size + 1 + 1) (by omega) (by omega) B.out)
  go_wp2
  exact bodyPost_ret (v := .agg #[.slice none 0 0, .int .i64 0, .bool false, .slice none 0 0, .slice none 0 0]) (by simp [results, Tryz.results29, go_sem, p0, p1, p2, p3, p4]) rfl RR.out
 |true =>
  rw [ho] at KO
  by_cases hz0 : z = 0
  ·have u0 : (z == 0) = true := beq_iff_eq.2 hz0
   have HN := hid (show R = Rq0 from by rw [HRR.out]; exact scaleR_no (by rw [ho, nz_zero (HZ.out.trans hz0)]; rfl))
   rw [HN.out]
   show Calls _ _ _ _ (RowRW [] 0 false [] [] w)
   go_enter Tryz.func29, Tryz.ntmps29
   go_wp2_with fail
   rw [HW.out]
   (with_reducible refine (KO.out _ H.out).mono ?_)
   rintro e w1 ⟨rfl, b1⟩
   have tw1 : W0.heap.size ≤ w1.heap.size := b1.size
   have H := hid (H.out.old b1)
   have HR := hid (HR.out.old b1)
   have LX := hid (LX.out.old b1)
   have LY := hid (LY.out.old b1)
   have LR := hid (LR.out.old b1)
   have B := hid (B.out.trans (b1.mono B.out.size))
   clear b1
   obtain ⟨q0, q1, q2, q3, q4⟩ := LX.out.all5
   obtain ⟨y0, y1, y2⟩ := LY.out.all3
   go_wp2_with fail
   (with_reducible refine (KG.out _ HR.out).mono ?_)
   clear q0 q1 q2 q3 q4 y0 y1 y2
   rintro e w2 ⟨rfl, b1⟩
   have tw2 : w1.heap.size ≤ w2.heap.size := b1.size
   have H := hid (H.out.old b1)
   have HR := hid (HR.out.old b1)
   have LX := hid (LX.out.old b1)
   have LY := hid (LY.out.old b1)
   have LR := hid (LR.out.old b1)
   have B := hid (B.out.trans (b1.mono B.out.size))
   clear b1
   obtain ⟨q0, q1, q2, q3, q4⟩ := LX.out.all5
   obtain ⟨y0, y1, y2⟩ := LY.out.all3
   have f0 := LR.out.f 0
   have f1 := LR.out.f 1
   have f2 := LR.out.f 2
   have f3 := LR.out.f 3
   have f4 := LR.out.f 4
   have p0 := LR.out.c 0 rfl
   have p1 := LR.out.c 1 rfl
   have p2 := LR.out.c 2 rfl
   have p3 := LR.out.c 3 rfl
   have p4 := LR.out.c 4 rfl
   have RR := hid (RowRW_zero (N := w.heap.size + 1 + 1) (by omega) (by omega) B.out)
   go_wp2
   exact bodyPost_ret (v := .agg #[.slice none 0 0, .int .i64 0, .bool false, .slice none 0 0, .slice none 0 0]) (by simp [results, Tryz.results29, go_sem, p0, p1, p2, p3, p4]) rfl RR.out
  have u0 : (z == 0) = false := beq_eq_false_iff_ne.2 hz0
  have KP := hid (fun (W : World) => l11Sense_any x z (rowOk_parts0 ho).1 (rowOk_parts0 ho).2 W)
  obtain ⟨sx, hsx⟩ : ∃ sx, (if z < 0 then opp x else x) = sx := ⟨_, rfl⟩
  rw [hsx] at KP
  have HSX := hid hsx
  clear hsx
  have HNZ := hid (show (rowOk T0 x s A D 40 && nz o) = true by rw [ho, nz_one (by rw [HZ.out]; exact hz0)]; rfl)
  go_enter Tryz.func29, Tryz.ntmps29
  go_wp2_with fail
  rw [HW.out]
  (with_reducible refine (KO.out _ H.out).mono ?_)
  rintro e w1 ⟨rfl, b1⟩
  have tw1 : W0.heap.size ≤ w1.heap.size := b1.size
  have H := hid (H.out.old b1)
  have HR := hid (HR.out.old b1)
  have LX := hid (LX.out.old b1)
  have LY := hid (LY.out.old b1)
  have LR := hid (LR.out.old b1)
  have B := hid (B.out.trans (b1.mono B.out.size))
  clear b1
  obtain ⟨q0, q1, q2, q3, q4⟩ := LX.out.all5
  obtain ⟨y0, y1, y2⟩ := LY.out.all3
  go_wp2_with fail
  (with_reducible refine (KG.out _ HR.out).mono ?_)
  clear q0 q1 q2 q3 q4 y0 y1 y2
  rintro e w2 ⟨rfl, b1⟩
  have tw2 : w1.heap.size ≤ w2.heap.size := b1.size
  have H := hid (H.out.old b1)
  have HR := hid (HR.out.old b1)
  have LX := hid (LX.out.old b1)
  have LY := hid (LY.out.old b1)
  have LR := hid (LR.out.old b1)
  have B := hid (B.out.trans (b1.mono B.out.size))
  clear b1
  obtain ⟨q0, q1, q2, q3, q4⟩ := LX.out.all5
  obtain ⟨y0, y1, y2⟩ := LY.out.all3
  go_upto_region 3 with fail
  go_cut [5] (fun sl wx => LaidG false w2 K1 sx gs GA GD sl wx)
  case first =>
   have H0 := H
   have H := hid (H0.out.old (Below_drew1 (Below.refl _ _)))
   have HR0 := HR
   have HR := hid (HR0.out.old (Below_drew1 (Below.refl _ _)))
   have LX0 := LX
   have LX := hid (LX0.out.old (Below_drew1 (Below.refl _ _)))
   have LY0 := LY
   have LY := hid (LY0.out.old (Below_drew1 (Below.refl _ _)))
   have LR0 := LR
   have LR := hid (LR0.out.old (Below_drew1 (Below.refl _ _)))
   have CC := hid (show Below w2.heap.size w2 w2.drew from Below_drew1 (Below.refl _ _))
   have eD : w2.drew.heap.size = w2.heap.size := rfl
   have LTLX := LX.out.lt
   have LTLY := LY.out.lt
   have hW2 : w.heap.size + 1 + 1 + 1 ≤ w2.heap.size := by omega
   obtain ⟨q0, q1, q2, q3, q4⟩ := LX.out.all5
   obtain ⟨q5, q6, q7⟩ := LY.out.all3
   refine wp_region_held_drew (S := (fun w' => w'.cell? ⟨w.heap.size, 0, none⟩ = some (.slice a1 T0.length c1) ∧ w'.cell? ⟨w.heap.size, 1, none⟩ = some (.int .i64 x) ∧ w'.cell? ⟨w.heap.size, 2, none⟩ = some (.bool s) ∧ w'.cell? ⟨w.heap.size, 3, none⟩ = some (.slice b1 A.length d1) ∧ w'.cell? ⟨w.heap.size, 4, none⟩ = some (.slice e1 D.length f1) ∧ w'.cell? ⟨w.heap.size + 1, 0, none⟩ = some (.bool sr) ∧ w'.cell? ⟨w.heap.size + 1, 1, none⟩ = some (.slice a2 n2 c2) ∧ w'.cell? ⟨w.heap.size + 1, 2, none⟩ = some (.slice b2 m2 d2))) (by kernel_rfl) (by first | (with_reducible exact ⟨q0, q1, q2, q3, q4, q5, q6, q7⟩) | ((try dsimp only); with_reducible exact ⟨q0, q1, q2, q3, q4, q5, q6, q7⟩) | exact ⟨q0, q1, q2, q3, q4, q5, q6, q7⟩) (fun hHeld => ?_)
   refine wpAnyH_take (i := 0) (oi := _) (v := ?_) rfl (by kernel_rfl) (by kernel_rfl) (by kernel_rfl) (fun _ _ _ h => h) (Or.inl ⟨by rfl, ?_⟩) (by assumption) ?_
   rotate_left
   ·(intro w hSw; (try dsimp only at hSw); go_simp; try (with_reducible rfl))
   try simp only [Act.put, List.setIfInBounds_toArray, List.set_cons_zero, List.set_cons_succ, List.getElem_toArray, List.getElem_cons_zero]
   refine wpAnyH_take (i := 1) (oi := _) (v := ?_) rfl (by kernel_rfl) (by kernel_rfl) (by kernel_rfl) (fun _ _ _ h => h) (Or.inl ⟨by rfl, ?_⟩) (by assumption) ?_
   rotate_left
   ·(intro w hSw; (try dsimp only at hSw); go_simp; try (with_reducible rfl))
   try simp only [Act.put, List.setIfInBounds_toArray, List.set_cons_zero, List.set_cons_succ, List.getElem_toArray, List.getElem_cons_zero, List.getElem_cons_succ]
   refine wpAnyH_take (i := 2) (oi := _) (v := ?_) rfl (by kernel_rfl) (by kernel_rfl) (by kernel_rfl) (fun _ _ _ h => h) (Or.inl ⟨by rfl, ?_⟩) (by assumption) ?_
   rotate_left
   ·(intro w hSw; (try dsimp only at hSw); go_simp; try (with_reducible rfl))
   try simp only [Act.put, List.setIfInBounds_toArray, List.set_cons_zero, List.set_cons_succ, List.getElem_toArray, List.getElem_cons_zero, List.getElem_cons_succ]
   refine wpAnyH_take (i := 4) (oi := _) (v := ?_) rfl (by kernel_rfl) (by kernel_rfl) (by kernel_rfl) (fun _ _ _ h => h) (Or.inl ⟨by rfl, ?_⟩) (by assumption) ?_
   rotate_left
   ·(intro w hSw; (try dsimp only at hSw); go_simp; try (with_reducible rfl))
   try simp only [Act.put, List.setIfInBounds_toArray, List.set_cons_zero, List.set_cons_succ, List.getElem_toArray, List.getElem_cons_zero, List.getElem_cons_succ]
   refine wpAnyH_take (i := 5) (oi := _) (v := ?_) rfl (by kernel_rfl) (by kernel_rfl) (by kernel_rfl) (fun _ _ _ h => h) (Or.inl ⟨by rfl, ?_⟩) (by assumption) ?_
   rotate_left
   ·(intro w hSw; (try dsimp only at hSw); go_simp; try (with_reducible rfl))
   try simp only [Act.put, List.setIfInBounds_toArray, List.set_cons_zero, List.set_cons_succ, List.getElem_toArray, List.getElem_cons_zero, List.getElem_cons_succ]
   refine wpAnyH_take (i := 6) (oi := _) (v := ?_) rfl (by kernel_rfl) (by kernel_rfl) (by kernel_rfl) (fun _ _ _ h => h) (Or.inl ⟨by rfl, ?_⟩) (by assumption) ?_
   rotate_left
   ·(intro w hSw; (try dsimp only at hSw); go_simp; try (with_reducible rfl))
   try simp only [Act.put, List.setIfInBounds_toArray, List.set_cons_zero, List.set_cons_succ, List.getElem_toArray, List.getElem_cons_zero, List.getElem_cons_succ]
   refine wpAnyH_take (i := 9) (oi := _) (v := ?_) rfl (by kernel_rfl) (by kernel_rfl) (by kernel_rfl) (fun _ _ _ h => h) (Or.inl ⟨by rfl, ?_⟩) (by assumption) ?_
   rotate_left
   ·(intro w hSw; (try dsimp only at hSw); go_simp; try (with_reducible rfl))
   try simp only [Act.put, List.setIfInBounds_toArray, List.set_cons_zero, List.set_cons_succ, List.getElem_toArray, List.getElem_cons_zero, List.getElem_cons_succ]
   refine wpAnyH_take (i := 10) (oi := _) (v := ?_) rfl (by kernel_rfl) (by kernel_rfl) (by kernel_rfl) (fun _ _ _ h => h) (Or.inl ⟨by rfl, ?_⟩) (by assumption) ?_
   rotate_left
   ·(intro w hSw; (try dsimp only at hSw); go_simp; try (with_reducible rfl))
   try simp only [Act.put, List.setIfInBounds_toArray, List.set_cons_zero, List.set_cons_succ, List.getElem_toArray, List.getElem_cons_zero, List.getElem_cons_succ]
   refine wpAnyH_take (i := 11) (oi := _) (v := ?_) rfl (by kernel_rfl) (by kernel_rfl) (by kernel_rfl) (fun _ _ _ h => h) (Or.inl ⟨by rfl, ?_⟩) (by assumption) ?_
   rotate_left
   ·(intro w hSw; (try dsimp only at hSw); go_simp; try (with_reducible rfl))
   try simp only [Act.put, List.setIfInBounds_toArray, List.set_cons_zero, List.set_cons_succ, List.getElem_toArray, List.getElem_cons_zero, List.getElem_cons_succ]
   refine wpAnyH_ready (rs := [3, 14]) (by kernel_rfl) (by simp) ?_
   refine AllReadyH.cons (o := _) rfl (fun K hK => ?_) (AllReadyH.cons (o := _) rfl (fun K hK => ?_) AllReadyH.nil)
   ·skip
    go_simp
    (with_reducible refine (KT.out _ H.out HR.out).mono ?_)
    rintro e wc0 ⟨a7, n7, c7, rfl, i1, bb⟩
    have sz0 : w2.drew.heap.size ≤ wc0.heap.size := bb.size
    have H := hid (H.out.old bb)
    have HR := hid (HR.out.old bb)
    have LX := hid (LX.out.old bb)
    have LY := hid (LY.out.old bb)
    have LR := hid (LR.out.old bb)
    have CC := hid (CC.out.trans (bb.mono CC.out.size))
    obtain rfl := i1.num
    have I1 := hid i1
    clear i1
    obtain ⟨q0, q1, q2, q3, q4⟩ := LX.out.all5
    obtain ⟨q5, q6, q7⟩ := LY.out.all3
    clear bb
    go_wp2_with fail
    refine hK.out _ _ ?_ (fun hHeld => ?_)
    ·first | (with_reducible exact ⟨q0, q1, q2, q3, q4, q5, q6, q7⟩) | ((try dsimp only); with_reducible exact ⟨q0, q1, q2, q3, q4, q5, q6, q7⟩) | exact ⟨q0, q1, q2, q3, q4, q5, q6, q7⟩
    refine wpAnyH_ready (rs := [7, 14]) (by kernel_rfl) (by simp) ?_
    refine AllReadyH.cons (o := _) rfl (fun K hK => ?_) (AllReadyH.cons (o := _) rfl (fun K hK => ?_) AllReadyH.nil)
    ·skip
     go_simp
     (with_reducible refine (KG.out _ HR.out).mono ?_)
     rintro e wc1 ⟨rfl, bb⟩
     have sz1 : wc0.heap.size ≤ wc1.heap.size := bb.size
     have H := hid (H.out.old bb)
     have HR := hid (HR.out.old bb)
     have LX := hid (LX.out.old bb)
     have LY := hid (LY.out.old bb)
     have LR := hid (LR.out.old bb)
     have I1 := hid (I1.out.old bb)
     have CC := hid (CC.out.trans (bb.mono CC.out.size))
     obtain ⟨q0, q1, q2, q3, q4⟩ := LX.out.all5
     obtain ⟨q5, q6, q7⟩ := LY.out.all3
     clear bb
     go_wp2_with fail
     refine hK.out _ _ ?_ (fun hHeld => ?_)
     ·first | (with_reducible exact ⟨q0, q1, q2, q3, q4, q5, q6, q7⟩) | ((try dsimp only); with_reducible exact ⟨q0, q1, q2, q3, q4, q5, q6, q7⟩) | exact ⟨q0, q1, q2, q3, q4, q5, q6, q7⟩
     refine wpAnyH_ready (rs := [8, 14]) (by kernel_rfl) (by simp) ?_
     refine AllReadyH.cons (o := _) rfl (fun K hK => ?_) (AllReadyH.cons (o := _) rfl (fun K hK => ?_) AllReadyH.nil)
     ·skip
      go_simp
      (with_reducible refine (KP.out _).mono ?_)
      rintro e wc2 ⟨rfl, bb⟩
      have sz2 : wc1.heap.size ≤ wc2.heap.size := bb.size
      have H := hid (H.out.old bb)
      have HR := hid (HR.out.old bb)
      have LX := hid (LX.out.old bb)
      have LY := hid (LY.out.old bb)
      have LR := hid (LR.out.old bb)
      have I1 := hid (I1.out.old bb)
      have CC := hid (CC.out.trans (bb.mono CC.out.size))
      obtain ⟨q0, q1, q2, q3, q4⟩ := LX.out.all5
      obtain ⟨q5, q6, q7⟩ := LY.out.all3
      clear bb
      go_wp2_with fail
      refine hK.out _ _ ?_ (fun hHeld => ?_)
      ·first | (with_reducible exact ⟨q0, q1, q2, q3, q4, q5, q6, q7⟩) | ((try dsimp only); with_reducible exact ⟨q0, q1, q2, q3, q4, q5, q6, q7⟩) | exact ⟨q0, q1, q2, q3, q4, q5, q6, q7⟩
      refine wpAnyH_ready (rs := [12, 14]) (by kernel_rfl) (by simp) ?_
      refine AllReadyH.cons (o := _) rfl (fun K hK => ?_) (AllReadyH.cons (o := _) rfl (fun K hK => ?_) AllReadyH.nil)
      ·skip
       go_simp
       (with_reducible refine (KM.out _ H.out HR.out).mono ?_)
       rintro e wc3 ⟨v8, u8, rfl, i1, bb⟩
       have sz3 : wc2.heap.size ≤ wc3.heap.size := bb.size
       have H := hid (H.out.old bb)
       have HR := hid (HR.out.old bb)
       have LX := hid (LX.out.old bb)
       have LY := hid (LY.out.old bb)
       have LR := hid (LR.out.old bb)
       have I1 := hid (I1.out.old bb)
       have CC := hid (CC.out.trans (bb.mono CC.out.size))
       have hn8 := True.intro
       have I2 := hid (i1)
       obtain ⟨a8, c8, b8, d8, rfl, rfl⟩ := i1.form
       clear i1
       obtain ⟨q0, q1, q2, q3, q4⟩ := LX.out.all5
       obtain ⟨q5, q6, q7⟩ := LY.out.all3
       clear bb
       go_wp2_with fail
       refine hK.out _ _ ?_ (fun hHeld => ?_)
       ·first | (with_reducible exact ⟨q0, q1, q2, q3, q4, q5, q6, q7⟩) | ((try dsimp only); with_reducible exact ⟨q0, q1, q2, q3, q4, q5, q6, q7⟩) | exact ⟨q0, q1, q2, q3, q4, q5, q6, q7⟩
       refine wpAnyH_take (i := 13) (oi := _) (v := ?_) rfl (by kernel_rfl) (by kernel_rfl) (by kernel_rfl) (fun _ _ _ h => h) (Or.inl ⟨by rfl, ?_⟩) (by assumption) ?_
       rotate_left
       ·(intro w hSw; (try dsimp only at hSw); go_simp; try (with_reducible rfl))
       try simp only [Act.put, List.setIfInBounds_toArray, List.set_cons_zero, List.set_cons_succ, List.getElem_toArray, List.getElem_cons_zero, List.getElem_cons_succ]
       refine wpAnyH_ready (rs := [14]) (by kernel_rfl) (by simp) ?_
       refine AllReadyH.cons (o := _) rfl (fun K hK => ?_) AllReadyH.nil
       obtain ⟨qw0, qw1, qw2, qw3, qw4⟩ := LX.out.all5
       obtain ⟨qw5, qw6, qw7⟩ := LY.out.all3
       have I1w := I1
       have I2w := I2
       have CCw := CC
       have HTLX := hid (show w.heap.size < (wc3).heap.size from Nat.lt_of_lt_of_le LTLX CC.out.size)
       have HTLY := hid (show w.heap.size + 1 < (wc3).heap.size from Nat.lt_of_lt_of_le LTLY CC.out.size)
       have HMLX := hid (show w.heap.size < wc3.heap.size from HTLX.out)
       have HMLY := hid (show w.heap.size + 1 < wc3.heap.size from HTLY.out)
       go_simp
       have BN := hid (below_new' (w := wc3) (o := .cells #[.slice none 0 0, .int .i64 0, .bool false, .slice none 0 0, .slice none 0 0] 39))
       have NZ := hid (LocA.new (w := wc3) (T := 39) (cs := #[.slice none 0 0, .int .i64 0, .bool false, .slice none 0 0, .slice none 0 0]))
       have eA : (wc3.alloc (.cells #[.slice none 0 0, .int .i64 0, .bool false, .slice none 0 0, .slice none 0 0] 39)).heap.size = wc3.heap.size + 1 := by simp
       have hNZ : w2.heap.size ≤ wc3.heap.size := CC.out.size
       have H := hid (H.out.old BN.out)
       have HR := hid (HR.out.old BN.out)
       have LX := hid (LX.out.old BN.out)
       have LY := hid (LY.out.old BN.out)
       have LR := hid (LR.out.old BN.out)
       have I1 := hid (I1.out.old BN.out)
       have I2 := hid (I2.out.old BN.out)
       have CC := hid (CC.out.alloc CC.out.size (.cells #[.slice none 0 0, .int .i64 0, .bool false, .slice none 0 0, .slice none 0 0] 39))
       obtain ⟨q0, q1, q2, q3, q4⟩ := LX.out.all5
       obtain ⟨q5, q6, q7⟩ := LY.out.all3
       refine hK.out _ _ ?_ (fun hHeld => ?_)
       ·first | (with_reducible exact ⟨q0, q1, q2, q3, q4, q5, q6, q7⟩) | ((try dsimp only); with_reducible exact ⟨q0, q1, q2, q3, q4, q5, q6, q7⟩) | exact ⟨q0, q1, q2, q3, q4, q5, q6, q7⟩
       try simp only [Act.put, List.setIfInBounds_toArray, List.set_cons_zero, List.set_cons_succ, List.getElem_toArray, List.getElem_cons_zero, List.getElem_cons_succ]
       refine wpAnyH_ready (rs := [15]) (by kernel_rfl) (by simp) ?_
       refine AllReadyH.cons (o := _) rfl (fun K hK => ?_) AllReadyH.nil
       have hNB := NZ.out.lt
       have hsB := CC.out.size
       have f0 := NZ.out.f 0
       have f1 := NZ.out.f 1
       have f2 := NZ.out.f 2
       have f3 := NZ.out.f 3
       have f4 := NZ.out.f 4
       have p0 := NZ.out.c 0 rfl
       have p1 := NZ.out.c 1 rfl
       have p2 := NZ.out.c 2 rfl
       have p3 := NZ.out.c 3 rfl
       have p4 := NZ.out.c 4 rfl
       go_simp
       (try go_wp2_with fail)
       refine hK.out _ _ ?_ (fun hHeld => ?_)
       ·with_reducible exact ⟨(Below.cell below_new' (p := ⟨w.heap.size, 0, none⟩) HTLX.out).trans qw0, (Below.cell below_new' (p := ⟨w.heap.size, 1, none⟩) HTLX.out).trans qw1, (Below.cell below_new' (p := ⟨w.heap.size, 2, none⟩) HTLX.out).trans qw2, (Below.cell below_new' (p := ⟨w.heap.size, 3, none⟩) HTLX.out).trans qw3, (Below.cell below_new' (p := ⟨w.heap.size, 4, none⟩) HTLX.out).trans qw4, (Below.cell below_new' (p := ⟨w.heap.size + 1, 0, none⟩) HTLY.out).trans qw5, (Below.cell below_new' (p := ⟨w.heap.size + 1, 1, none⟩) HTLY.out).trans qw6, (Below.cell below_new' (p := ⟨w.heap.size + 1, 2, none⟩) HTLY.out).trans qw7⟩
       refine wpAnyH_done (by kernel_rfl) ?_ _
       go_wp2_with fail
       go_meet
       exact LaidG_a I1w.out I2w.out (fun h => by cases h) (by omega) (by omega) (by omega) (by omega) (by omega) CCw.out
      ·skip
       obtain ⟨qw0, qw1, qw2, qw3, qw4⟩ := LX.out.all5
       obtain ⟨qw5, qw6, qw7⟩ := LY.out.all3
       have I1w := I1
       have CCw := CC
       have HTLX := hid (show w.heap.size < (wc2).heap.size from Nat.lt_of_lt_of_le LTLX CC.out.size)
       have HTLY := hid (show w.heap.size + 1 < (wc2).heap.size from Nat.lt_of_lt_of_le LTLY CC.out.size)
       have HMLX := hid (show w.heap.size < wc2.heap.size from HTLX.out)
       have HMLY := hid (show w.heap.size + 1 < wc2.heap.size from HTLY.out)
       go_simp
       have BN := hid (below_new' (w := wc2) (o := .cells #[.slice none 0 0, .int .i64 0, .bool false, .slice none 0 0, .slice none 0 0] 39))
       have NZ := hid (LocA.new (w := wc2) (T := 39) (cs := #[.slice none 0 0, .int .i64 0, .bool false, .slice none 0 0, .slice none 0 0]))
       have eA : (wc2.alloc (.cells #[.slice none 0 0, .int .i64 0, .bool false, .slice none 0 0, .slice none 0 0] 39)).heap.size = wc2.heap.size + 1 := by simp
       have hNZ : w2.heap.size ≤ wc2.heap.size := CC.out.size
       have H := hid (H.out.old BN.out)
       have HR := hid (HR.out.old BN.out)
       have LX := hid (LX.out.old BN.out)
       have LY := hid (LY.out.old BN.out)
       have LR := hid (LR.out.old BN.out)
       have I1 := hid (I1.out.old BN.out)
       have CC := hid (CC.out.alloc CC.out.size (.cells #[.slice none 0 0, .int .i64 0, .bool false, .slice none 0 0, .slice none 0 0] 39))
       obtain ⟨q0, q1, q2, q3, q4⟩ := LX.out.all5
       obtain ⟨q5, q6, q7⟩ := LY.out.all3
       refine hK.out _ _ ?_ (fun hHeld => ?_)
       ·first | (with_reducible exact ⟨q0, q1, q2, q3, q4, q5, q6, q7⟩) | ((try dsimp only); with_reducible exact ⟨q0, q1, q2, q3, q4, q5, q6, q7⟩) | exact ⟨q0, q1, q2, q3, q4, q5, q6, q7⟩
       try simp only [Act.put, List.setIfInBounds_toArray, List.set_cons_zero, List.set_cons_succ, List.getElem_toArray, List.getElem_cons_zero, List.getElem_cons_succ]
       refine wpAnyH_ready (rs := [12]) (by kernel_rfl) (by simp) ?_
       refine AllReadyH.cons (o := _) rfl (fun K hK => ?_) AllReadyH.nil
       go_simp
       (with_reducible refine (KM.out _ H.out HR.out).mono ?_)
       rintro e wc3 ⟨v8, u8, rfl, i1, bb⟩
       have sz3 : (wc2.alloc (.cells #[.slice none 0 0, .int .i64 0, .bool false, .slice none 0 0, .slice none 0 0] 39)).heap.size ≤ wc3.heap.size := bb.size
       have H := hid (H.out.old bb)
       have HR := hid (HR.out.old bb)
       have LX := hid (LX.out.old bb)
       have LY := hid (LY.out.old bb)
       have LR := hid (LR.out.old bb)
       have I1 := hid (I1.out.old bb)
       have NZ := hid (NZ.out.old bb)
       have CC := hid (CC.out.trans (bb.mono CC.out.size))
       have hn8 := True.intro
       have I2 := hid (i1)
       obtain ⟨a8, c8, b8, d8, rfl, rfl⟩ := i1.form
       clear i1
       obtain ⟨q0, q1, q2, q3, q4⟩ := LX.out.all5
       obtain ⟨q5, q6, q7⟩ := LY.out.all3
       clear bb
       go_wp2_with fail
       refine hK.out _ _ ?_ (fun hHeld => ?_)
       ·first | (with_reducible exact ⟨q0, q1, q2, q3, q4, q5, q6, q7⟩) | ((try dsimp only); with_reducible exact ⟨q0, q1, q2, q3, q4, q5, q6, q7⟩) | exact ⟨q0, q1, q2, q3, q4, q5, q6, q7⟩
       refine wpAnyH_take (i := 13) (oi := _) (v := ?_) rfl (by kernel_rfl) (by kernel_rfl) (by kernel_rfl) (fun _ _ _ h => h) (Or.inl ⟨by rfl, ?_⟩) (by assumption) ?_
       rotate_left
       ·(intro w hSw; (try dsimp only at hSw); go_simp; try (with_reducible rfl))
       try simp only [Act.put, List.setIfInBounds_toArray, List.set_cons_zero, List.set_cons_succ, List.getElem_toArray, List.getElem_cons_zero, List.getElem_cons_succ]
       refine wpAnyH_ready (rs := [15]) (by kernel_rfl) (by simp) ?_
       refine AllReadyH.cons (o := _) rfl (fun K hK => ?_) AllReadyH.nil
       have hNB := NZ.out.lt
       have hsB := CC.out.size
       have f0 := NZ.out.f 0
       have f1 := NZ.out.f 1
       have f2 := NZ.out.f 2
       have f3 := NZ.out.f 3
       have f4 := NZ.out.f 4
       have p0 := NZ.out.c 0 rfl
       have p1 := NZ.out.c 1 rfl
       have p2 := NZ.out.c 2 rfl
       have p3 := NZ.out.c 3 rfl
       have p4 := NZ.out.c 4 rfl
       go_simp
       (try go_wp2_with fail)
       skip
       skip
       refine hK.out _ _ ?_ (fun hHeld => ?_)
       ·with_reducible exact ⟨(cell_set5 (Nat.ne_of_lt HMLX.out)).trans q0, (cell_set5 (Nat.ne_of_lt HMLX.out)).trans q1, (cell_set5 (Nat.ne_of_lt HMLX.out)).trans q2, (cell_set5 (Nat.ne_of_lt HMLX.out)).trans q3, (cell_set5 (Nat.ne_of_lt HMLX.out)).trans q4, (cell_set5 (Nat.ne_of_lt HMLY.out)).trans q5, (cell_set5 (Nat.ne_of_lt HMLY.out)).trans q6, (cell_set5 (Nat.ne_of_lt HMLY.out)).trans q7⟩
       refine wpAnyH_done (by kernel_rfl) ?_ _
       go_wp2_with fail
       go_meet
       exact LaidG_b NZ.out I1.out I2.out (fun h => by cases h) (by omega) (by omega) (by omega) (by omega) (by omega) (by omega) (by omega) (by omega) CC.out
     ·skip
      obtain ⟨qw0, qw1, qw2, qw3, qw4⟩ := LX.out.all5
      obtain ⟨qw5, qw6, qw7⟩ := LY.out.all3
      have I1w := I1
      have CCw := CC
      have HTLX := hid (show w.heap.size < (wc1).heap.size from Nat.lt_of_lt_of_le LTLX CC.out.size)
      have HTLY := hid (show w.heap.size + 1 < (wc1).heap.size from Nat.lt_of_lt_of_le LTLY CC.out.size)
      have HMLX := hid (show w.heap.size < wc1.heap.size from HTLX.out)
      have HMLY := hid (show w.heap.size + 1 < wc1.heap.size from HTLY.out)
      go_simp
      have BN := hid (below_new' (w := wc1) (o := .cells #[.slice none 0 0, .int .i64 0, .bool false, .slice none 0 0, .slice none 0 0] 39))
      have NZ := hid (LocA.new (w := wc1) (T := 39) (cs := #[.slice none 0 0, .int .i64 0, .bool false, .slice none 0 0, .slice none 0 0]))
      have eA : (wc1.alloc (.cells #[.slice none 0 0, .int .i64 0, .bool false, .slice none 0 0, .slice none 0 0] 39)).heap.size = wc1.heap.size + 1 := by simp
      have hNZ : w2.heap.size ≤ wc1.heap.size := CC.out.size
      have H := hid (H.out.old BN.out)
      have HR := hid (HR.out.old BN.out)
      have LX := hid (LX.out.old BN.out)
      have LY := hid (LY.out.old BN.out)
      have LR := hid (LR.out.old BN.out)
      have I1 := hid (I1.out.old BN.out)
      have CC := hid (CC.out.alloc CC.out.size (.cells #[.slice none 0 0, .int .i64 0, .bool false, .slice none 0 0, .slice none 0 0] 39))
      obtain ⟨q0, q1, q2, q3, q4⟩ := LX.out.all5
      obtain ⟨q5, q6, q7⟩ := LY.out.all3
      refine hK.out _ _ ?_ (fun hHeld => ?_)
      ·first | (with_reducible exact ⟨q0, q1, q2, q3, q4, q5, q6, q7⟩) | ((try dsimp only); with_reducible exact ⟨q0, q1, q2, q3, q4, q5, q6, q7⟩) | exact ⟨q0, q1, q2, q3, q4, q5, q6, q7⟩
      try simp only [Act.put, List.setIfInBounds_toArray, List.set_cons_zero, List.set_cons_succ, List.getElem_toArray, List.getElem_cons_zero, List.getElem_cons_succ]
      refine wpAnyH_ready (rs := [8]) (by kernel_rfl) (by simp) ?_
      refine AllReadyH.cons (o := _) rfl (fun K hK => ?_) AllReadyH.nil
      go_simp
      (with_reducible refine (KP.out _).mono ?_)
      rintro e wc2 ⟨rfl, bb⟩
      have sz2 : (wc1.alloc (.cells #[.slice none 0 0, .int .i64 0, .bool false, .slice none 0 0, .slice none 0 0] 39)).heap.size ≤ wc2.heap.size := bb.size
      have H := hid (H.out.old bb)
      have HR := hid (HR.out.old bb)
      have LX := hid (LX.out.old bb)
      have LY := hid (LY.out.old bb)
      have LR := hid (LR.out.old bb)
      have I1 := hid (I1.out.old bb)
      have NZ := hid (NZ.out.old bb)
      have CC := hid (CC.out.trans (bb.mono CC.out.size))
      obtain ⟨q0, q1, q2, q3, q4⟩ := LX.out.all5
      obtain ⟨q5, q6, q7⟩ := LY.out.all3
      clear bb
      go_wp2_with fail
      refine hK.out _ _ ?_ (fun hHeld => ?_)
      ·first | (with_reducible exact ⟨q0, q1, q2, q3, q4, q5, q6, q7⟩) | ((try dsimp only); with_reducible exact ⟨q0, q1, q2, q3, q4, q5, q6, q7⟩) | exact ⟨q0, q1, q2, q3, q4, q5, q6, q7⟩
      refine wpAnyH_ready (rs := [12]) (by kernel_rfl) (by simp) ?_
      refine AllReadyH.cons (o := _) rfl (fun K hK => ?_) AllReadyH.nil
      go_simp
      (with_reducible refine (KM.out _ H.out HR.out).mono ?_)
      rintro e wc3 ⟨v8, u8, rfl, i1, bb⟩
      have sz3 : wc2.heap.size ≤ wc3.heap.size := bb.size
      have H := hid (H.out.old bb)
      have HR := hid (HR.out.old bb)
      have LX := hid (LX.out.old bb)
      have LY := hid (LY.out.old bb)
      have LR := hid (LR.out.old bb)
      have I1 := hid (I1.out.old bb)
      have NZ := hid (NZ.out.old bb)
      have CC := hid (CC.out.trans (bb.mono CC.out.size))
      have hn8 := True.intro
      have I2 := hid (i1)
      obtain ⟨a8, c8, b8, d8, rfl, rfl⟩ := i1.form
      clear i1
      obtain ⟨q0, q1, q2, q3, q4⟩ := LX.out.all5
      obtain ⟨q5, q6, q7⟩ := LY.out.all3
      clear bb
      go_wp2_with fail
      refine hK.out _ _ ?_ (fun hHeld => ?_)
      ·first | (with_reducible exact ⟨q0, q1, q2, q3, q4, q5, q6, q7⟩) | ((try dsimp only); with_reducible exact ⟨q0, q1, q2, q3, q4, q5, q6, q7⟩) | exact ⟨q0, q1, q2, q3, q4, q5, q6, q7⟩
      refine wpAnyH_take (i := 13) (oi := _) (v := ?_) rfl (by kernel_rfl) (by kernel_rfl) (by kernel_rfl) (fun _ _ _ h => h) (Or.inl ⟨by rfl, ?_⟩) (by assumption) ?_
      rotate_left
      ·(intro w hSw; (try dsimp only at hSw); go_simp; try (with_reducible rfl))
      try simp only [Act.put, List.setIfInBounds_toArray, List.set_cons_zero, List.set_cons_succ, List.getElem_toArray, List.getElem_cons_zero, List.getElem_cons_succ]
      refine wpAnyH_ready (rs := [15]) (by kernel_rfl) (by simp) ?_
      refine AllReadyH.cons (o := _) rfl (fun K hK => ?_) AllReadyH.nil
      have hNB := NZ.out.lt
      have hsB := CC.out.size
      have f0 := NZ.out.f 0
      have f1 := NZ.out.f 1
      have f2 := NZ.out.f 2
      have f3 := NZ.out.f 3
      have f4 := NZ.out.f 4
      have p0 := NZ.out.c 0 rfl
      have p1 := NZ.out.c 1 rfl
      have p2 := NZ.out.c 2 rfl
      have p3 := NZ.out.c 3 rfl
      have p4 := NZ.out.c 4 rfl
      go_simp
      (try go_wp2_with fail)
      skip
      skip
      refine hK.out _ _ ?_ (fun hHeld => ?_)
      ·with_reducible exact ⟨(cell_set5 (Nat.ne_of_lt HMLX.out)).trans q0, (cell_set5 (Nat.ne_of_lt HMLX.out)).trans q1, (cell_set5 (Nat.ne_of_lt HMLX.out)).trans q2, (cell_set5 (Nat.ne_of_lt HMLX.out)).trans q3, (cell_set5 (Nat.ne_of_lt HMLX.out)).trans q4, (cell_set5 (Nat.ne_of_lt HMLY.out)).trans q5, (cell_set5 (Nat.ne_of_lt HMLY.out)).trans q6, (cell_set5 (Nat.ne_of_lt HMLY.out)).trans q7⟩
      refine wpAnyH_done (by kernel_rfl) ?_ _
      go_wp2_with fail
      go_meet
      exact LaidG_b NZ.out I1.out I2.out (fun h => by cases h) (by omega) (by omega) (by omega) (by omega) (by omega) (by omega) (by omega) (by omega) CC.out
    ·skip
     obtain ⟨qw0, qw1, qw2, qw3, qw4⟩ := LX.out.all5
     obtain ⟨qw5, qw6, qw7⟩ := LY.out.all3
     have I1w := I1
     have CCw := CC
     have HTLX := hid (show w.heap.size < (wc0).heap.size from Nat.lt_of_lt_of_le LTLX CC.out.size)
     have HTLY := hid (show w.heap.size + 1 < (wc0).heap.size from Nat.lt_of_lt_of_le LTLY CC.out.size)
     have HMLX := hid (show w.heap.size < wc0.heap.size from HTLX.out)
     have HMLY := hid (show w.heap.size + 1 < wc0.heap.size from HTLY.out)
     go_simp
     have BN := hid (below_new' (w := wc0) (o := .cells #[.slice none 0 0, .int .i64 0, .bool false, .slice none 0 0, .slice none 0 0] 39))
     have NZ := hid (LocA.new (w := wc0) (T := 39) (cs := #[.slice none 0 0, .int .i64 0, .bool false, .slice none 0 0, .slice none 0 0]))
     have eA : (wc0.alloc (.cells #[.slice none 0 0, .int .i64 0, .bool false, .slice none 0 0, .slice none 0 0] 39)).heap.size = wc0.heap.size + 1 := by simp
     have hNZ : w2.heap.size ≤ wc0.heap.size := CC.out.size
     have H := hid (H.out.old BN.out)
     have HR := hid (HR.out.old BN.out)
     have LX := hid (LX.out.old BN.out)
     have LY := hid (LY.out.old BN.out)
     have LR := hid (LR.out.old BN.out)
     have I1 := hid (I1.out.old BN.out)
     have CC := hid (CC.out.alloc CC.out.size (.cells #[.slice none 0 0, .int .i64 0, .bool false, .slice none 0 0, .slice none 0 0] 39))
     obtain ⟨q0, q1, q2, q3, q4⟩ := LX.out.all5
     obtain ⟨q5, q6, q7⟩ := LY.out.all3
     refine hK.out _ _ ?_ (fun hHeld => ?_)
     ·first | (with_reducible exact ⟨q0, q1, q2, q3, q4, q5, q6, q7⟩) | ((try dsimp only); with_reducible exact ⟨q0, q1, q2, q3, q4, q5, q6, q7⟩) | exact ⟨q0, q1, q2, q3, q4, q5, q6, q7⟩
     try simp only [Act.put, List.setIfInBounds_toArray, List.set_cons_zero, List.set_cons_succ, List.getElem_toArray, List.getElem_cons_zero, List.getElem_cons_succ]
     refine wpAnyH_ready (rs := [7]) (by kernel_rfl) (by simp) ?_
     refine AllReadyH.cons (o := _) rfl (fun K hK => ?_) AllReadyH.nil
     go_simp
     (with_reducible refine (KG.out _ HR.out).mono ?_)
     rintro e wc1 ⟨rfl, bb⟩
     have sz1 : (wc0.alloc (.cells #[.slice none 0 0, .int .i64 0, .bool false, .slice none 0 0, .slice none 0 0] 39)).heap.size ≤ wc1.heap.size := bb.size
     have H := hid (H.out.old bb)
     have HR := hid (HR.out.old bb)
     have LX := hid (LX.out.old bb)
     have LY := hid (LY.out.old bb)
     have LR := hid (LR.out.old bb)
     have I1 := hid (I1.out.old bb)
     have NZ := hid (NZ.out.old bb)
     have CC := hid (CC.out.trans (bb.mono CC.out.size))
     obtain ⟨q0, q1, q2, q3, q4⟩ := LX.out.all5
     obtain ⟨q5, q6, q7⟩ := LY.out.all3
     clear bb
     go_wp2_with fail
     refine hK.out _ _ ?_ (fun hHeld => ?_)
     ·first | (with_reducible exact ⟨q0, q1, q2, q3, q4, q5, q6, q7⟩) | ((try dsimp only); with_reducible exact ⟨q0, q1, q2, q3, q4, q5, q6, q7⟩) | exact ⟨q0, q1, q2, q3, q4, q5, q6, q7⟩
     refine wpAnyH_ready (rs := [8]) (by kernel_rfl) (by simp) ?_
     refine AllReadyH.cons (o := _) rfl (fun K hK => ?_) AllReadyH.nil
     go_simp
     (with_reducible refine (KP.out _).mono ?_)
     rintro e wc2 ⟨rfl, bb⟩
     have sz2 : wc1.heap.size ≤ wc2.heap.size := bb.size
     have H := hid (H.out.old bb)
     have HR := hid (HR.out.old bb)
     have LX := hid (LX.out.old bb)
     have LY := hid (LY.out.old bb)
     have LR := hid (LR.out.old bb)
     have I1 := hid (I1.out.old bb)
     have NZ := hid (NZ.out.old bb)
     have CC := hid (CC.out.trans (bb.mono CC.out.size))
     obtain ⟨q0, q1, q2, q3, q4⟩ := LX.out.all5
     obtain ⟨q5, q6, q7⟩ := LY.out.all3
     clear bb
     go_wp2_with fail
     refine hK.out _ _ ?_ (fun hHeld => ?_)
     ·first | (with_reducible exact ⟨q0, q1, q2, q3, q4, q5, q6, q7⟩) | ((try dsimp only); with_reducible exact ⟨q0, q1, q2, q3, q4, q5, q6, q7⟩) | exact ⟨q0, q1, q2, q3, q4, q5, q6, q7⟩
     refine wpAnyH_ready (rs := [12]) (by kernel_rfl) (by simp) ?_
     refine AllReadyH.cons (o := _) rfl (fun K hK => ?_) AllReadyH.nil
     go_simp
     (with_reducible refine (KM.out _ H.out HR.out).mono ?_)
     rintro e wc3 ⟨v8, u8, rfl, i1, bb⟩
     have sz3 : wc2.heap.size ≤ wc3.heap.size := bb.size
     have H := hid (H.out.old bb)
     have HR := hid (HR.out.old bb)
     have LX := hid (LX.out.old bb)
     have LY := hid (LY.out.old bb)
     have LR := hid (LR.out.old bb)
     have I1 := hid (I1.out.old bb)
     have NZ := hid (NZ.out.old bb)
     have CC := hid (CC.out.trans (bb.mono CC.out.size))
     have hn8 := True.intro
     have I2 := hid (i1)
     obtain ⟨a8, c8, b8, d8, rfl, rfl⟩ := i1.form
     clear i1
     obtain ⟨q0, q1, q2, q3, q4⟩ := LX.out.all5
     obtain ⟨q5, q6, q7⟩ := LY.out.all3
     clear bb
     go_wp2_with fail
     refine hK.out _ _ ?_ (fun hHeld => ?_)
     ·first | (with_reducible exact ⟨q0, q1, q2, q3, q4, q5, q6, q7⟩) | ((try dsimp only); with_reducible exact ⟨q0, q1, q2, q3, q4, q5, q6, q7⟩) | exact ⟨q0, q1, q2, q3, q4, q5, q6, q7⟩
     refine wpAnyH_take (i := 13) (oi := _) (v := ?_) rfl (by kernel_rfl) (by kernel_rfl) (by kernel_rfl) (fun _ _ _ h => h) (Or.inl ⟨by rfl, ?_⟩) (by assumption) ?_
     rotate_left
     ·(intro w hSw; (try dsimp only at hSw); go_simp; try (with_reducible rfl))
     try simp only [Act.put, List.setIfInBounds_toArray, List.set_cons_zero, List.set_cons_succ, List.getElem_toArray, List.getElem_cons_zero, List.getElem_cons_succ]
     refine wpAnyH_ready (rs := [15]) (by kernel_rfl) (by simp) ?_
     refine AllReadyH.cons (o := _) rfl (fun K hK => ?_) AllReadyH.nil
     have hNB := NZ.out.lt
     have hsB := CC.out.size
     have f0 := NZ.out.f 0
     have f1 := NZ.out.f 1
     have f2 := NZ.out.f 2
     have f3 := NZ.out.f 3
     have f4 := NZ.out.f 4
     have p0 := NZ.out.c 0 rfl
     have p1 := NZ.out.c 1 rfl
     have p2 := NZ.out.c 2 rfl
     have p3 := NZ.out.c 3 rfl
     have p4 := NZ.out.c 4 rfl
     go_simp
     (try go_wp2_with fail)
     skip
     skip
     refine hK.out _ _ ?_ (fun hHeld => ?_)
     ·with_reducible exact ⟨(cell_set5 (Nat.ne_of_lt HMLX.out)).trans q0, (cell_set5 (Nat.ne_of_lt HMLX.out)).trans q1, (cell_set5 (Nat.ne_of_lt HMLX.out)).trans q2, (cell_set5 (Nat.ne_of_lt HMLX.out)).trans q3, (cell_set5 (Nat.ne_of_lt HMLX.out)).trans q4, (cell_set5 (Nat.ne_of_lt HMLY.out)).trans q5, (cell_set5 (Nat.ne_of_lt HMLY.out)).trans q6, (cell_set5 (Nat.ne_of_lt HMLY.out)).trans q7⟩
     refine wpAnyH_done (by kernel_rfl) ?_ _
     go_wp2_with fail
     go_meet
     exact LaidG_b NZ.out I1.out I2.out (fun h => by cases h) (by omega) (by omega) (by omega) (by omega) (by omega) (by omega) (by omega) (by omega) CC.out
   ·skip
    obtain ⟨qw0, qw1, qw2, qw3, qw4⟩ := LX.out.all5
    obtain ⟨qw5, qw6, qw7⟩ := LY.out.all3
    have CCw := CC
    have HTLX := hid (show w.heap.size < (w2.drew).heap.size from Nat.lt_of_lt_of_le LTLX CC.out.size)
    have HTLY := hid (show w.heap.size + 1 < (w2.drew).heap.size from Nat.lt_of_lt_of_le LTLY CC.out.size)
    have HMLX := hid (show w.heap.size < w2.heap.size from LTLX)
    have HMLY := hid (show w.heap.size + 1 < w2.heap.size from LTLY)
    go_simp
    have H := hid (H0.out.old (Below_drew1 (below_new' (o := .cells #[.slice none 0 0, .int .i64 0, .bool false, .slice none 0 0, .slice none 0 0] 39))))
    have HR := hid (HR0.out.old (Below_drew1 (below_new' (o := .cells #[.slice none 0 0, .int .i64 0, .bool false, .slice none 0 0, .slice none 0 0] 39))))
    have LX := hid (LX0.out.old (Below_drew1 (below_new' (o := .cells #[.slice none 0 0, .int .i64 0, .bool false, .slice none 0 0, .slice none 0 0] 39))))
    have LY := hid (LY0.out.old (Below_drew1 (below_new' (o := .cells #[.slice none 0 0, .int .i64 0, .bool false, .slice none 0 0, .slice none 0 0] 39))))
    have LR := hid (LR0.out.old (Below_drew1 (below_new' (o := .cells #[.slice none 0 0, .int .i64 0, .bool false, .slice none 0 0, .slice none 0 0] 39))))
    have CC := hid (show Below w2.heap.size w2 ((w2.alloc (.cells #[.slice none 0 0, .int .i64 0, .bool false, .slice none 0 0, .slice none 0 0] 39)).drew) from Below_drew1 below_new')
    have NZ := hid (show LocA 39 ((w2.alloc (.cells #[.slice none 0 0, .int .i64 0, .bool false, .slice none 0 0, .slice none 0 0] 39)).drew) w2.heap.size #[.slice none 0 0, .int .i64 0, .bool false, .slice none 0 0, .slice none 0 0] from LocA.new)
    have eA : ((w2.alloc (.cells #[.slice none 0 0, .int .i64 0, .bool false, .slice none 0 0, .slice none 0 0] 39)).drew).heap.size = w2.heap.size + 1 := (by show (w2.alloc (.cells #[.slice none 0 0, .int .i64 0, .bool false, .slice none 0 0, .slice none 0 0] 39)).heap.size = _; simp)
    obtain ⟨q0, q1, q2, q3, q4⟩ := LX.out.all5
    obtain ⟨q5, q6, q7⟩ := LY.out.all3
    refine hK.out _ _ ?_ (fun hHeld => ?_)
    ·first | (with_reducible exact ⟨q0, q1, q2, q3, q4, q5, q6, q7⟩) | ((try dsimp only); with_reducible exact ⟨q0, q1, q2, q3, q4, q5, q6, q7⟩) | exact ⟨q0, q1, q2, q3, q4, q5, q6, q7⟩
    try simp only [Act.put, List.setIfInBounds_toArray, List.set_cons_zero, List.set_cons_succ, List.getElem_toArray, List.getElem_cons_zero, List.getElem_cons_succ]
    refine wpAnyH_ready (rs := [3]) (by kernel_rfl) (by simp) ?_
    refine AllReadyH.cons (o := _) rfl (fun K hK => ?_) AllReadyH.nil
    go_simp
    (with_reducible refine (KT.out _ H.out HR.out).mono ?_)
    rintro e wc0 ⟨a7, n7, c7, rfl, i1, bb⟩
    have sz0 : (w2.alloc (.cells #[.slice none 0 0, .int .i64 0, .bool false, .slice none 0 0, .slice none 0 0] 39)).drew.heap.size ≤ wc0.heap.size := bb.size
    have H := hid (H.out.old bb)
    have HR := hid (HR.out.old bb)
    have LX := hid (LX.out.old bb)
    have LY := hid (LY.out.old bb)
    have LR := hid (LR.out.old bb)
    have NZ := hid (NZ.out.old bb)
    have CC := hid (CC.out.trans (bb.mono CC.out.size))
    obtain rfl := i1.num
    have I1 := hid i1
    clear i1
    obtain ⟨q0, q1, q2, q3, q4⟩ := LX.out.all5
    obtain ⟨q5, q6, q7⟩ := LY.out.all3
    clear bb
    go_wp2_with fail
    refine hK.out _ _ ?_ (fun hHeld => ?_)
    ·first | (with_reducible exact ⟨q0, q1, q2, q3, q4, q5, q6, q7⟩) | ((try dsimp only); with_reducible exact ⟨q0, q1, q2, q3, q4, q5, q6, q7⟩) | exact ⟨q0, q1, q2, q3, q4, q5, q6, q7⟩
    refine wpAnyH_ready (rs := [7]) (by kernel_rfl) (by simp) ?_
    refine AllReadyH.cons (o := _) rfl (fun K hK => ?_) AllReadyH.nil
    go_simp
    (with_reducible refine (KG.out _ HR.out).mono ?_)
    rintro e wc1 ⟨rfl, bb⟩
    have sz1 : wc0.heap.size ≤ wc1.heap.size := bb.size
    have H := hid (H.out.old bb)
    have HR := hid (HR.out.old bb)
    have LX := hid (LX.out.old bb)
    have LY := hid (LY.out.old bb)
    have LR := hid (LR.out.old bb)
    have I1 := hid (I1.out.old bb)
    have NZ := hid (NZ.out.old bb)
    have CC := hid (CC.out.trans (bb.mono CC.out.size))
    obtain ⟨q0, q1, q2, q3, q4⟩ := LX.out.all5
    obtain ⟨q5, q6, q7⟩ := LY.out.all3
    clear bb
    go_wp2_with fail
    refine hK.out _ _ ?_ (fun hHeld => ?_)
    ·first | (with_reducible exact ⟨q0, q1, q2, q3, q4, q5, q6, q7⟩) | ((try dsimp only); with_reducible exact ⟨q0, q1, q2, q3, q4, q5, q6, q7⟩) | exact ⟨q0, q1, q2, q3, q4, q5, q6, q7⟩
    refine wpAnyH_ready (rs := [8]) (by kernel_rfl) (by simp) ?_
    refine AllReadyH.cons (o := _) rfl (fun K hK => ?_) AllReadyH.nil
    go_simp
    (with_reducible refine (KP.out _).mono ?_)
    rintro e wc2 ⟨rfl, bb⟩
    have sz2 : wc1.heap.size ≤ wc2.heap.size := bb.size
    have H := hid (H.out.old bb)
    have HR := hid (HR.out.old bb)
    have LX := hid (LX.out.old bb)
    have LY := hid (LY.out.old bb)
    have LR := hid (LR.out.old bb)
    have I1 := hid (I1.out.old bb)
    have NZ := hid (NZ.out.old bb)
    have CC := hid (CC.out.trans (bb.mono CC.out.size))
    obtain ⟨q0, q1, q2, q3, q4⟩ := LX.out.all5
    obtain ⟨q5, q6, q7⟩ := LY.out.all3
    clear bb
    go_wp2_with fail
    refine hK.out _ _ ?_ (fun hHeld => ?_)
    ·first | (with_reducible exact ⟨q0, q1, q2, q3, q4, q5, q6, q7⟩) | ((try dsimp only); with_reducible exact ⟨q0, q1, q2, q3, q4, q5, q6, q7⟩) | exact ⟨q0, q1, q2, q3, q4, q5, q6, q7⟩
    refine wpAnyH_ready (rs := [12]) (by kernel_rfl) (by simp) ?_
    refine AllReadyH.cons (o := _) rfl (fun K hK => ?_) AllReadyH.nil
    go_simp
    (with_reducible refine (KM.out _ H.out HR.out).mono ?_)
    rintro e wc3 ⟨v8, u8, rfl, i1, bb⟩
    have sz3 : wc2.heap.size ≤ wc3.heap.size := bb.size
    have H := hid (H.out.old bb)
    have HR := hid (HR.out.old bb)
    have LX := hid (LX.out.old bb)
    have LY := hid (LY.out.old bb)
    have LR := hid (LR.out.old bb)
    have I1 := hid (I1.out.old bb)
    have NZ := hid (NZ.out.old bb)
    have CC := hid (CC.out.trans (bb.mono CC.out.size))
    have hn8 := True.intro
    have I2 := hid (i1)
    obtain ⟨a8, c8, b8, d8, rfl, rfl⟩ := i1.form
    clear i1
    obtain ⟨q0, q1, q2, q3, q4⟩ := LX.out.all5
    obtain ⟨q5, q6, q7⟩ := LY.out.all3
    clear bb
    go_wp2_with fail
    refine hK.out _ _ ?_ (fun hHeld => ?_)
    ·first | (with_reducible exact ⟨q0, q1, q2, q3, q4, q5, q6, q7⟩) | ((try dsimp only); with_reducible exact ⟨q0, q1, q2, q3, q4, q5, q6, q7⟩) | exact ⟨q0, q1, q2, q3, q4, q5, q6, q7⟩
    refine wpAnyH_take (i := 13) (oi := _) (v := ?_) rfl (by kernel_rfl) (by kernel_rfl) (by kernel_rfl) (fun _ _ _ h => h) (Or.inl ⟨by rfl, ?_⟩) (by assumption) ?_
    rotate_left
    ·(intro w hSw; (try dsimp only at hSw); go_simp; try (with_reducible rfl))
    try simp only [Act.put, List.setIfInBounds_toArray, List.set_cons_zero, List.set_cons_succ, List.getElem_toArray, List.getElem_cons_zero, List.getElem_cons_succ]
    refine wpAnyH_ready (rs := [15]) (by kernel_rfl) (by simp) ?_
    refine AllReadyH.cons (o := _) rfl (fun K hK => ?_) AllReadyH.nil
    have hNB := NZ.out.lt
    have hsB := CC.out.size
    have f0 := NZ.out.f 0
    have f1 := NZ.out.f 1
    have f2 := NZ.out.f 2
    have f3 := NZ.out.f 3
    have f4 := NZ.out.f 4
    have p0 := NZ.out.c 0 rfl
    have p1 := NZ.out.c 1 rfl
    have p2 := NZ.out.c 2 rfl
    have p3 := NZ.out.c 3 rfl
    have p4 := NZ.out.c 4 rfl
    go_simp
    (try go_wp2_with fail)
    skip
    skip
    refine hK.out _ _ ?_ (fun hHeld => ?_)
    ·with_reducible exact ⟨(cell_set5 (Nat.ne_of_lt HMLX.out)).trans q0, (cell_set5 (Nat.ne_of_lt HMLX.out)).trans q1, (cell_set5 (Nat.ne_of_lt HMLX.out)).trans q2, (cell_set5 (Nat.ne_of_lt HMLX.out)).trans q3, (cell_set5 (Nat.ne_of_lt HMLX.out)).trans q4, (cell_set5 (Nat.ne_of_lt HMLY.out)).trans q5, (cell_set5 (Nat.ne_of_lt HMLY.out)).trans q6, (cell_set5 (Nat.ne_of_lt HMLY.out)).trans q7⟩
    refine wpAnyH_done (by kernel_rfl) ?_ _
    go_wp2_with fail
    go_meet
    exact LaidG_b NZ.out I1.out I2.out (fun h => by cases h) (by omega) (by omega) (by omega) (by omega) (by omega) (by omega) (by omega) (by omega) CC.out
  case rest =>
   generalize wc = w5 at hcut ⊢
   obtain ⟨g5, a5, c5, b5, d5, e5, f5, lo5, m51, m52, hi5, rfl, hL, hT, hRo, hn, ⟨k0, k1, k2, k3, k4, k5, k6, k7, k8⟩, b1⟩ := hcut
   clear q0 q1 q2 q3 q4 y0 y1 y2
   have t5 : w2.heap.size ≤ w5.heap.size := b1.size
   have H := hid (H.out.old b1)
   have HR := hid (HR.out.old b1)
   have LX := hid (LX.out.old b1)
   have LY := hid (LY.out.old b1)
   have LR := hid (LR.out.old b1)
   have B := hid (B.out.trans (b1.mono B.out.size))
   have LS := hid hL
   have IT := hid hT
   have IR := hid hRo
   have HNN := hid hn
   clear hL hT hRo hn b1
   by_cases hl : K1.length = T0.length
   case neg =>
    have u1 : ((K1.length : Int) != (T0.length : Int)) = true := bne_iff_ne.2 (by omega)
    have hN := show R = Rq0 from by rw [HRR.out]; exact scaleR_bad (by rw [HK1.out, decide_eq_false hl]; rfl)
    subst hN
    obtain ⟨q0, q1, q2, q3, q4⟩ := LX.out.all5
    obtain ⟨y0, y1, y2, y3, y4⟩ := LS.out.all5
    have f0 := LR.out.f 0
    have f1 := LR.out.f 1
    have f2 := LR.out.f 2
    have f3 := LR.out.f 3
    have f4 := LR.out.f 4
    have p0 := LR.out.c 0 rfl
    have p1 := LR.out.c 1 rfl
    have p2 := LR.out.c 2 rfl
    have p3 := LR.out.c 3 rfl
    have p4 := LR.out.c 4 rfl
    have RR := hid (RowRW_zero (N := w.heap.size + 1 + 1) (by omega) (by omega) B.out)
    go_wp2
    exact bodyPost_ret (v := .agg #[.slice none 0 0, .int .i64 0, .bool false, .slice none 0 0, .slice none 0 0]) (by simp [results, Tryz.results29, go_sem, p0, p1, p2, p3, p4]) rfl RR.out
   have u1 : ((K1.length : Int) != (T0.length : Int)) = false := bne_eq_false_iff_eq.2 (by omega)
   have HL := hid hl
   clear hl
   cases hq : oR.isSome with
   |false =>
    rw [hq] at KK'
    have hN := show R = Rq0 from by rw [HRR.out]; exact scaleR_bad (by rw [HOR.out, hq, Bool.and_false])
    subst hN
    obtain ⟨q0, q1, q2, q3, q4⟩ := LX.out.all5
    obtain ⟨y0, y1, y2, y3, y4⟩ := LS.out.all5
    go_wp2_with fail
    (with_reducible refine (KK'.out _ _ _ _ _ IR.out).mono ?_)
    clear q0 q1 q2 q3 q4 y0 y1 y2 y3 y4
    rintro e w6 ⟨rfl, b1⟩
    have t6 : w5.heap.size ≤ w6.heap.size := b1.size
    have H := hid (H.out.old b1)
    have HR := hid (HR.out.old b1)
    have LX := hid (LX.out.old b1)
    have LY := hid (LY.out.old b1)
    have LR := hid (LR.out.old b1)
    have LS := hid (LS.out.old b1)
    have B := hid (B.out.trans (b1.mono B.out.size))
    have IT := hid (IT.out.old b1)
    have IR := hid (IR.out.old b1)
    clear b1
    obtain ⟨q0, q1, q2, q3, q4⟩ := LX.out.all5
    obtain ⟨y0, y1, y2, y3, y4⟩ := LS.out.all5
    have f0 := LR.out.f 0
    have f1 := LR.out.f 1
    have f2 := LR.out.f 2
    have f3 := LR.out.f 3
    have f4 := LR.out.f 4
    have p0 := LR.out.c 0 rfl
    have p1 := LR.out.c 1 rfl
    have p2 := LR.out.c 2 rfl
    have p3 := LR.out.c 3 rfl
    have p4 := LR.out.c 4 rfl
    have RR := hid (RowRW_zero (N := w.heap.size + 1 + 1) (by omega) (by omega) B.out)
    go_wp2
    exact bodyPost_ret (v := .agg #[.slice none 0 0, .int .i64 0, .bool false, .slice none 0 0, .slice none 0 0]) (by simp [results, Tryz.results29, go_sem, p0, p1, p2, p3, p4]) rfl RR.out
   |true =>
    rw [hq] at KK'
    have hY := show R = ⟨K1, sx, gs, GA, GD⟩ from by rw [HRR.out, scaleR_yes HNZ.out (by rw [HK1.out, HOR.out, decide_eq_true HL.out, hq]; rfl), HK1.out, HOR.out, HZ.out, HG.out.1, HG.out.2.1, HG.out.2.2, HSX.out]
    subst hY
    obtain ⟨q0, q1, q2, q3, q4⟩ := LX.out.all5
    obtain ⟨y0, y1, y2, y3, y4⟩ := LS.out.all5
    go_wp2_with fail
    (with_reducible refine (KK'.out _ _ _ _ _ IR.out).mono ?_)
    clear q0 q1 q2 q3 q4 y0 y1 y2 y3 y4
    rintro e w6 ⟨rfl, b1⟩
    have t6 : w5.heap.size ≤ w6.heap.size := b1.size
    have H := hid (H.out.old b1)
    have HR := hid (HR.out.old b1)
    have LX := hid (LX.out.old b1)
    have LY := hid (LY.out.old b1)
    have LR := hid (LR.out.old b1)
    have LS := hid (LS.out.old b1)
    have B := hid (B.out.trans (b1.mono B.out.size))
    have IT := hid (IT.out.old b1)
    have IR := hid (IR.out.old b1)
    clear b1
    obtain ⟨q0, q1, q2, q3, q4⟩ := LX.out.all5
    obtain ⟨y0, y1, y2, y3, y4⟩ := LS.out.all5
    have f0 := LR.out.f 0
    have f1 := LR.out.f 1
    have f2 := LR.out.f 2
    have f3 := LR.out.f 3
    have f4 := LR.out.f 4
    have p0 := LR.out.c 0 rfl
    have p1 := LR.out.c 1 rfl
    have p2 := LR.out.c 2 rfl
    have p3 := LR.out.c 3 rfl
    have p4 := LR.out.c 4 rfl
    have RR := hid (RowRW_fin (x := sx) (s := gs) (N := w.heap.size + 1 + 1) IT.out IR.out (by omega) (by omega) k1 k2 k3 (by omega) B.out)
    go_wp2
    exact bodyPost_ret (v := .agg #[.slice a5 K1.length c5, .int .i64 sx, .bool gs, .slice b5 GA.length d5, .slice e5 GD.length f5]) (by simp [results, Tryz.results29, go_sem, p0, p1, p2, p3, p4]) rfl RR.out
end Go.Proofs.YthkehmnodcmlcaaGreat
