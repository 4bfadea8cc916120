import Derived.Test.YthkehmnodcmlcaaGreatRwiP
import Derived.Test.YthkehmnodcmlcaaGreatTsiP
import Derived.Test.YthkehmnodcmlcaaGreatTssP
import Derived.Deep.RegionLaw
import Derived.Deep.RegionHeld3
import Derived.Deep.DeepCutAuto
set_option maxRecDepth 100000
set_option maxHeartbeats 25600000
set_option linter.unusedVariables false
set_option linter.unusedSimpArgs false
namespace Go.Proofs.YthkehmnodcmlcaaGreat
open Go.RowKit
open Go.Lib (hid)
theorem impl_RowNegate {t v u : Value} {T0 : List Tq} {A D : List Int} (x : Int) (s : Bool) (hK : SmT T0) (la : A.length ≤ 1048576) (ld : D.length ≤ 1048576) (w : World) (h : RwW w t v u T0 A D) :
  Calls Tryz.prog 34 #[.agg #[t, .int .i64 x, .bool s, v, u]] w (RowRM (scaleR T0 x s A D (some ((-1 : Int) : Rat))).K (scaleR T0 x s A D (some ((-1 : Int) : Rat))).x (scaleR T0 x s A D (some ((-1 : Int) : Rat))).s (scaleR T0 x s A D (some ((-1 : Int) : Rat))).A (scaleR T0 x s A D (some ((-1 : Int) : Rat))).D w) := by
 obtain ⟨a1, c1, b1, d1, e1, f1, rfl, rfl, rfl⟩ := h.form
 have B := hid (below_new2 (w := w) (o := .cells #[.slice a1 T0.length c1, .int .i64 x, .bool s, .slice b1 A.length d1, .slice e1 D.length f1] 39) (o' := .cells #[.slice none 0 0, .int .i64 0, .bool false, .slice none 0 0, .slice none 0 0] 39))
 have LX := hid ((LocA.at (T := 39) (w := w) (b := w.heap.size) (cs := #[.slice a1 T0.length c1, .int .i64 x, .bool s, .slice b1 A.length d1, .slice e1 D.length f1]) rfl).new1 (o := .cells #[.slice none 0 0, .int .i64 0, .bool false, .slice none 0 0, .slice none 0 0] 39))
 have LR := hid (LocA.at (T := 39) (w := w.alloc (.cells #[.slice a1 T0.length c1, .int .i64 x, .bool s, .slice b1 A.length d1, .slice e1 D.length f1] 39)) (b := w.heap.size + 1) (cs := #[.slice none 0 0, .int .i64 0, .bool false, .slice none 0 0, .slice none 0 0]) (by simp))
 have H := hid (h.old B.out)
 have hsW := hid (show ((w.alloc (.cells #[.slice a1 T0.length c1, .int .i64 x, .bool s, .slice b1 A.length d1, .slice e1 D.length f1] 39)).alloc (.cells #[.slice none 0 0, .int .i64 0, .bool false, .slice none 0 0, .slice none 0 0] 39)).heap.size = w.heap.size + 1 + 1 by simp)
 clear h
 have KI := hid (fun (W : World) => int_o (-1) (by decide) (by decide) W)
 have KS := hid (fun (W : World) (sa : Bool) (aa : Option Addr) (na ca : Nat) (ba : Option Addr) (ma da : Nat) (g : RwW W (.slice a1 T0.length c1) (.slice b1 A.length d1) (.slice e1 D.length f1) T0 A D) (g' : RA W sa (.slice aa na ca) (.slice ba ma da) (some ((-1 : Int) : Rat))) => impl_RowScale x s sa hK la ld W g g')
 obtain ⟨R, hR⟩ : ∃ R, R = scaleR T0 x s A D (some ((-1 : Int) : Rat)) := ⟨_, rfl⟩
 rw [← hR] at KS ⊢
 clear hR
 obtain ⟨R1, R2, R3, R4, R5⟩ := R
 dsimp only at KS ⊢
 generalize hW : (w.alloc (.cells #[.slice a1 T0.length c1, .int .i64 x, .bool s, .slice b1 A.length d1, .slice e1 D.length f1] 39)).alloc (.cells #[.slice none 0 0, .int .i64 0, .bool false, .slice none 0 0, .slice none 0 0] 39) = W0 at B LX LR H hsW
 have HW := hid hW
 clear hW
 have hsW' := hsW.out
 have LTX := LX.out.lt
 have H := hid (H.out.old (Below_drew1 (Below.refl _ _)))
 have LX := hid (LX.out.old (Below_drew1 (Below.refl _ _)))
 have LR := hid (LR.out.old (Below_drew1 (Below.refl _ _)))
 have B := hid (Below_drew1 B.out)
 have eD : W0.drew.heap.size = W0.heap.size := rfl
 obtain ⟨q0, q1, q2, q3, q4⟩ := LX.out.all5
 go_enter Tryz.func34, Tryz.ntmps34
 go_wp2_with fail
 rw [HW.out]
 refine wp_region_held_drew (S := (fun w' => w'.cell? ⟨w.heap.size, 0, none⟩ = some (.slice a1 T0.length c1) ∧ w'.cell? ⟨w.heap.size, 1, none⟩ = some (.int .i64 x) ∧ w'.cell? ⟨w.heap.size, 2, none⟩ = some (.bool s) ∧ w'.cell? ⟨w.heap.size, 3, none⟩ = some (.slice b1 A.length d1) ∧ w'.cell? ⟨w.heap.size, 4, none⟩ = some (.slice e1 D.length f1))) (by kernel_rfl) (by first | (with_reducible exact ⟨q0, q1, q2, q3, q4⟩) | ((try dsimp only); with_reducible exact ⟨q0, q1, q2, q3, q4⟩)) (fun hHeld => ?_)
 refine wpAnyH_take (i := 0) (oi := _) (v := ?_) rfl (by kernel_rfl) (by kernel_rfl) (by kernel_rfl) (fun _ _ _ h => h) (Or.inl ⟨by rfl, ?_⟩) (by assumption) ?_
 rotate_left
 ·(intro w hSw; (try dsimp only at hSw); go_simp; try (with_reducible rfl))
 try simp only [Act.put, List.setIfInBounds_toArray, List.set_cons_zero, List.set_cons_succ, List.getElem_toArray, List.getElem_cons_zero]
 refine wpAnyH_ready (rs := [1]) (by kernel_rfl) (by simp) ?_
 refine AllReadyH.cons (o := _) rfl (fun KK hK => ?_) AllReadyH.nil
 go_simp
 (with_reducible refine (KI.out _).mono ?_)
 rintro e wc0 ⟨sa, aa, na, ca, ba, ma, da, rfl, ro, bb⟩
 have sz0 := bb.size
 have H := hid (H.out.old bb)
 have LX := hid (LX.out.old bb)
 have LR := hid (LR.out.old bb)
 have B := hid (B.out.trans (bb.mono B.out.size))
 have RX := hid ro.ra
 obtain ⟨q0, q1, q2, q3, q4⟩ := LX.out.all5
 clear ro bb
 go_wp2_with fail
 refine hK.out _ _ ?_ (fun hHeld => ?_)
 ·first | (with_reducible exact ⟨q0, q1, q2, q3, q4⟩) | ((try dsimp only); with_reducible exact ⟨q0, q1, q2, q3, q4⟩)
 refine wpAnyH_ready (rs := [2]) (by kernel_rfl) (by simp) ?_
 refine AllReadyH.cons (o := _) rfl (fun KK hK => ?_) AllReadyH.nil
 go_simp
 (with_reducible refine (KS.out _ _ _ _ _ _ _ _ H.out RX.out).mono ?_)
 rintro e wc1 ⟨a5, c5, b5, d5, g5, f5, m5, rfl, i1, bb⟩
 have sz1 := bb.size
 have H := hid (H.out.old bb)
 have LX := hid (LX.out.old bb)
 have LR := hid (LR.out.old bb)
 have B := hid (B.out.trans (bb.mono B.out.size))
 have I1 := hid i1
 obtain ⟨q0, q1, q2, q3, q4⟩ := LX.out.all5
 clear i1 bb
 go_wp2_with fail
 refine hK.out _ _ ?_ (fun hHeld => ?_)
 ·first | (with_reducible exact ⟨q0, q1, q2, q3, q4⟩) | ((try dsimp only); with_reducible exact ⟨q0, q1, q2, q3, q4⟩)
 refine wpAnyH_ready (rs := [3]) (by kernel_rfl) (by simp) ?_
 refine AllReadyH.cons (o := _) rfl (fun KK hK => ?_) AllReadyH.nil
 have f0 := LR.out.f 0
 have f1 := LR.out.f 1
 have f2 := LR.out.f 2
 have f3 := LR.out.f 3
 have f4 := LR.out.f 4
 have p0 := LR.out.c 0 rfl
 have p1 := LR.out.c 1 rfl
 have p2 := LR.out.c 2 rfl
 have p3 := LR.out.c 3 rfl
 have p4 := LR.out.c 4 rfl
 have hl5 := I1.out.l
 have hh5 := I1.out.h
 have RR := hid (RowRM_fin (x := R2) (s := R3) (N := w.heap.size + 1) I1.out.t I1.out.r.w I1.out.r.ne (Nat.le_succ _) (by omega) hl5 (Nat.le_refl _) hh5 (Nat.le_refl _) B.out)
 go_simp
 (try go_wp2_with fail)
 refine hK.out _ _ ?_ (fun hHeld => ?_)
 ·with_reducible exact ⟨(cell_set5 (Nat.ne_of_lt (Nat.lt_succ_self _))).trans q0, (cell_set5 (Nat.ne_of_lt (Nat.lt_succ_self _))).trans q1, (cell_set5 (Nat.ne_of_lt (Nat.lt_succ_self _))).trans q2, (cell_set5 (Nat.ne_of_lt (Nat.lt_succ_self _))).trans q3, (cell_set5 (Nat.ne_of_lt (Nat.lt_succ_self _))).trans q4⟩
 refine wpAnyH_done (by kernel_rfl) ?_ _
 go_wp2
 exact bodyPost_ret (v := .agg #[.slice a5 R1.length c5, .int .i64 R2, .bool R3, .slice b5 R4.length d5, .slice g5 R5.length f5]) (by simp [results, Tryz.results34, go_sem, p0, p1, p2, p3, p4]) rfl RR.out
theorem spec_RowNegate {t v u : Value} {T0 : List Tq} {A D : List Int} (x : Int) (s : Bool) (hK : SmT T0) (la : A.length ≤ 1048576) (ld : D.length ≤ 1048576) (w : World) (h : RwW w t v u T0 A D) :
  Calls Tryz.prog 33 #[.agg #[t, .int .i64 x, .bool s, v, u]] w (RowRW (scaleR T0 x s A D (some ((-1 : Int) : Rat))).K (scaleR T0 x s A D (some ((-1 : Int) : Rat))).x (scaleR T0 x s A D (some ((-1 : Int) : Rat))).s (scaleR T0 x s A D (some ((-1 : Int) : Rat))).A (scaleR T0 x s A D (some ((-1 : Int) : Rat))).D w) := by
 obtain ⟨a1, c1, b1, d1, e1, f1, rfl, rfl, rfl⟩ := h.form
 have B := hid (below_new2 (w := w) (o := .cells #[.slice a1 T0.length c1, .int .i64 x, .bool s, .slice b1 A.length d1, .slice e1 D.length f1] 39) (o' := .cells #[.slice none 0 0, .int .i64 0, .bool false, .slice none 0 0, .slice none 0 0] 39))
 have LX := hid ((LocA.at (T := 39) (w := w) (b := w.heap.size) (cs := #[.slice a1 T0.length c1, .int .i64 x, .bool s, .slice b1 A.length d1, .slice e1 D.length f1]) rfl).new1 (o := .cells #[.slice none 0 0, .int .i64 0, .bool false, .slice none 0 0, .slice none 0 0] 39))
 have LR := hid (LocA.at (T := 39) (w := w.alloc (.cells #[.slice a1 T0.length c1, .int .i64 x, .bool s, .slice b1 A.length d1, .slice e1 D.length f1] 39)) (b := w.heap.size + 1) (cs := #[.slice none 0 0, .int .i64 0, .bool false, .slice none 0 0, .slice none 0 0]) (by simp))
 have H := hid (h.old B.out)
 have hsW := hid (show ((w.alloc (.cells #[.slice a1 T0.length c1, .int .i64 x, .bool s, .slice b1 A.length d1, .slice e1 D.length f1] 39)).alloc (.cells #[.slice none 0 0, .int .i64 0, .bool false, .slice none 0 0, .slice none 0 0] 39)).heap.size = w.heap.size + 1 + 1 by simp)
 clear h
 have KI := hid (fun (W : World) => sint_o (-1) (by decide) (by decide) W)
 have KS := hid (fun (W : World) (sa : Bool) (aa : Option Addr) (na ca : Nat) (ba : Option Addr) (ma da : Nat) (g : RwW W (.slice a1 T0.length c1) (.slice b1 A.length d1) (.slice e1 D.length f1) T0 A D) (g' : RA W sa (.slice aa na ca) (.slice ba ma da) (some ((-1 : Int) : Rat))) => spec_RowScale x s sa hK la ld W g g')
 obtain ⟨R, hR⟩ : ∃ R, R = scaleR T0 x s A D (some ((-1 : Int) : Rat)) := ⟨_, rfl⟩
 rw [← hR] at KS ⊢
 clear hR
 obtain ⟨R1, R2, R3, R4, R5⟩ := R
 dsimp only at KS ⊢
 generalize hW : (w.alloc (.cells #[.slice a1 T0.length c1, .int .i64 x, .bool s, .slice b1 A.length d1, .slice e1 D.length f1] 39)).alloc (.cells #[.slice none 0 0, .int .i64 0, .bool false, .slice none 0 0, .slice none 0 0] 39) = W0 at B LX LR H hsW
 have HW := hid hW
 clear hW
 have hsW' := hsW.out
 have LTX := LX.out.lt
 have H := hid (H.out.old (Below_drew1 (Below.refl _ _)))
 have LX := hid (LX.out.old (Below_drew1 (Below.refl _ _)))
 have LR := hid (LR.out.old (Below_drew1 (Below.refl _ _)))
 have B := hid (Below_drew1 B.out)
 have eD : W0.drew.heap.size = W0.heap.size := rfl
 obtain ⟨q0, q1, q2, q3, q4⟩ := LX.out.all5
 go_enter Tryz.func33, Tryz.ntmps33
 go_wp2_with fail
 rw [HW.out]
 refine wp_region_held_drew (S := (fun w' => w'.cell? ⟨w.heap.size, 0, none⟩ = some (.slice a1 T0.length c1) ∧ w'.cell? ⟨w.heap.size, 1, none⟩ = some (.int .i64 x) ∧ w'.cell? ⟨w.heap.size, 2, none⟩ = some (.bool s) ∧ w'.cell? ⟨w.heap.size, 3, none⟩ = some (.slice b1 A.length d1) ∧ w'.cell? ⟨w.heap.size, 4, none⟩ = some (.slice e1 D.length f1))) (by kernel_rfl) (by first | (with_reducible exact ⟨q0, q1, q2, q3, q4⟩) | ((try dsimp only); with_reducible exact ⟨q0, q1, q2, q3, q4⟩)) (fun hHeld => ?_)
 refine wpAnyH_take (i := 0) (oi := _) (v := ?_) rfl (by kernel_rfl) (by kernel_rfl) (by kernel_rfl) (fun _ _ _ h => h) (Or.inl ⟨by rfl, ?_⟩) (by assumption) ?_
 rotate_left
 ·(intro w hSw; (try dsimp only at hSw); go_simp; try (with_reducible rfl))
 try simp only [Act.put, List.setIfInBounds_toArray, List.set_cons_zero, List.set_cons_succ, List.getElem_toArray, List.getElem_cons_zero]
 refine wpAnyH_ready (rs := [1]) (by kernel_rfl) (by simp) ?_
 refine AllReadyH.cons (o := _) rfl (fun KK hK => ?_) AllReadyH.nil
 go_simp
 (with_reducible refine (KI.out _).mono ?_)
 rintro e wc0 ⟨sa, aa, na, ca, ba, ma, da, rfl, ro, bb⟩
 have sz0 := bb.size
 have H := hid (H.out.old bb)
 have LX := hid (LX.out.old bb)
 have LR := hid (LR.out.old bb)
 have B := hid (B.out.trans (bb.mono B.out.size))
 have RX := hid ro.ra
 obtain ⟨q0, q1, q2, q3, q4⟩ := LX.out.all5
 clear ro bb
 go_wp2_with fail
 refine hK.out _ _ ?_ (fun hHeld => ?_)
 ·first | (with_reducible exact ⟨q0, q1, q2, q3, q4⟩) | ((try dsimp only); with_reducible exact ⟨q0, q1, q2, q3, q4⟩)
 refine wpAnyH_ready (rs := [2]) (by kernel_rfl) (by simp) ?_
 refine AllReadyH.cons (o := _) rfl (fun KK hK => ?_) AllReadyH.nil
 go_simp
 (with_reducible refine (KS.out _ _ _ _ _ _ _ _ H.out RX.out).mono ?_)
 rintro e wc1 ⟨a5, c5, b5, d5, g5, f5, m5, rfl, i1, bb⟩
 have sz1 := bb.size
 have H := hid (H.out.old bb)
 have LX := hid (LX.out.old bb)
 have LR := hid (LR.out.old bb)
 have B := hid (B.out.trans (bb.mono B.out.size))
 have I1 := hid i1
 obtain ⟨q0, q1, q2, q3, q4⟩ := LX.out.all5
 clear i1 bb
 go_wp2_with fail
 refine hK.out _ _ ?_ (fun hHeld => ?_)
 ·first | (with_reducible exact ⟨q0, q1, q2, q3, q4⟩) | ((try dsimp only); with_reducible exact ⟨q0, q1, q2, q3, q4⟩)
 refine wpAnyH_ready (rs := [3]) (by kernel_rfl) (by simp) ?_
 refine AllReadyH.cons (o := _) rfl (fun KK hK => ?_) AllReadyH.nil
 have f0 := LR.out.f 0
 have f1 := LR.out.f 1
 have f2 := LR.out.f 2
 have f3 := LR.out.f 3
 have f4 := LR.out.f 4
 have p0 := LR.out.c 0 rfl
 have p1 := LR.out.c 1 rfl
 have p2 := LR.out.c 2 rfl
 have p3 := LR.out.c 3 rfl
 have p4 := LR.out.c 4 rfl
 have hl5 := I1.out.l
 have hh5 := I1.out.h
 have RR := hid (RowRW_fin (x := R2) (s := R3) (N := w.heap.size + 1) I1.out.t I1.out.r (Nat.le_succ _) (by omega) hl5 (Nat.le_refl _) hh5 (Nat.le_refl _) B.out)
 go_simp
 (try go_wp2_with fail)
 refine hK.out _ _ ?_ (fun hHeld => ?_)
 ·with_reducible exact ⟨(cell_set5 (Nat.ne_of_lt (Nat.lt_succ_self _))).trans q0, (cell_set5 (Nat.ne_of_lt (Nat.lt_succ_self _))).trans q1, (cell_set5 (Nat.ne_of_lt (Nat.lt_succ_self _))).trans q2, (cell_set5 (Nat.ne_of_lt (Nat.lt_succ_self _))).trans q3, (cell_set5 (Nat.ne_of_lt (Nat.lt_succ_self _))).trans q4⟩
 refine wpAnyH_done (by kernel_rfl) ?_ _
 go_wp2
 exact bodyPost_ret (v := .agg #[.slice a5 R1.length c5, .int .i64 R2, .bool R3, .slice b5 R4.length d5, .slice g5 R5.length f5]) (by simp [results, Tryz.results33, go_sem, p0, p1, p2, p3, p4]) rfl RR.out
end Go.Proofs.YthkehmnodcmlcaaGreat
