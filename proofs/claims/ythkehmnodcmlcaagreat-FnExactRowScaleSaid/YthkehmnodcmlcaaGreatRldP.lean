import Derived.Test.YthkehmnodcmlcaaGreatRwnP
import Derived.Test.YthkehmnodcmlcaaGreatRlzP
import Derived.Deep.RegionHeld3
import Derived.Deep.DeepCutAuto
set_option maxRecDepth 100000
set_option maxHeartbeats 25600000
set_option linter.unusedVariables false
set_option linter.unusedSimpArgs false
namespace Go.Proofs.YthkehmnodcmlcaaGreat
open Go.RowKit
open Go.Lib (hid)
theorem law_RowScale (a : Option Addr) (n c : Nat) (K : List Tq) (x : Int) (s : Bool) (b : Option Addr) (m d : Nat) (A : List Int) (e : Option Addr) (k f : Nat) (D : List Int) (hnK : n ≤ maxLen) (hmK : ∀ f ∈ K, f.A.length ≤ maxLen ∧ f.D.length ≤ maxLen) (hAK : m ≤ maxLen) (hDK : k ≤ maxLen) (t : Bool) (b' : Option Addr) (m' d' : Nat) (A' : List Int) (e' : Option Addr) (k' f' : Nat) (D' : List Int) (hAL : m' ≤ maxLen) (hDL : k' ≤ maxLen) (w : World) (rK : WCame w w.heap.size a n K b m A e k D) (rLA : RowI w b' m' A') (rLD : RowI w e' k' D') :
  Calls Tryz.prog 5 #[.agg #[.slice a n c, .int .i64 x, .bool s, .slice b m d, .slice e k f], .agg #[.bool t, .slice b' m' d', .slice e' k' f']] w (RetB (.bool true) w) := by
 obtain rfl := rK.r.x.1
 obtain rfl := rK.r.y.1
 have rL := CameR.mk (Came.of rLA) (Came.of rLD)
 obtain rfl := rLA.1
 obtain rfl := rLD.1
 clear rLA rLD
 have BW := below_new2 (w := w) (o := .cells #[.slice a n c, .int .i64 x, .bool s, .slice b A.length d, .slice e D.length f] 29) (o' := .cells #[.bool t, .slice b' A'.length d', .slice e' D'.length f'] 27)
 have B := hid BW
 have rK := hid (rK.old BW)
 have rL := hid (rL.old BW)
 have LK := hid ((LocA.at (T := 29) (w := w) (b := w.heap.size) (cs := #[.slice a n c, .int .i64 x, .bool s, .slice b A.length d, .slice e D.length f]) rfl).new1 (o := .cells #[.bool t, .slice b' A'.length d', .slice e' D'.length f'] 27))
 have LL := hid (LocA.at (T := 27) (w := w.alloc (.cells #[.slice a n c, .int .i64 x, .bool s, .slice b A.length d, .slice e D.length f] 29)) (b := w.heap.size + 1) (cs := #[.bool t, .slice b' A'.length d', .slice e' D'.length f']) (by simp))
 have hs0 : ((w.alloc (.cells #[.slice a n c, .int .i64 x, .bool s, .slice b A.length d, .slice e D.length f] 29)).alloc (.cells #[.bool t, .slice b' A'.length d', .slice e' D'.length f'] 27)).heap.size = w.heap.size + 1 + 1 := by simp
 clear BW
 generalize hW : (w.alloc (.cells #[.slice a n c, .int .i64 x, .bool s, .slice b A.length d, .slice e D.length f] 29)).alloc (.cells #[.bool t, .slice b' A'.length d', .slice e' D'.length f'] 27) = w0 at B rK rL LK LL hs0
 have HW := hid hW
 clear hW
 by_cases hsK : (szU K : Int) + (A.length : Int) + (D.length : Int) ≤ 1048576
 case neg =>
  go_enter Tryz.func5, Tryz.ntmps5
  obtain ⟨q0, q1, q2, q3, q4⟩ := LK.out.all5
  go_wp2_with fail
  rw [HW.out]
  (with_reducible refine (szRow_no _ _ _ x s _ _ _ _ _ _ _ K (1048576) hnK hmK hAK hDK (by omega) (by omega) (by omega) _ rK.out.t).mono ?_)
  clear q0 q1 q2 q3 q4
  rintro e w1 ⟨rfl, b1⟩
  have t1 : w0.heap.size ≤ w1.heap.size := by have := b1.size; omega
  have rK := hid (rK.out.old b1)
  have rL := hid (rL.out.old b1)
  have LK := hid (LK.out.old b1)
  have LL := hid (LL.out.old b1)
  have B := hid (B.out.trans (b1.mono B.out.size))
  clear b1
  go_wp2
  go_ret
  exact ⟨rfl, B.out⟩
 by_cases hsL : (A'.length : Int) + (D'.length : Int) ≤ 1048576 - (szU K : Int) - (A.length : Int) - (D.length : Int)
 case neg =>
  go_enter Tryz.func5, Tryz.ntmps5
  obtain ⟨q0, q1, q2, q3, q4⟩ := LK.out.all5
  go_wp2_with fail
  rw [HW.out]
  (with_reducible refine (szRow_yes _ _ _ x s _ _ _ _ _ _ _ K (1048576) (by omega) (by omega) _ rK.out.t).mono ?_)
  clear q0 q1 q2 q3 q4
  rintro e w1 ⟨rfl, b1⟩
  have t1 : w0.heap.size ≤ w1.heap.size := by have := b1.size; omega
  have rK := hid (rK.out.old b1)
  have rL := hid (rL.out.old b1)
  have LK := hid (LK.out.old b1)
  have LL := hid (LL.out.old b1)
  have B := hid (B.out.trans (b1.mono B.out.size))
  clear b1
  obtain ⟨q0, q1, q2⟩ := LL.out.all3
  go_wp2_with fail
  (with_reducible refine (szRat_no t _ _ _ _ _ _ (1048576 - (szU K : Int) - (A.length : Int) - (D.length : Int)) hAL hDL (by omega) (by omega) (by omega) _).mono ?_)
  clear q0 q1 q2
  rintro e w2 ⟨rfl, b1⟩
  have t2 : w1.heap.size ≤ w2.heap.size := by have := b1.size; omega
  have rK := hid (rK.out.old b1)
  have rL := hid (rL.out.old b1)
  have LK := hid (LK.out.old b1)
  have LL := hid (LL.out.old b1)
  have B := hid (B.out.trans (b1.mono B.out.size))
  clear b1
  go_wp2
  go_ret
  exact ⟨rfl, B.out⟩
 have hztK := szT_szU K
 have hSK : SmT K := SmT.of (by omega)
 have huK : szU K ≤ 1048576 := by omega
 have htK : szT K ≤ 2097152 := by omega
 have haK : A.length ≤ 1048576 := by omega
 have hdK : D.length ≤ 1048576 := by omega
 have haL : A'.length ≤ 1048576 := by omega
 have hdL : D'.length ≤ 1048576 := by omega
 have hy0 : ¬ 1048576 - (szU K : Int) - (A.length : Int) - (D.length : Int) < 0 := by omega
 have hy1 : ¬ 1048576 - (szU K : Int) - (A.length : Int) - (D.length : Int) - (A'.length : Int) - (D'.length : Int) < 0 := by omega
 obtain ⟨RT, rx, rs, R1, R2, hrt, l1, l2, KS0, KI0⟩ : ∃ RT rx rs R1 R2, szT RT ≤ 2000 ∧ R1.length ≤ 24 ∧ R2.length ≤ 24 ∧ (∀ (W : World) (t0 v0 u0 : Value) (g0 : RwW W t0 v0 u0 K A D) (v1 u1 : Value) (l1 h1 : Nat) (g1 : ROb W v1 u1 A' D' l1 h1), Calls Tryz.prog 29 #[.agg #[t0, .int .i64 x, .bool s, v0, u0], .agg #[.bool t, v1, u1]] W (RowRW RT rx rs R1 R2 W)) ∧ (∀ (W : World) (t0 v0 u0 : Value) (g0 : RwW W t0 v0 u0 K A D) (v1 u1 : Value) (l1 h1 : Nat) (g1 : ROb W v1 u1 A' D' l1 h1), Calls Tryz.prog 31 #[.agg #[t0, .int .i64 x, .bool s, v0, u0], .agg #[.bool t, v1, u1]] W (RowRM RT rx rs R1 R2 W)) := ⟨_, _, _, _, _, (scaleR_sz K x s A D (rval t A' D')).1, (scaleR_sz K x s A D (rval t A' D')).2.1, (scaleR_sz K x s A D (rval t A' D')).2.2, fun W t0 v0 u0 g0 v1 u1 l1 h1 g1 => spec_RowScale x s t hSK haK hdK W g0 ⟨_, _, g1.rl haL hdL, rfl⟩, fun W t0 v0 u0 g0 v1 u1 l1 h1 g1 => impl_RowScale x s t hSK haK hdK W g0 ⟨_, _, g1.rl haL hdL, rfl⟩⟩
 have KS := hid KS0
 have KI := hid KI0
 clear KS0 KI0
 go_enter Tryz.func5, Tryz.ntmps5
 obtain ⟨q0, q1, q2, q3, q4⟩ := LK.out.all5
 go_wp2_with fail
 rw [HW.out]
 (with_reducible refine (szRow_yes _ _ _ x s _ _ _ _ _ _ _ K (1048576) (by omega) (by omega) _ rK.out.t).mono ?_)
 clear q0 q1 q2 q3 q4
 rintro e w1 ⟨rfl, b1⟩
 have t1 : w0.heap.size ≤ w1.heap.size := by have := b1.size; omega
 have rK := hid (rK.out.old b1)
 have rL := hid (rL.out.old b1)
 have LK := hid (LK.out.old b1)
 have LL := hid (LL.out.old b1)
 have B := hid (B.out.trans (b1.mono B.out.size))
 clear b1
 obtain ⟨q0, q1, q2⟩ := LL.out.all3
 go_wp2_with fail
 (with_reducible refine (szRat_yes t _ _ _ _ _ _ (1048576 - (szU K : Int) - (A.length : Int) - (D.length : Int)) (by omega) (by omega) _).mono ?_)
 clear q0 q1 q2
 rintro e w2 ⟨rfl, b1⟩
 have t2 : w1.heap.size ≤ w2.heap.size := by have := b1.size; omega
 have rK := hid (rK.out.old b1)
 have rL := hid (rL.out.old b1)
 have LK := hid (LK.out.old b1)
 have LL := hid (LL.out.old b1)
 have B := hid (B.out.trans (b1.mono B.out.size))
 clear b1
 go_upto_region 8 with fail
 go_cut [6] (fun sl wx => LaidG false w2 RT rx rs R1 R2 sl wx)
 case first =>
  have rK0 := rK
  have rK := hid (rK0.out.old (Below_drew1 (Below.refl _ _)))
  have rL0 := rL
  have rL := hid (rL0.out.old (Below_drew1 (Below.refl _ _)))
  have LK0 := LK
  have LK := hid (LK0.out.old (Below_drew1 (Below.refl _ _)))
  have LL0 := LL
  have LL := hid (LL0.out.old (Below_drew1 (Below.refl _ _)))
  have CC := hid (show Below w2.heap.size w2 w2.drew from Below_drew1 (Below.refl _ _))
  have eD : w2.drew.heap.size = w2.heap.size := rfl
  have LTLK := LK.out.lt
  have LTLL := LL.out.lt
  obtain ⟨q0, q1, q2, q3, q4⟩ := LK.out.all5
  obtain ⟨q5, q6, q7⟩ := LL.out.all3
  refine wp_region_held_drew (S := (fun w' => w'.cell? ⟨w.heap.size, 0, none⟩ = some (.slice a n c) ∧ w'.cell? ⟨w.heap.size, 1, none⟩ = some (.int .i64 x) ∧ w'.cell? ⟨w.heap.size, 2, none⟩ = some (.bool s) ∧ w'.cell? ⟨w.heap.size, 3, none⟩ = some (.slice b A.length d) ∧ w'.cell? ⟨w.heap.size, 4, none⟩ = some (.slice e D.length f) ∧ w'.cell? ⟨w.heap.size + 1, 0, none⟩ = some (.bool t) ∧ w'.cell? ⟨w.heap.size + 1, 1, none⟩ = some (.slice b' A'.length d') ∧ w'.cell? ⟨w.heap.size + 1, 2, none⟩ = some (.slice e' D'.length f'))) (by kernel_rfl) (by first | (with_reducible exact ⟨q0, q1, q2, q3, q4, q5, q6, q7⟩) | ((try dsimp only); with_reducible exact ⟨q0, q1, q2, q3, q4, q5, q6, q7⟩) | exact ⟨q0, q1, q2, q3, q4, q5, q6, q7⟩) (fun hHeld => ?_)
  refine wpAnyH_take (i := 0) (oi := _) (v := ?_) rfl (by kernel_rfl) (by kernel_rfl) (by kernel_rfl) (fun _ _ _ h => h) (Or.inl ⟨by rfl, ?_⟩) (by assumption) ?_
  rotate_left
  ·(intro w hSw; (try dsimp only at hSw); go_simp; try (with_reducible rfl))
  try simp only [Act.put, List.setIfInBounds_toArray, List.set_cons_zero, List.set_cons_succ, List.getElem_toArray, List.getElem_cons_zero]
  refine wpAnyH_take (i := 2) (oi := _) (v := ?_) rfl (by kernel_rfl) (by kernel_rfl) (by kernel_rfl) (fun _ _ _ h => h) (Or.inl ⟨by rfl, ?_⟩) (by assumption) ?_
  rotate_left
  ·(intro w hSw; (try dsimp only at hSw); go_simp; try (with_reducible rfl))
  try simp only [Act.put, List.setIfInBounds_toArray, List.set_cons_zero, List.set_cons_succ, List.getElem_toArray, List.getElem_cons_zero, List.getElem_cons_succ]
  refine wpAnyH_ready (rs := [1, 5]) (by kernel_rfl) (by simp) ?_
  refine AllReadyH.cons (o := _) rfl (fun KK hK => ?_) (AllReadyH.cons (o := _) rfl (fun KK hK => ?_) AllReadyH.nil)
  ·skip
   go_simp
   (with_reducible refine (toRow_came _ _ _ x s _ _ _ _ _ _ _ K A D huK haK hdK _ rK.out).mono ?_)
   rintro e wc0 ⟨a6, c6, b6, d6, g6, f6, m6, rfl, i1, bb⟩
   have sz0 : w2.drew.heap.size ≤ wc0.heap.size := bb.size
   have rK := hid (rK.out.old bb)
   have rL := hid (rL.out.old bb)
   have LK := hid (LK.out.old bb)
   have LL := hid (LL.out.old bb)
   have CC := hid (CC.out.trans (bb.mono CC.out.size))
   have T0 := hid i1
   clear i1
   obtain ⟨q0, q1, q2, q3, q4⟩ := LK.out.all5
   obtain ⟨q5, q6, q7⟩ := LL.out.all3
   clear bb
   go_wp2_with fail
   refine hK.out _ _ ?_ (fun hHeld => ?_)
   ·first | (with_reducible exact ⟨q0, q1, q2, q3, q4, q5, q6, q7⟩) | ((try dsimp only); with_reducible exact ⟨q0, q1, q2, q3, q4, q5, q6, q7⟩) | exact ⟨q0, q1, q2, q3, q4, q5, q6, q7⟩
   refine wpAnyH_ready (rs := [3, 5]) (by kernel_rfl) (by simp) ?_
   refine AllReadyH.cons (o := _) rfl (fun KK hK => ?_) (AllReadyH.cons (o := _) rfl (fun KK hK => ?_) AllReadyH.nil)
   ·skip
    go_simp
    (with_reducible refine (toRat_came t _ _ _ _ _ _ _ A' D' (by omega) (by omega) _ rL.out).mono ?_)
    rintro e wc1 ⟨v7, u7, rfl, i1, bb⟩
    have sz1 : wc0.heap.size ≤ wc1.heap.size := bb.size
    have rK := hid (rK.out.old bb)
    have rL := hid (rL.out.old bb)
    have LK := hid (LK.out.old bb)
    have LL := hid (LL.out.old bb)
    have T0 := hid (T0.out.old bb)
    have CC := hid (CC.out.trans (bb.mono CC.out.size))
    obtain ⟨x7, y7, z7, p7, rfl, rfl⟩ := i1.form
    have T1 := hid i1
    clear i1
    obtain ⟨q0, q1, q2, q3, q4⟩ := LK.out.all5
    obtain ⟨q5, q6, q7⟩ := LL.out.all3
    clear bb
    go_wp2_with fail
    refine hK.out _ _ ?_ (fun hHeld => ?_)
    ·first | (with_reducible exact ⟨q0, q1, q2, q3, q4, q5, q6, q7⟩) | ((try dsimp only); with_reducible exact ⟨q0, q1, q2, q3, q4, q5, q6, q7⟩) | exact ⟨q0, q1, q2, q3, q4, q5, q6, q7⟩
    refine wpAnyH_ready (rs := [4, 5]) (by kernel_rfl) (by simp) ?_
    refine AllReadyH.cons (o := _) rfl (fun KK hK => ?_) (AllReadyH.cons (o := _) rfl (fun KK hK => ?_) AllReadyH.nil)
    ·skip
     go_simp
     (with_reducible refine (KS.out _ _ _ _ (T0.out.w) _ _ _ _ T1.out).mono ?_)
     rintro e wc2 ⟨a8, c8, b8, d8, g8, f8, m8, rfl, i1, bb⟩
     have sz2 : wc1.heap.size ≤ wc2.heap.size := bb.size
     have rK := hid (rK.out.old bb)
     have rL := hid (rL.out.old bb)
     have LK := hid (LK.out.old bb)
     have LL := hid (LL.out.old bb)
     have T0 := hid (T0.out.old bb)
     have T1 := hid (T1.out.old bb)
     have CC := hid (CC.out.trans (bb.mono CC.out.size))
     have I1 := hid i1.t
     have I2 := hid (i1.r)
     have hn8 := True.intro
     have hl8 := i1.l
     have hh8 := i1.h
     clear i1
     obtain ⟨q0, q1, q2, q3, q4⟩ := LK.out.all5
     obtain ⟨q5, q6, q7⟩ := LL.out.all3
     clear bb
     go_wp2_with fail
     refine hK.out _ _ ?_ (fun hHeld => ?_)
     ·first | (with_reducible exact ⟨q0, q1, q2, q3, q4, q5, q6, q7⟩) | ((try dsimp only); with_reducible exact ⟨q0, q1, q2, q3, q4, q5, q6, q7⟩) | exact ⟨q0, q1, q2, q3, q4, q5, q6, q7⟩
     refine wpAnyH_ready (rs := [5]) (by kernel_rfl) (by simp) ?_
     refine AllReadyH.cons (o := _) rfl (fun KK hK => ?_) AllReadyH.nil
     obtain ⟨qw0, qw1, qw2, qw3, qw4⟩ := LK.out.all5
     obtain ⟨qw5, qw6, qw7⟩ := LL.out.all3
     have I1w := I1
     have I2w := I2
     have CCw := CC
     have HTLK := hid (show w.heap.size < (wc2).heap.size from Nat.lt_of_lt_of_le LTLK CC.out.size)
     have HTLL := hid (show w.heap.size + 1 < (wc2).heap.size from Nat.lt_of_lt_of_le LTLL CC.out.size)
     have HMLK := hid (show w.heap.size < wc2.heap.size from HTLK.out)
     have HMLL := hid (show w.heap.size + 1 < wc2.heap.size from HTLL.out)
     go_simp
     have BN := hid (below_new' (w := wc2) (o := .cells #[.slice none 0 0, .int .i64 0, .bool false, .slice none 0 0, .slice none 0 0] 39))
     have NZ := hid (LocA.new (w := wc2) (T := 39) (cs := #[.slice none 0 0, .int .i64 0, .bool false, .slice none 0 0, .slice none 0 0]))
     have eA : (wc2.alloc (.cells #[.slice none 0 0, .int .i64 0, .bool false, .slice none 0 0, .slice none 0 0] 39)).heap.size = wc2.heap.size + 1 := by simp
     have hNZ : w2.heap.size ≤ wc2.heap.size := CC.out.size
     have rK := hid (rK.out.old BN.out)
     have rL := hid (rL.out.old BN.out)
     have LK := hid (LK.out.old BN.out)
     have LL := hid (LL.out.old BN.out)
     have T0 := hid (T0.out.old BN.out)
     have T1 := hid (T1.out.old BN.out)
     have I1 := hid (I1.out.old BN.out)
     have I2 := hid (I2.out.old BN.out)
     have CC := hid (CC.out.alloc CC.out.size (.cells #[.slice none 0 0, .int .i64 0, .bool false, .slice none 0 0, .slice none 0 0] 39))
     obtain ⟨q0, q1, q2, q3, q4⟩ := LK.out.all5
     obtain ⟨q5, q6, q7⟩ := LL.out.all3
     refine hK.out _ _ ?_ (fun hHeld => ?_)
     ·first | (with_reducible exact ⟨q0, q1, q2, q3, q4, q5, q6, q7⟩) | ((try dsimp only); with_reducible exact ⟨q0, q1, q2, q3, q4, q5, q6, q7⟩) | exact ⟨q0, q1, q2, q3, q4, q5, q6, q7⟩
     try simp only [Act.put, List.setIfInBounds_toArray, List.set_cons_zero, List.set_cons_succ, List.getElem_toArray, List.getElem_cons_zero, List.getElem_cons_succ]
     refine wpAnyH_ready (rs := [6]) (by kernel_rfl) (by simp) ?_
     refine AllReadyH.cons (o := _) rfl (fun KK hK => ?_) AllReadyH.nil
     have hNB := NZ.out.lt
     have hsB := CC.out.size
     have f0 := NZ.out.f 0
     have f1 := NZ.out.f 1
     have f2 := NZ.out.f 2
     have f3 := NZ.out.f 3
     have f4 := NZ.out.f 4
     have p0 := NZ.out.c 0 rfl
     have p1 := NZ.out.c 1 rfl
     have p2 := NZ.out.c 2 rfl
     have p3 := NZ.out.c 3 rfl
     have p4 := NZ.out.c 4 rfl
     go_simp
     (try go_wp2_with fail)
     refine hK.out _ _ ?_ (fun hHeld => ?_)
     ·with_reducible exact ⟨(Below.cell below_new' (p := ⟨w.heap.size, 0, none⟩) HTLK.out).trans qw0, (Below.cell below_new' (p := ⟨w.heap.size, 1, none⟩) HTLK.out).trans qw1, (Below.cell below_new' (p := ⟨w.heap.size, 2, none⟩) HTLK.out).trans qw2, (Below.cell below_new' (p := ⟨w.heap.size, 3, none⟩) HTLK.out).trans qw3, (Below.cell below_new' (p := ⟨w.heap.size, 4, none⟩) HTLK.out).trans qw4, (Below.cell below_new' (p := ⟨w.heap.size + 1, 0, none⟩) HTLL.out).trans qw5, (Below.cell below_new' (p := ⟨w.heap.size + 1, 1, none⟩) HTLL.out).trans qw6, (Below.cell below_new' (p := ⟨w.heap.size + 1, 2, none⟩) HTLL.out).trans qw7⟩
     refine wpAnyH_done (by kernel_rfl) ?_ _
     go_wp2_with fail
     go_meet
     exact LaidG_a I1w.out I2w.out (fun h => by cases h) (by omega) hl8 (Nat.le_refl _) hh8 (by omega) CCw.out
    ·skip
     obtain ⟨qw0, qw1, qw2, qw3, qw4⟩ := LK.out.all5
     obtain ⟨qw5, qw6, qw7⟩ := LL.out.all3
     have CCw := CC
     have HTLK := hid (show w.heap.size < (wc1).heap.size from Nat.lt_of_lt_of_le LTLK CC.out.size)
     have HTLL := hid (show w.heap.size + 1 < (wc1).heap.size from Nat.lt_of_lt_of_le LTLL CC.out.size)
     have HMLK := hid (show w.heap.size < wc1.heap.size from HTLK.out)
     have HMLL := hid (show w.heap.size + 1 < wc1.heap.size from HTLL.out)
     go_simp
     have BN := hid (below_new' (w := wc1) (o := .cells #[.slice none 0 0, .int .i64 0, .bool false, .slice none 0 0, .slice none 0 0] 39))
     have NZ := hid (LocA.new (w := wc1) (T := 39) (cs := #[.slice none 0 0, .int .i64 0, .bool false, .slice none 0 0, .slice none 0 0]))
     have eA : (wc1.alloc (.cells #[.slice none 0 0, .int .i64 0, .bool false, .slice none 0 0, .slice none 0 0] 39)).heap.size = wc1.heap.size + 1 := by simp
     have hNZ : w2.heap.size ≤ wc1.heap.size := CC.out.size
     have rK := hid (rK.out.old BN.out)
     have rL := hid (rL.out.old BN.out)
     have LK := hid (LK.out.old BN.out)
     have LL := hid (LL.out.old BN.out)
     have T0 := hid (T0.out.old BN.out)
     have T1 := hid (T1.out.old BN.out)
     have CC := hid (CC.out.alloc CC.out.size (.cells #[.slice none 0 0, .int .i64 0, .bool false, .slice none 0 0, .slice none 0 0] 39))
     obtain ⟨q0, q1, q2, q3, q4⟩ := LK.out.all5
     obtain ⟨q5, q6, q7⟩ := LL.out.all3
     refine hK.out _ _ ?_ (fun hHeld => ?_)
     ·first | (with_reducible exact ⟨q0, q1, q2, q3, q4, q5, q6, q7⟩) | ((try dsimp only); with_reducible exact ⟨q0, q1, q2, q3, q4, q5, q6, q7⟩) | exact ⟨q0, q1, q2, q3, q4, q5, q6, q7⟩
     try simp only [Act.put, List.setIfInBounds_toArray, List.set_cons_zero, List.set_cons_succ, List.getElem_toArray, List.getElem_cons_zero, List.getElem_cons_succ]
     refine wpAnyH_ready (rs := [4]) (by kernel_rfl) (by simp) ?_
     refine AllReadyH.cons (o := _) rfl (fun KK hK => ?_) AllReadyH.nil
     go_simp
     (with_reducible refine (KS.out _ _ _ _ (T0.out.w) _ _ _ _ T1.out).mono ?_)
     rintro e wc2 ⟨a8, c8, b8, d8, g8, f8, m8, rfl, i1, bb⟩
     have sz2 : (wc1.alloc (.cells #[.slice none 0 0, .int .i64 0, .bool false, .slice none 0 0, .slice none 0 0] 39)).heap.size ≤ wc2.heap.size := bb.size
     have rK := hid (rK.out.old bb)
     have rL := hid (rL.out.old bb)
     have LK := hid (LK.out.old bb)
     have LL := hid (LL.out.old bb)
     have T0 := hid (T0.out.old bb)
     have T1 := hid (T1.out.old bb)
     have NZ := hid (NZ.out.old bb)
     have CC := hid (CC.out.trans (bb.mono CC.out.size))
     have I1 := hid i1.t
     have I2 := hid (i1.r)
     have hn8 := True.intro
     have hl8 := i1.l
     have hh8 := i1.h
     clear i1
     obtain ⟨q0, q1, q2, q3, q4⟩ := LK.out.all5
     obtain ⟨q5, q6, q7⟩ := LL.out.all3
     clear bb
     go_wp2_with fail
     refine hK.out _ _ ?_ (fun hHeld => ?_)
     ·first | (with_reducible exact ⟨q0, q1, q2, q3, q4, q5, q6, q7⟩) | ((try dsimp only); with_reducible exact ⟨q0, q1, q2, q3, q4, q5, q6, q7⟩) | exact ⟨q0, q1, q2, q3, q4, q5, q6, q7⟩
     refine wpAnyH_ready (rs := [6]) (by kernel_rfl) (by simp) ?_
     refine AllReadyH.cons (o := _) rfl (fun KK hK => ?_) AllReadyH.nil
     have hNB := NZ.out.lt
     have hsB := CC.out.size
     have f0 := NZ.out.f 0
     have f1 := NZ.out.f 1
     have f2 := NZ.out.f 2
     have f3 := NZ.out.f 3
     have f4 := NZ.out.f 4
     have p0 := NZ.out.c 0 rfl
     have p1 := NZ.out.c 1 rfl
     have p2 := NZ.out.c 2 rfl
     have p3 := NZ.out.c 3 rfl
     have p4 := NZ.out.c 4 rfl
     go_simp
     (try go_wp2_with fail)
     skip
     skip
     refine hK.out _ _ ?_ (fun hHeld => ?_)
     ·with_reducible exact ⟨(cell_set5 (Nat.ne_of_lt HMLK.out)).trans q0, (cell_set5 (Nat.ne_of_lt HMLK.out)).trans q1, (cell_set5 (Nat.ne_of_lt HMLK.out)).trans q2, (cell_set5 (Nat.ne_of_lt HMLK.out)).trans q3, (cell_set5 (Nat.ne_of_lt HMLK.out)).trans q4, (cell_set5 (Nat.ne_of_lt HMLL.out)).trans q5, (cell_set5 (Nat.ne_of_lt HMLL.out)).trans q6, (cell_set5 (Nat.ne_of_lt HMLL.out)).trans q7⟩
     refine wpAnyH_done (by kernel_rfl) ?_ _
     go_wp2_with fail
     go_meet
     exact LaidG_b NZ.out I1.out I2.out (fun h => by cases h) (by omega) (by omega) hl8 (Nat.le_refl _) hh8 (by omega) (by omega) (by omega) CC.out
   ·skip
    obtain ⟨qw0, qw1, qw2, qw3, qw4⟩ := LK.out.all5
    obtain ⟨qw5, qw6, qw7⟩ := LL.out.all3
    have CCw := CC
    have HTLK := hid (show w.heap.size < (wc0).heap.size from Nat.lt_of_lt_of_le LTLK CC.out.size)
    have HTLL := hid (show w.heap.size + 1 < (wc0).heap.size from Nat.lt_of_lt_of_le LTLL CC.out.size)
    have HMLK := hid (show w.heap.size < wc0.heap.size from HTLK.out)
    have HMLL := hid (show w.heap.size + 1 < wc0.heap.size from HTLL.out)
    go_simp
    have BN := hid (below_new' (w := wc0) (o := .cells #[.slice none 0 0, .int .i64 0, .bool false, .slice none 0 0, .slice none 0 0] 39))
    have NZ := hid (LocA.new (w := wc0) (T := 39) (cs := #[.slice none 0 0, .int .i64 0, .bool false, .slice none 0 0, .slice none 0 0]))
    have eA : (wc0.alloc (.cells #[.slice none 0 0, .int .i64 0, .bool false, .slice none 0 0, .slice none 0 0] 39)).heap.size = wc0.heap.size + 1 := by simp
    have hNZ : w2.heap.size ≤ wc0.heap.size := CC.out.size
    have rK := hid (rK.out.old BN.out)
    have rL := hid (rL.out.old BN.out)
    have LK := hid (LK.out.old BN.out)
    have LL := hid (LL.out.old BN.out)
    have T0 := hid (T0.out.old BN.out)
    have CC := hid (CC.out.alloc CC.out.size (.cells #[.slice none 0 0, .int .i64 0, .bool false, .slice none 0 0, .slice none 0 0] 39))
    obtain ⟨q0, q1, q2, q3, q4⟩ := LK.out.all5
    obtain ⟨q5, q6, q7⟩ := LL.out.all3
    refine hK.out _ _ ?_ (fun hHeld => ?_)
    ·first | (with_reducible exact ⟨q0, q1, q2, q3, q4, q5, q6, q7⟩) | ((try dsimp only); with_reducible exact ⟨q0, q1, q2, q3, q4, q5, q6, q7⟩) | exact ⟨q0, q1, q2, q3, q4, q5, q6, q7⟩
    try simp only [Act.put, List.setIfInBounds_toArray, List.set_cons_zero, List.set_cons_succ, List.getElem_toArray, List.getElem_cons_zero, List.getElem_cons_succ]
    refine wpAnyH_ready (rs := [3]) (by kernel_rfl) (by simp) ?_
    refine AllReadyH.cons (o := _) rfl (fun KK hK => ?_) AllReadyH.nil
    go_simp
    (with_reducible refine (toRat_came t _ _ _ _ _ _ _ A' D' (by omega) (by omega) _ rL.out).mono ?_)
    rintro e wc1 ⟨v7, u7, rfl, i1, bb⟩
    have sz1 : (wc0.alloc (.cells #[.slice none 0 0, .int .i64 0, .bool false, .slice none 0 0, .slice none 0 0] 39)).heap.size ≤ wc1.heap.size := bb.size
    have rK := hid (rK.out.old bb)
    have rL := hid (rL.out.old bb)
    have LK := hid (LK.out.old bb)
    have LL := hid (LL.out.old bb)
    have T0 := hid (T0.out.old bb)
    have NZ := hid (NZ.out.old bb)
    have CC := hid (CC.out.trans (bb.mono CC.out.size))
    obtain ⟨x7, y7, z7, p7, rfl, rfl⟩ := i1.form
    have T1 := hid i1
    clear i1
    obtain ⟨q0, q1, q2, q3, q4⟩ := LK.out.all5
    obtain ⟨q5, q6, q7⟩ := LL.out.all3
    clear bb
    go_wp2_with fail
    refine hK.out _ _ ?_ (fun hHeld => ?_)
    ·first | (with_reducible exact ⟨q0, q1, q2, q3, q4, q5, q6, q7⟩) | ((try dsimp only); with_reducible exact ⟨q0, q1, q2, q3, q4, q5, q6, q7⟩) | exact ⟨q0, q1, q2, q3, q4, q5, q6, q7⟩
    refine wpAnyH_ready (rs := [4]) (by kernel_rfl) (by simp) ?_
    refine AllReadyH.cons (o := _) rfl (fun KK hK => ?_) AllReadyH.nil
    go_simp
    (with_reducible refine (KS.out _ _ _ _ (T0.out.w) _ _ _ _ T1.out).mono ?_)
    rintro e wc2 ⟨a8, c8, b8, d8, g8, f8, m8, rfl, i1, bb⟩
    have sz2 : wc1.heap.size ≤ wc2.heap.size := bb.size
    have rK := hid (rK.out.old bb)
    have rL := hid (rL.out.old bb)
    have LK := hid (LK.out.old bb)
    have LL := hid (LL.out.old bb)
    have T0 := hid (T0.out.old bb)
    have T1 := hid (T1.out.old bb)
    have NZ := hid (NZ.out.old bb)
    have CC := hid (CC.out.trans (bb.mono CC.out.size))
    have I1 := hid i1.t
    have I2 := hid (i1.r)
    have hn8 := True.intro
    have hl8 := i1.l
    have hh8 := i1.h
    clear i1
    obtain ⟨q0, q1, q2, q3, q4⟩ := LK.out.all5
    obtain ⟨q5, q6, q7⟩ := LL.out.all3
    clear bb
    go_wp2_with fail
    refine hK.out _ _ ?_ (fun hHeld => ?_)
    ·first | (with_reducible exact ⟨q0, q1, q2, q3, q4, q5, q6, q7⟩) | ((try dsimp only); with_reducible exact ⟨q0, q1, q2, q3, q4, q5, q6, q7⟩) | exact ⟨q0, q1, q2, q3, q4, q5, q6, q7⟩
    refine wpAnyH_ready (rs := [6]) (by kernel_rfl) (by simp) ?_
    refine AllReadyH.cons (o := _) rfl (fun KK hK => ?_) AllReadyH.nil
    have hNB := NZ.out.lt
    have hsB := CC.out.size
    have f0 := NZ.out.f 0
    have f1 := NZ.out.f 1
    have f2 := NZ.out.f 2
    have f3 := NZ.out.f 3
    have f4 := NZ.out.f 4
    have p0 := NZ.out.c 0 rfl
    have p1 := NZ.out.c 1 rfl
    have p2 := NZ.out.c 2 rfl
    have p3 := NZ.out.c 3 rfl
    have p4 := NZ.out.c 4 rfl
    go_simp
    (try go_wp2_with fail)
    skip
    skip
    refine hK.out _ _ ?_ (fun hHeld => ?_)
    ·with_reducible exact ⟨(cell_set5 (Nat.ne_of_lt HMLK.out)).trans q0, (cell_set5 (Nat.ne_of_lt HMLK.out)).trans q1, (cell_set5 (Nat.ne_of_lt HMLK.out)).trans q2, (cell_set5 (Nat.ne_of_lt HMLK.out)).trans q3, (cell_set5 (Nat.ne_of_lt HMLK.out)).trans q4, (cell_set5 (Nat.ne_of_lt HMLL.out)).trans q5, (cell_set5 (Nat.ne_of_lt HMLL.out)).trans q6, (cell_set5 (Nat.ne_of_lt HMLL.out)).trans q7⟩
    refine wpAnyH_done (by kernel_rfl) ?_ _
    go_wp2_with fail
    go_meet
    exact LaidG_b NZ.out I1.out I2.out (fun h => by cases h) (by omega) (by omega) hl8 (Nat.le_refl _) hh8 (by omega) (by omega) (by omega) CC.out
  ·skip
   obtain ⟨qw0, qw1, qw2, qw3, qw4⟩ := LK.out.all5
   obtain ⟨qw5, qw6, qw7⟩ := LL.out.all3
   have CCw := CC
   have HTLK := hid (show w.heap.size < (w2.drew).heap.size from Nat.lt_of_lt_of_le LTLK CC.out.size)
   have HTLL := hid (show w.heap.size + 1 < (w2.drew).heap.size from Nat.lt_of_lt_of_le LTLL CC.out.size)
   have HMLK := hid (show w.heap.size < w2.heap.size from LTLK)
   have HMLL := hid (show w.heap.size + 1 < w2.heap.size from LTLL)
   go_simp
   have rK := hid (rK0.out.old (Below_drew1 (below_new' (o := .cells #[.slice none 0 0, .int .i64 0, .bool false, .slice none 0 0, .slice none 0 0] 39))))
   have rL := hid (rL0.out.old (Below_drew1 (below_new' (o := .cells #[.slice none 0 0, .int .i64 0, .bool false, .slice none 0 0, .slice none 0 0] 39))))
   have LK := hid (LK0.out.old (Below_drew1 (below_new' (o := .cells #[.slice none 0 0, .int .i64 0, .bool false, .slice none 0 0, .slice none 0 0] 39))))
   have LL := hid (LL0.out.old (Below_drew1 (below_new' (o := .cells #[.slice none 0 0, .int .i64 0, .bool false, .slice none 0 0, .slice none 0 0] 39))))
   have CC := hid (show Below w2.heap.size w2 ((w2.alloc (.cells #[.slice none 0 0, .int .i64 0, .bool false, .slice none 0 0, .slice none 0 0] 39)).drew) from Below_drew1 below_new')
   have NZ := hid (show LocA 39 ((w2.alloc (.cells #[.slice none 0 0, .int .i64 0, .bool false, .slice none 0 0, .slice none 0 0] 39)).drew) w2.heap.size #[.slice none 0 0, .int .i64 0, .bool false, .slice none 0 0, .slice none 0 0] from LocA.new)
   have eA : ((w2.alloc (.cells #[.slice none 0 0, .int .i64 0, .bool false, .slice none 0 0, .slice none 0 0] 39)).drew).heap.size = w2.heap.size + 1 := (by show (w2.alloc (.cells #[.slice none 0 0, .int .i64 0, .bool false, .slice none 0 0, .slice none 0 0] 39)).heap.size = _; simp)
   obtain ⟨q0, q1, q2, q3, q4⟩ := LK.out.all5
   obtain ⟨q5, q6, q7⟩ := LL.out.all3
   refine hK.out _ _ ?_ (fun hHeld => ?_)
   ·first | (with_reducible exact ⟨q0, q1, q2, q3, q4, q5, q6, q7⟩) | ((try dsimp only); with_reducible exact ⟨q0, q1, q2, q3, q4, q5, q6, q7⟩) | exact ⟨q0, q1, q2, q3, q4, q5, q6, q7⟩
   try simp only [Act.put, List.setIfInBounds_toArray, List.set_cons_zero, List.set_cons_succ, List.getElem_toArray, List.getElem_cons_zero, List.getElem_cons_succ]
   refine wpAnyH_ready (rs := [1]) (by kernel_rfl) (by simp) ?_
   refine AllReadyH.cons (o := _) rfl (fun KK hK => ?_) AllReadyH.nil
   go_simp
   (with_reducible refine (toRow_came _ _ _ x s _ _ _ _ _ _ _ K A D huK haK hdK _ rK.out).mono ?_)
   rintro e wc0 ⟨a6, c6, b6, d6, g6, f6, m6, rfl, i1, bb⟩
   have sz0 : (w2.alloc (.cells #[.slice none 0 0, .int .i64 0, .bool false, .slice none 0 0, .slice none 0 0] 39)).drew.heap.size ≤ wc0.heap.size := bb.size
   have rK := hid (rK.out.old bb)
   have rL := hid (rL.out.old bb)
   have LK := hid (LK.out.old bb)
   have LL := hid (LL.out.old bb)
   have NZ := hid (NZ.out.old bb)
   have CC := hid (CC.out.trans (bb.mono CC.out.size))
   have T0 := hid i1
   clear i1
   obtain ⟨q0, q1, q2, q3, q4⟩ := LK.out.all5
   obtain ⟨q5, q6, q7⟩ := LL.out.all3
   clear bb
   go_wp2_with fail
   refine hK.out _ _ ?_ (fun hHeld => ?_)
   ·first | (with_reducible exact ⟨q0, q1, q2, q3, q4, q5, q6, q7⟩) | ((try dsimp only); with_reducible exact ⟨q0, q1, q2, q3, q4, q5, q6, q7⟩) | exact ⟨q0, q1, q2, q3, q4, q5, q6, q7⟩
   refine wpAnyH_ready (rs := [3]) (by kernel_rfl) (by simp) ?_
   refine AllReadyH.cons (o := _) rfl (fun KK hK => ?_) AllReadyH.nil
   go_simp
   (with_reducible refine (toRat_came t _ _ _ _ _ _ _ A' D' (by omega) (by omega) _ rL.out).mono ?_)
   rintro e wc1 ⟨v7, u7, rfl, i1, bb⟩
   have sz1 : wc0.heap.size ≤ wc1.heap.size := bb.size
   have rK := hid (rK.out.old bb)
   have rL := hid (rL.out.old bb)
   have LK := hid (LK.out.old bb)
   have LL := hid (LL.out.old bb)
   have T0 := hid (T0.out.old bb)
   have NZ := hid (NZ.out.old bb)
   have CC := hid (CC.out.trans (bb.mono CC.out.size))
   obtain ⟨x7, y7, z7, p7, rfl, rfl⟩ := i1.form
   have T1 := hid i1
   clear i1
   obtain ⟨q0, q1, q2, q3, q4⟩ := LK.out.all5
   obtain ⟨q5, q6, q7⟩ := LL.out.all3
   clear bb
   go_wp2_with fail
   refine hK.out _ _ ?_ (fun hHeld => ?_)
   ·first | (with_reducible exact ⟨q0, q1, q2, q3, q4, q5, q6, q7⟩) | ((try dsimp only); with_reducible exact ⟨q0, q1, q2, q3, q4, q5, q6, q7⟩) | exact ⟨q0, q1, q2, q3, q4, q5, q6, q7⟩
   refine wpAnyH_ready (rs := [4]) (by kernel_rfl) (by simp) ?_
   refine AllReadyH.cons (o := _) rfl (fun KK hK => ?_) AllReadyH.nil
   go_simp
   (with_reducible refine (KS.out _ _ _ _ (T0.out.w) _ _ _ _ T1.out).mono ?_)
   rintro e wc2 ⟨a8, c8, b8, d8, g8, f8, m8, rfl, i1, bb⟩
   have sz2 : wc1.heap.size ≤ wc2.heap.size := bb.size
   have rK := hid (rK.out.old bb)
   have rL := hid (rL.out.old bb)
   have LK := hid (LK.out.old bb)
   have LL := hid (LL.out.old bb)
   have T0 := hid (T0.out.old bb)
   have T1 := hid (T1.out.old bb)
   have NZ := hid (NZ.out.old bb)
   have CC := hid (CC.out.trans (bb.mono CC.out.size))
   have I1 := hid i1.t
   have I2 := hid (i1.r)
   have hn8 := True.intro
   have hl8 := i1.l
   have hh8 := i1.h
   clear i1
   obtain ⟨q0, q1, q2, q3, q4⟩ := LK.out.all5
   obtain ⟨q5, q6, q7⟩ := LL.out.all3
   clear bb
   go_wp2_with fail
   refine hK.out _ _ ?_ (fun hHeld => ?_)
   ·first | (with_reducible exact ⟨q0, q1, q2, q3, q4, q5, q6, q7⟩) | ((try dsimp only); with_reducible exact ⟨q0, q1, q2, q3, q4, q5, q6, q7⟩) | exact ⟨q0, q1, q2, q3, q4, q5, q6, q7⟩
   refine wpAnyH_ready (rs := [6]) (by kernel_rfl) (by simp) ?_
   refine AllReadyH.cons (o := _) rfl (fun KK hK => ?_) AllReadyH.nil
   have hNB := NZ.out.lt
   have hsB := CC.out.size
   have f0 := NZ.out.f 0
   have f1 := NZ.out.f 1
   have f2 := NZ.out.f 2
   have f3 := NZ.out.f 3
   have f4 := NZ.out.f 4
   have p0 := NZ.out.c 0 rfl
   have p1 := NZ.out.c 1 rfl
   have p2 := NZ.out.c 2 rfl
   have p3 := NZ.out.c 3 rfl
   have p4 := NZ.out.c 4 rfl
   go_simp
   (try go_wp2_with fail)
   skip
   skip
   refine hK.out _ _ ?_ (fun hHeld => ?_)
   ·with_reducible exact ⟨(cell_set5 (Nat.ne_of_lt HMLK.out)).trans q0, (cell_set5 (Nat.ne_of_lt HMLK.out)).trans q1, (cell_set5 (Nat.ne_of_lt HMLK.out)).trans q2, (cell_set5 (Nat.ne_of_lt HMLK.out)).trans q3, (cell_set5 (Nat.ne_of_lt HMLK.out)).trans q4, (cell_set5 (Nat.ne_of_lt HMLL.out)).trans q5, (cell_set5 (Nat.ne_of_lt HMLL.out)).trans q6, (cell_set5 (Nat.ne_of_lt HMLL.out)).trans q7⟩
   refine wpAnyH_done (by kernel_rfl) ?_ _
   go_wp2_with fail
   go_meet
   exact LaidG_b NZ.out I1.out I2.out (fun h => by cases h) (by omega) (by omega) hl8 (Nat.le_refl _) hh8 (by omega) (by omega) (by omega) CC.out
 case rest =>
  generalize wc = w3 at hcut ⊢
  obtain ⟨g3, a3, c3, b3, d3, e3, f3, lo3, ma3, mb3, hi3, rfl, hL, hT, hRo, hn, ⟨ka3, kb3, kc3, kd3, ke3, kf3, kg3, kh3, ki3⟩, b1⟩ := hcut
  have t3 : w2.heap.size ≤ w3.heap.size := b1.size
  have rK := hid (rK.out.old b1)
  have rL := hid (rL.out.old b1)
  have LK := hid (LK.out.old b1)
  have LL := hid (LL.out.old b1)
  have B := hid (B.out.trans (b1.mono B.out.size))
  have W0 := hid (show RwL w3 (.slice a3 RT.length c3) (.slice b3 R1.length d3) (.slice e3 R2.length f3) RT R1 R2 lo3 mb3 hi3 from ⟨hT.wide (Nat.le_refl _) kc3, hRo, by omega, kd3⟩)
  have LW0 := hid hL
  clear hL hT hRo hn b1
  obtain ⟨q0, q1, q2, q3, q4⟩ := LK.out.all5
  go_wp2_with fail
  (with_reducible refine (toRow_came _ _ _ x s _ _ _ _ _ _ _ K A D huK haK hdK _ rK.out).mono ?_)
  clear q0 q1 q2 q3 q4
  rintro e w4 ⟨a4, c4, b4, d4, g4, f4, m4, rfl, i1, b1⟩
  have t4 : w3.heap.size ≤ w4.heap.size := by have := b1.size; omega
  have rK := hid (rK.out.old b1)
  have rL := hid (rL.out.old b1)
  have LK := hid (LK.out.old b1)
  have LL := hid (LL.out.old b1)
  have W0 := hid (W0.out.old b1)
  have LW0 := hid (LW0.out.old b1)
  have B := hid (B.out.trans (b1.mono B.out.size))
  have X0 := hid i1
  clear i1 b1
  have rK := hid (rK.out.old (below_new' (o := .cells #[.slice a4 K.length c4, .int .i64 x, .bool s, .slice b4 A.length d4, .slice g4 D.length f4] 39)))
  have rL := hid (rL.out.old (below_new' (o := .cells #[.slice a4 K.length c4, .int .i64 x, .bool s, .slice b4 A.length d4, .slice g4 D.length f4] 39)))
  have LK := hid (LK.out.old (below_new' (o := .cells #[.slice a4 K.length c4, .int .i64 x, .bool s, .slice b4 A.length d4, .slice g4 D.length f4] 39)))
  have LL := hid (LL.out.old (below_new' (o := .cells #[.slice a4 K.length c4, .int .i64 x, .bool s, .slice b4 A.length d4, .slice g4 D.length f4] 39)))
  have W0 := hid (W0.out.old (below_new' (o := .cells #[.slice a4 K.length c4, .int .i64 x, .bool s, .slice b4 A.length d4, .slice g4 D.length f4] 39)))
  have LW0 := hid (LW0.out.old (below_new' (o := .cells #[.slice a4 K.length c4, .int .i64 x, .bool s, .slice b4 A.length d4, .slice g4 D.length f4] 39)))
  have X0 := hid (X0.out.old (below_new' (o := .cells #[.slice a4 K.length c4, .int .i64 x, .bool s, .slice b4 A.length d4, .slice g4 D.length f4] 39)))
  have B := hid (B.out.alloc B.out.size (.cells #[.slice a4 K.length c4, .int .i64 x, .bool s, .slice b4 A.length d4, .slice g4 D.length f4] 39))
  have LX0 := hid (LocA.new (w := w4) (T := 39) (cs := #[.slice a4 K.length c4, .int .i64 x, .bool s, .slice b4 A.length d4, .slice g4 D.length f4]))
  have hs4 : (w4.alloc (.cells #[.slice a4 K.length c4, .int .i64 x, .bool s, .slice b4 A.length d4, .slice g4 D.length f4] 39)).heap.size = w4.heap.size + 1 := by simp
  obtain ⟨q0, q1, q2⟩ := LL.out.all3
  go_wp2_with fail
  (with_reducible refine (toRat_came t _ _ _ _ _ _ _ A' D' (by omega) (by omega) _ rL.out).mono ?_)
  clear q0 q1 q2
  rintro e w5 ⟨v5, u5, rfl, i1, b1⟩
  have t5 : w4.heap.size + 1 ≤ w5.heap.size := by have := b1.size; simp at this; omega
  have rK := hid (rK.out.old b1)
  have rL := hid (rL.out.old b1)
  have LK := hid (LK.out.old b1)
  have LL := hid (LL.out.old b1)
  have W0 := hid (W0.out.old b1)
  have LW0 := hid (LW0.out.old b1)
  have X0 := hid (X0.out.old b1)
  have LX0 := hid (LX0.out.old b1)
  have B := hid (B.out.trans (b1.mono B.out.size))
  have X1 := hid i1
  obtain ⟨x5, y5, z5, p5, rfl, rfl⟩ := i1.form
  clear i1 b1
  have rK := hid (rK.out.old (below_new' (o := .cells #[.bool t, .slice x5 A'.length y5, .slice z5 D'.length p5] 37)))
  have rL := hid (rL.out.old (below_new' (o := .cells #[.bool t, .slice x5 A'.length y5, .slice z5 D'.length p5] 37)))
  have LK := hid (LK.out.old (below_new' (o := .cells #[.bool t, .slice x5 A'.length y5, .slice z5 D'.length p5] 37)))
  have LL := hid (LL.out.old (below_new' (o := .cells #[.bool t, .slice x5 A'.length y5, .slice z5 D'.length p5] 37)))
  have W0 := hid (W0.out.old (below_new' (o := .cells #[.bool t, .slice x5 A'.length y5, .slice z5 D'.length p5] 37)))
  have LW0 := hid (LW0.out.old (below_new' (o := .cells #[.bool t, .slice x5 A'.length y5, .slice z5 D'.length p5] 37)))
  have X0 := hid (X0.out.old (below_new' (o := .cells #[.bool t, .slice x5 A'.length y5, .slice z5 D'.length p5] 37)))
  have LX0 := hid (LX0.out.old (below_new' (o := .cells #[.bool t, .slice x5 A'.length y5, .slice z5 D'.length p5] 37)))
  have X1 := hid (X1.out.old (below_new' (o := .cells #[.bool t, .slice x5 A'.length y5, .slice z5 D'.length p5] 37)))
  have B := hid (B.out.alloc B.out.size (.cells #[.bool t, .slice x5 A'.length y5, .slice z5 D'.length p5] 37))
  have LX1 := hid (LocA.new (w := w5) (T := 37) (cs := #[.bool t, .slice x5 A'.length y5, .slice z5 D'.length p5]))
  have hs5 : (w5.alloc (.cells #[.bool t, .slice x5 A'.length y5, .slice z5 D'.length p5] 37)).heap.size = w5.heap.size + 1 := by simp
  obtain ⟨q0, q1, q2, q3, q4⟩ := LX0.out.all5
  obtain ⟨q5, q6, q7⟩ := LX1.out.all3
  go_wp2_with fail
  (with_reducible refine (KI.out _ _ _ _ X0.out.w _ _ _ _ X1.out).mono ?_)
  clear q0 q1 q2 q3 q4 q5 q6 q7
  rintro e w6 ⟨a6, c6, b6, d6, g6, f6, m6, rfl, i1, b1⟩
  have t6 : w5.heap.size + 1 ≤ w6.heap.size := by have := b1.size; simp at this; omega
  have rK := hid (rK.out.old b1)
  have rL := hid (rL.out.old b1)
  have LK := hid (LK.out.old b1)
  have LL := hid (LL.out.old b1)
  have W0 := hid (W0.out.old b1)
  have LW0 := hid (LW0.out.old b1)
  have X0 := hid (X0.out.old b1)
  have LX0 := hid (LX0.out.old b1)
  have X1 := hid (X1.out.old b1)
  have LX1 := hid (LX1.out.old b1)
  have B := hid (B.out.trans (b1.mono B.out.size))
  have G0 := hid i1
  clear i1 b1
  have rK := hid (rK.out.old (below_new' (o := .cells #[.slice a6 RT.length c6, .int .i64 rx, .bool rs, .slice b6 R1.length d6, .slice g6 R2.length f6] 39)))
  have rL := hid (rL.out.old (below_new' (o := .cells #[.slice a6 RT.length c6, .int .i64 rx, .bool rs, .slice b6 R1.length d6, .slice g6 R2.length f6] 39)))
  have LK := hid (LK.out.old (below_new' (o := .cells #[.slice a6 RT.length c6, .int .i64 rx, .bool rs, .slice b6 R1.length d6, .slice g6 R2.length f6] 39)))
  have LL := hid (LL.out.old (below_new' (o := .cells #[.slice a6 RT.length c6, .int .i64 rx, .bool rs, .slice b6 R1.length d6, .slice g6 R2.length f6] 39)))
  have W0 := hid (W0.out.old (below_new' (o := .cells #[.slice a6 RT.length c6, .int .i64 rx, .bool rs, .slice b6 R1.length d6, .slice g6 R2.length f6] 39)))
  have LW0 := hid (LW0.out.old (below_new' (o := .cells #[.slice a6 RT.length c6, .int .i64 rx, .bool rs, .slice b6 R1.length d6, .slice g6 R2.length f6] 39)))
  have X0 := hid (X0.out.old (below_new' (o := .cells #[.slice a6 RT.length c6, .int .i64 rx, .bool rs, .slice b6 R1.length d6, .slice g6 R2.length f6] 39)))
  have LX0 := hid (LX0.out.old (below_new' (o := .cells #[.slice a6 RT.length c6, .int .i64 rx, .bool rs, .slice b6 R1.length d6, .slice g6 R2.length f6] 39)))
  have X1 := hid (X1.out.old (below_new' (o := .cells #[.slice a6 RT.length c6, .int .i64 rx, .bool rs, .slice b6 R1.length d6, .slice g6 R2.length f6] 39)))
  have LX1 := hid (LX1.out.old (below_new' (o := .cells #[.slice a6 RT.length c6, .int .i64 rx, .bool rs, .slice b6 R1.length d6, .slice g6 R2.length f6] 39)))
  have G0 := hid (G0.out.old (below_new' (o := .cells #[.slice a6 RT.length c6, .int .i64 rx, .bool rs, .slice b6 R1.length d6, .slice g6 R2.length f6] 39)))
  have B := hid (B.out.alloc B.out.size (.cells #[.slice a6 RT.length c6, .int .i64 rx, .bool rs, .slice b6 R1.length d6, .slice g6 R2.length f6] 39))
  have LG0 := hid (LocA.new (w := w6) (T := 39) (cs := #[.slice a6 RT.length c6, .int .i64 rx, .bool rs, .slice b6 R1.length d6, .slice g6 R2.length f6]))
  have hs6 : (w6.alloc (.cells #[.slice a6 RT.length c6, .int .i64 rx, .bool rs, .slice b6 R1.length d6, .slice g6 R2.length f6] 39)).heap.size = w6.heap.size + 1 := by simp
  obtain ⟨q0, q1, q2, q3, q4⟩ := LG0.out.all5
  obtain ⟨q5, q6, q7, q8, q9⟩ := LW0.out.all5
  go_wp2_with fail
  (with_reducible refine (eqRow_k rx rs (by omega) (by omega) (by omega) _ G0.out.w W0.out.w).mono ?_)
  clear q0 q1 q2 q3 q4 q5 q6 q7 q8 q9
  rintro e w7 ⟨rfl, b1⟩
  have t7 : w6.heap.size + 1 ≤ w7.heap.size := by have := b1.size; simp at this; omega
  have rK := hid (rK.out.old b1)
  have rL := hid (rL.out.old b1)
  have LK := hid (LK.out.old b1)
  have LL := hid (LL.out.old b1)
  have W0 := hid (W0.out.old b1)
  have LW0 := hid (LW0.out.old b1)
  have X0 := hid (X0.out.old b1)
  have LX0 := hid (LX0.out.old b1)
  have X1 := hid (X1.out.old b1)
  have LX1 := hid (LX1.out.old b1)
  have G0 := hid (G0.out.old b1)
  have LG0 := hid (LG0.out.old b1)
  have B := hid (B.out.trans (b1.mono B.out.size))
  clear b1
  have rK := hid (rK.out.old (Below_drew1 (Below.refl _ _)))
  have rL := hid (rL.out.old (Below_drew1 (Below.refl _ _)))
  have LK := hid (LK.out.old (Below_drew1 (Below.refl _ _)))
  have LL := hid (LL.out.old (Below_drew1 (Below.refl _ _)))
  have W0 := hid (W0.out.old (Below_drew1 (Below.refl _ _)))
  have LW0 := hid (LW0.out.old (Below_drew1 (Below.refl _ _)))
  have X0 := hid (X0.out.old (Below_drew1 (Below.refl _ _)))
  have LX0 := hid (LX0.out.old (Below_drew1 (Below.refl _ _)))
  have X1 := hid (X1.out.old (Below_drew1 (Below.refl _ _)))
  have LX1 := hid (LX1.out.old (Below_drew1 (Below.refl _ _)))
  have G0 := hid (G0.out.old (Below_drew1 (Below.refl _ _)))
  have LG0 := hid (LG0.out.old (Below_drew1 (Below.refl _ _)))
  have B := hid (Below_drew1 B.out)
  obtain ⟨q0, q1, q2, q3, q4⟩ := LX0.out.all5
  obtain ⟨q5, q6, q7, q8, q9⟩ := LK.out.all5
  go_wp2_with fail
  go_region_held3 (fun w' => w'.cell? ⟨w4.heap.size, 0, none⟩ = some (.slice a4 K.length c4) ∧ w'.cell? ⟨w4.heap.size, 1, none⟩ = some (.int .i64 x) ∧ w'.cell? ⟨w4.heap.size, 2, none⟩ = some (.bool s) ∧ w'.cell? ⟨w4.heap.size, 3, none⟩ = some (.slice b4 A.length d4) ∧ w'.cell? ⟨w4.heap.size, 4, none⟩ = some (.slice g4 D.length f4) ∧ w'.cell? ⟨w.heap.size, 0, none⟩ = some (.slice a n c) ∧ w'.cell? ⟨w.heap.size, 1, none⟩ = some (.int .i64 x) ∧ w'.cell? ⟨w.heap.size, 2, none⟩ = some (.bool s) ∧ w'.cell? ⟨w.heap.size, 3, none⟩ = some (.slice b A.length d) ∧ w'.cell? ⟨w.heap.size, 4, none⟩ = some (.slice e D.length f)) (first | exact ⟨q0, q1, q2, q3, q4, q5, q6, q7, q8, q9⟩) (first | (go_at_call 16; (with_reducible refine (toRow_came _ _ _ x s _ _ _ _ _ _ _ K A D huK haK hdK _ rK.out).mono ?_); rintro e w8 ⟨a8, c8, b8, d8, g8, f8, m8, rfl, i1, b1⟩; have t8 : w7.heap.size ≤ w8.heap.size := (by have := b1.size; first | exact this | omega | (simp at this; omega)); have rK := hid (rK.out.old b1); have rL := hid (rL.out.old b1); have LK := hid (LK.out.old b1); have LL := hid (LL.out.old b1); have W0 := hid (W0.out.old b1); have LW0 := hid (LW0.out.old b1); have X0 := hid (X0.out.old b1); have LX0 := hid (LX0.out.old b1); have X1 := hid (X1.out.old b1); have LX1 := hid (LX1.out.old b1); have G0 := hid (G0.out.old b1); have LG0 := hid (LG0.out.old b1); have B := hid (B.out.trans (b1.mono B.out.size)); obtain ⟨q0, q1, q2, q3, q4⟩ := LX0.out.all5; obtain ⟨q5, q6, q7, q8, q9⟩ := LK.out.all5; have T0 := hid i1; clear i1 b1) | (go_at_call 19; (with_reducible refine (eqRow_k x s (by omega) (by omega) (by omega) _ X0.out.w T0.out.w).mono ?_); rintro e w9 ⟨rfl, b1⟩; have t9 : w8.heap.size ≤ w9.heap.size := (by have := b1.size; first | exact this | omega | (simp at this; omega)); have rK := hid (rK.out.old b1); have rL := hid (rL.out.old b1); have LK := hid (LK.out.old b1); have LL := hid (LL.out.old b1); have W0 := hid (W0.out.old b1); have LW0 := hid (LW0.out.old b1); have X0 := hid (X0.out.old b1); have LX0 := hid (LX0.out.old b1); have X1 := hid (X1.out.old b1); have LX1 := hid (LX1.out.old b1); have G0 := hid (G0.out.old b1); have LG0 := hid (LG0.out.old b1); have T0 := hid (T0.out.old b1); have B := hid (B.out.trans (b1.mono B.out.size)); obtain ⟨q0, q1, q2, q3, q4⟩ := LX0.out.all5; obtain ⟨q5, q6, q7, q8, q9⟩ := LK.out.all5; clear b1))
  clear q0 q1 q2 q3 q4 q5 q6 q7 q8 q9
  have rK := hid (rK.out.old (Below_drew1 (Below.refl _ _)))
  have rL := hid (rL.out.old (Below_drew1 (Below.refl _ _)))
  have LK := hid (LK.out.old (Below_drew1 (Below.refl _ _)))
  have LL := hid (LL.out.old (Below_drew1 (Below.refl _ _)))
  have W0 := hid (W0.out.old (Below_drew1 (Below.refl _ _)))
  have LW0 := hid (LW0.out.old (Below_drew1 (Below.refl _ _)))
  have X0 := hid (X0.out.old (Below_drew1 (Below.refl _ _)))
  have LX0 := hid (LX0.out.old (Below_drew1 (Below.refl _ _)))
  have X1 := hid (X1.out.old (Below_drew1 (Below.refl _ _)))
  have LX1 := hid (LX1.out.old (Below_drew1 (Below.refl _ _)))
  have G0 := hid (G0.out.old (Below_drew1 (Below.refl _ _)))
  have LG0 := hid (LG0.out.old (Below_drew1 (Below.refl _ _)))
  have B := hid (Below_drew1 B.out)
  obtain ⟨q0, q1, q2⟩ := LX1.out.all3
  obtain ⟨q3, q4, q5⟩ := LL.out.all3
  go_wp2_with fail
  go_region_held3 (fun w' => w'.cell? ⟨w5.heap.size, 0, none⟩ = some (.bool t) ∧ w'.cell? ⟨w5.heap.size, 1, none⟩ = some (.slice x5 A'.length y5) ∧ w'.cell? ⟨w5.heap.size, 2, none⟩ = some (.slice z5 D'.length p5) ∧ w'.cell? ⟨w.heap.size + 1, 0, none⟩ = some (.bool t) ∧ w'.cell? ⟨w.heap.size + 1, 1, none⟩ = some (.slice b' A'.length d') ∧ w'.cell? ⟨w.heap.size + 1, 2, none⟩ = some (.slice e' D'.length f')) (first | exact ⟨q0, q1, q2, q3, q4, q5⟩) (first | (go_at_call 30; (with_reducible refine (toRat_came t _ _ _ _ _ _ _ A' D' (by omega) (by omega) _ rL.out).mono ?_); rintro e w10 ⟨v10, u10, rfl, i1, b1⟩; have t10 : w9.heap.size ≤ w10.heap.size := (by have := b1.size; first | exact this | omega | (simp at this; omega)); have rK := hid (rK.out.old b1); have rL := hid (rL.out.old b1); have LK := hid (LK.out.old b1); have LL := hid (LL.out.old b1); have W0 := hid (W0.out.old b1); have LW0 := hid (LW0.out.old b1); have X0 := hid (X0.out.old b1); have LX0 := hid (LX0.out.old b1); have X1 := hid (X1.out.old b1); have LX1 := hid (LX1.out.old b1); have G0 := hid (G0.out.old b1); have LG0 := hid (LG0.out.old b1); have B := hid (B.out.trans (b1.mono B.out.size)); obtain ⟨q0, q1, q2⟩ := LX1.out.all3; obtain ⟨q3, q4, q5⟩ := LL.out.all3; have T1 := hid i1; obtain ⟨x10, y10, z10, p10, rfl, rfl⟩ := i1.form; clear i1 b1) | (go_at_call 23; (with_reducible refine (eqRat_w t _ _ _ _ A' D' _ _ _ _ (by omega) (by omega) _ X1.out.w T1.out.w).mono ?_); rintro e w11 ⟨rfl, b1⟩; have t11 : w10.heap.size ≤ w11.heap.size := (by have := b1.size; first | exact this | omega | (simp at this; omega)); have rK := hid (rK.out.old b1); have rL := hid (rL.out.old b1); have LK := hid (LK.out.old b1); have LL := hid (LL.out.old b1); have W0 := hid (W0.out.old b1); have LW0 := hid (LW0.out.old b1); have X0 := hid (X0.out.old b1); have LX0 := hid (LX0.out.old b1); have X1 := hid (X1.out.old b1); have LX1 := hid (LX1.out.old b1); have G0 := hid (G0.out.old b1); have LG0 := hid (LG0.out.old b1); have T1 := hid (T1.out.old b1); have B := hid (B.out.trans (b1.mono B.out.size)); obtain ⟨q0, q1, q2⟩ := LX1.out.all3; obtain ⟨q3, q4, q5⟩ := LL.out.all3; clear b1))
  clear q0 q1 q2 q3 q4 q5
  obtain ⟨q0, q1, q2, q3, q4⟩ := LX0.out.all5
  go_wp2_with fail
  (with_reducible refine (markRow_k x s (1) (by omega) (by omega) (by omega) (by omega) (by omega) _ X0.out (by omega)).mono ?_)
  clear q0 q1 q2 q3 q4
  rintro e w12 ⟨rfl, o1, b1⟩
  have t12 : w11.heap.size ≤ w12.heap.size := by have := b1.size; omega
  have X0 := hid o1
  have rK := hid (rK.out.onlyG b1 (by omega))
  have rL := hid (rL.out.onlyG b1 (by omega))
  have LK := hid (LK.out.onlyG b1 (by omega))
  have LL := hid (LL.out.onlyG b1 (by omega))
  have W0 := hid (W0.out.onlyG b1 (by omega))
  have LW0 := hid (LW0.out.onlyG b1 (by omega))
  have LX0 := hid (LX0.out.onlyG b1 (by omega))
  have X1 := hid (X1.out.onlyG b1 (by omega))
  have LX1 := hid (LX1.out.onlyG b1 (by omega))
  have G0 := hid (G0.out.onlyG b1 (by omega))
  have LG0 := hid (LG0.out.onlyG b1 (by omega))
  have B := hid (in_onlyR B.out b1 (by omega))
  clear o1 b1
  obtain ⟨q0, q1, q2⟩ := LX1.out.all3
  go_wp2_with fail
  (with_reducible refine (markRat_obj t _ _ A' D' (1 + (szT K : Int) + (A.length : Int) + (D.length : Int)) _ _ (by omega) (by omega) (by omega) (by omega) _ X1.out).mono ?_)
  clear q0 q1 q2
  rintro e w13 ⟨rfl, o1, b1⟩
  have t13 : w12.heap.size ≤ w13.heap.size := by have := b1.size; omega
  have X1 := hid o1
  have rK := hid (rK.out.onlyG b1 (by omega))
  have rL := hid (rL.out.onlyG b1 (by omega))
  have LK := hid (LK.out.onlyG b1 (by omega))
  have LL := hid (LL.out.onlyG b1 (by omega))
  have W0 := hid (W0.out.onlyG b1 (by omega))
  have LW0 := hid (LW0.out.onlyG b1 (by omega))
  have X0 := hid (X0.out.onlyG b1 (by omega))
  have LX0 := hid (LX0.out.onlyG b1 (by omega))
  have LX1 := hid (LX1.out.onlyG b1 (by omega))
  have G0 := hid (G0.out.onlyG b1 (by omega))
  have LG0 := hid (LG0.out.onlyG b1 (by omega))
  have B := hid (in_onlyR B.out b1 (by omega))
  clear o1 b1
  have hm0 : ¬ 1 + (szT K : Int) + (A.length : Int) + (D.length : Int) + (A'.length : Int) + (D'.length : Int) < 0 := by omega
  obtain ⟨q0, q1, q2, q3, q4⟩ := LG0.out.all5
  obtain ⟨q5, q6, q7, q8, q9⟩ := LW0.out.all5
  go_wp2_with fail
  (with_reducible refine (eqRow_k rx rs (by omega) (by omega) (by omega) _ G0.out.w W0.out.w).mono ?_)
  clear q0 q1 q2 q3 q4 q5 q6 q7 q8 q9
  rintro e w14 ⟨rfl, b1⟩
  have t14 : w13.heap.size ≤ w14.heap.size := by have := b1.size; omega
  have rK := hid (rK.out.old b1)
  have rL := hid (rL.out.old b1)
  have LK := hid (LK.out.old b1)
  have LL := hid (LL.out.old b1)
  have W0 := hid (W0.out.old b1)
  have LW0 := hid (LW0.out.old b1)
  have X0 := hid (X0.out.old b1)
  have LX0 := hid (LX0.out.old b1)
  have X1 := hid (X1.out.old b1)
  have LX1 := hid (LX1.out.old b1)
  have G0 := hid (G0.out.old b1)
  have LG0 := hid (LG0.out.old b1)
  have B := hid (B.out.trans (b1.mono B.out.size))
  clear b1
  obtain ⟨q0, q1, q2, q3, q4⟩ := LG0.out.all5
  go_wp2_with fail
  (with_reducible refine (markRow_k rx rs 1 (by omega) (by omega) (by omega) (by omega) (by omega) _ G0.out (by omega)).mono ?_)
  clear q0 q1 q2 q3 q4
  rintro e w15 ⟨rfl, o1, b1⟩
  have t15 : w14.heap.size ≤ w15.heap.size := by have := b1.size; omega
  have G0 := hid o1
  have rK := hid (rK.out.onlyG b1 (by omega))
  have rL := hid (rL.out.onlyG b1 (by omega))
  have LK := hid (LK.out.onlyG b1 (by omega))
  have LL := hid (LL.out.onlyG b1 (by omega))
  have W0 := hid (W0.out.onlyG b1 (by omega))
  have LW0 := hid (LW0.out.onlyG b1 (by omega))
  have LG0 := hid (LG0.out.onlyG b1 (by omega))
  have B := hid (in_onlyR B.out b1 (by omega))
  clear o1 b1
  have hq0 : ¬ 1 + (szT RT : Int) + (R1.length : Int) + (R2.length : Int) < 0 := by omega
  obtain ⟨q0, q1, q2, q3, q4⟩ := LG0.out.all5
  go_wp2_with fail
  (with_reducible refine (heldRow_k rx rs (K := RT) R1.length R2.length 1 (by omega) (by omega) (by omega) (by omega) (by omega) _ G0.out).mono ?_)
  clear q0 q1 q2 q3 q4
  rintro e w16 ⟨rfl, b1⟩
  have t16 : w15.heap.size ≤ w16.heap.size := by have := b1.size; omega
  have rK := hid (rK.out.old b1)
  have rL := hid (rL.out.old b1)
  have LK := hid (LK.out.old b1)
  have LL := hid (LL.out.old b1)
  have W0 := hid (W0.out.old b1)
  have LW0 := hid (LW0.out.old b1)
  have G0 := hid (G0.out.old b1)
  have LG0 := hid (LG0.out.old b1)
  have B := hid (B.out.trans (b1.mono B.out.size))
  clear b1
  go_upto_region 31 with fail
  go_cut [13] (fun sl wx => LaidG true w16 RT rx rs R1 R2 sl wx)
  case first =>
   have rK0 := rK
   have rK := hid (rK0.out.old (Below_drew1 (Below.refl _ _)))
   have rL0 := rL
   have rL := hid (rL0.out.old (Below_drew1 (Below.refl _ _)))
   have LK0 := LK
   have LK := hid (LK0.out.old (Below_drew1 (Below.refl _ _)))
   have LL0 := LL
   have LL := hid (LL0.out.old (Below_drew1 (Below.refl _ _)))
   have W00 := W0
   have W0 := hid (W00.out.old (Below_drew1 (Below.refl _ _)))
   have LW00 := LW0
   have LW0 := hid (LW00.out.old (Below_drew1 (Below.refl _ _)))
   have G00 := G0
   have G0 := hid (G00.out.old (Below_drew1 (Below.refl _ _)))
   have LG00 := LG0
   have LG0 := hid (LG00.out.old (Below_drew1 (Below.refl _ _)))
   have CC := hid (show Below w16.heap.size w16 w16.drew from Below_drew1 (Below.refl _ _))
   have eD : w16.drew.heap.size = w16.heap.size := rfl
   have LTLK := LK.out.lt
   have LTLL := LL.out.lt
   obtain ⟨q0, q1, q2, q3, q4⟩ := LK.out.all5
   obtain ⟨q5, q6, q7⟩ := LL.out.all3
   refine wp_region_held_drew (S := (fun w' => w'.cell? ⟨w.heap.size, 0, none⟩ = some (.slice a n c) ∧ w'.cell? ⟨w.heap.size, 1, none⟩ = some (.int .i64 x) ∧ w'.cell? ⟨w.heap.size, 2, none⟩ = some (.bool s) ∧ w'.cell? ⟨w.heap.size, 3, none⟩ = some (.slice b A.length d) ∧ w'.cell? ⟨w.heap.size, 4, none⟩ = some (.slice e D.length f) ∧ w'.cell? ⟨w.heap.size + 1, 0, none⟩ = some (.bool t) ∧ w'.cell? ⟨w.heap.size + 1, 1, none⟩ = some (.slice b' A'.length d') ∧ w'.cell? ⟨w.heap.size + 1, 2, none⟩ = some (.slice e' D'.length f'))) (by kernel_rfl) (by first | (with_reducible exact ⟨q0, q1, q2, q3, q4, q5, q6, q7⟩) | ((try dsimp only); with_reducible exact ⟨q0, q1, q2, q3, q4, q5, q6, q7⟩) | exact ⟨q0, q1, q2, q3, q4, q5, q6, q7⟩) (fun hHeld => ?_)
   refine wpAnyH_take (i := 0) (oi := _) (v := ?_) rfl (by kernel_rfl) (by kernel_rfl) (by kernel_rfl) (fun _ _ _ h => h) (Or.inl ⟨by rfl, ?_⟩) (by assumption) ?_
   rotate_left
   ·(intro w hSw; (try dsimp only at hSw); go_simp; try (with_reducible rfl))
   try simp only [Act.put, List.setIfInBounds_toArray, List.set_cons_zero, List.set_cons_succ, List.getElem_toArray, List.getElem_cons_zero]
   refine wpAnyH_take (i := 2) (oi := _) (v := ?_) rfl (by kernel_rfl) (by kernel_rfl) (by kernel_rfl) (fun _ _ _ h => h) (Or.inl ⟨by rfl, ?_⟩) (by assumption) ?_
   rotate_left
   ·(intro w hSw; (try dsimp only at hSw); go_simp; try (with_reducible rfl))
   try simp only [Act.put, List.setIfInBounds_toArray, List.set_cons_zero, List.set_cons_succ, List.getElem_toArray, List.getElem_cons_zero, List.getElem_cons_succ]
   refine wpAnyH_ready (rs := [1, 5]) (by kernel_rfl) (by simp) ?_
   refine AllReadyH.cons (o := _) rfl (fun KK hK => ?_) (AllReadyH.cons (o := _) rfl (fun KK hK => ?_) AllReadyH.nil)
   ·skip
    go_simp
    (with_reducible refine (toRow_came _ _ _ x s _ _ _ _ _ _ _ K A D huK haK hdK _ rK.out).mono ?_)
    rintro e wc0 ⟨a6, c6, b6, d6, g6, f6, m6, rfl, i1, bb⟩
    have sz0 : w16.drew.heap.size ≤ wc0.heap.size := bb.size
    have rK := hid (rK.out.old bb)
    have rL := hid (rL.out.old bb)
    have LK := hid (LK.out.old bb)
    have LL := hid (LL.out.old bb)
    have W0 := hid (W0.out.old bb)
    have LW0 := hid (LW0.out.old bb)
    have G0 := hid (G0.out.old bb)
    have LG0 := hid (LG0.out.old bb)
    have CC := hid (CC.out.trans (bb.mono CC.out.size))
    have T0 := hid i1
    clear i1
    obtain ⟨q0, q1, q2, q3, q4⟩ := LK.out.all5
    obtain ⟨q5, q6, q7⟩ := LL.out.all3
    clear bb
    go_wp2_with fail
    refine hK.out _ _ ?_ (fun hHeld => ?_)
    ·first | (with_reducible exact ⟨q0, q1, q2, q3, q4, q5, q6, q7⟩) | ((try dsimp only); with_reducible exact ⟨q0, q1, q2, q3, q4, q5, q6, q7⟩) | exact ⟨q0, q1, q2, q3, q4, q5, q6, q7⟩
    refine wpAnyH_ready (rs := [3, 5]) (by kernel_rfl) (by simp) ?_
    refine AllReadyH.cons (o := _) rfl (fun KK hK => ?_) (AllReadyH.cons (o := _) rfl (fun KK hK => ?_) AllReadyH.nil)
    ·skip
     go_simp
     (with_reducible refine (toRat_came t _ _ _ _ _ _ _ A' D' (by omega) (by omega) _ rL.out).mono ?_)
     rintro e wc1 ⟨v7, u7, rfl, i1, bb⟩
     have sz1 : wc0.heap.size ≤ wc1.heap.size := bb.size
     have rK := hid (rK.out.old bb)
     have rL := hid (rL.out.old bb)
     have LK := hid (LK.out.old bb)
     have LL := hid (LL.out.old bb)
     have W0 := hid (W0.out.old bb)
     have LW0 := hid (LW0.out.old bb)
     have G0 := hid (G0.out.old bb)
     have LG0 := hid (LG0.out.old bb)
     have T0 := hid (T0.out.old bb)
     have CC := hid (CC.out.trans (bb.mono CC.out.size))
     obtain ⟨x7, y7, z7, p7, rfl, rfl⟩ := i1.form
     have T1 := hid i1
     clear i1
     obtain ⟨q0, q1, q2, q3, q4⟩ := LK.out.all5
     obtain ⟨q5, q6, q7⟩ := LL.out.all3
     clear bb
     go_wp2_with fail
     refine hK.out _ _ ?_ (fun hHeld => ?_)
     ·first | (with_reducible exact ⟨q0, q1, q2, q3, q4, q5, q6, q7⟩) | ((try dsimp only); with_reducible exact ⟨q0, q1, q2, q3, q4, q5, q6, q7⟩) | exact ⟨q0, q1, q2, q3, q4, q5, q6, q7⟩
     refine wpAnyH_ready (rs := [4, 5]) (by kernel_rfl) (by simp) ?_
     refine AllReadyH.cons (o := _) rfl (fun KK hK => ?_) (AllReadyH.cons (o := _) rfl (fun KK hK => ?_) AllReadyH.nil)
     ·skip
      go_simp
      (with_reducible refine (KI.out _ _ _ _ (T0.out.w) _ _ _ _ T1.out).mono ?_)
      rintro e wc2 ⟨a8, c8, b8, d8, g8, f8, m8, rfl, i1, bb⟩
      have sz2 : wc1.heap.size ≤ wc2.heap.size := bb.size
      have rK := hid (rK.out.old bb)
      have rL := hid (rL.out.old bb)
      have LK := hid (LK.out.old bb)
      have LL := hid (LL.out.old bb)
      have W0 := hid (W0.out.old bb)
      have LW0 := hid (LW0.out.old bb)
      have G0 := hid (G0.out.old bb)
      have LG0 := hid (LG0.out.old bb)
      have T0 := hid (T0.out.old bb)
      have T1 := hid (T1.out.old bb)
      have CC := hid (CC.out.trans (bb.mono CC.out.size))
      have I1 := hid i1.t
      have I2 := hid (i1.r.w)
      have hn8 := i1.r.ne
      have hl8 := i1.l
      have hh8 := i1.h
      clear i1
      obtain ⟨q0, q1, q2, q3, q4⟩ := LK.out.all5
      obtain ⟨q5, q6, q7⟩ := LL.out.all3
      clear bb
      go_wp2_with fail
      refine hK.out _ _ ?_ (fun hHeld => ?_)
      ·first | (with_reducible exact ⟨q0, q1, q2, q3, q4, q5, q6, q7⟩) | ((try dsimp only); with_reducible exact ⟨q0, q1, q2, q3, q4, q5, q6, q7⟩) | exact ⟨q0, q1, q2, q3, q4, q5, q6, q7⟩
      refine wpAnyH_ready (rs := [5]) (by kernel_rfl) (by simp) ?_
      refine AllReadyH.cons (o := _) rfl (fun KK hK => ?_) AllReadyH.nil
      obtain ⟨qw0, qw1, qw2, qw3, qw4⟩ := LK.out.all5
      obtain ⟨qw5, qw6, qw7⟩ := LL.out.all3
      have I1w := I1
      have I2w := I2
      have CCw := CC
      have HTLK := hid (show w.heap.size < (wc2).heap.size from Nat.lt_of_lt_of_le LTLK CC.out.size)
      have HTLL := hid (show w.heap.size + 1 < (wc2).heap.size from Nat.lt_of_lt_of_le LTLL CC.out.size)
      have HMLK := hid (show w.heap.size < wc2.heap.size from HTLK.out)
      have HMLL := hid (show w.heap.size + 1 < wc2.heap.size from HTLL.out)
      go_simp
      have BN := hid (below_new' (w := wc2) (o := .cells #[.slice none 0 0, .int .i64 0, .bool false, .slice none 0 0, .slice none 0 0] 39))
      have NZ := hid (LocA.new (w := wc2) (T := 39) (cs := #[.slice none 0 0, .int .i64 0, .bool false, .slice none 0 0, .slice none 0 0]))
      have eA : (wc2.alloc (.cells #[.slice none 0 0, .int .i64 0, .bool false, .slice none 0 0, .slice none 0 0] 39)).heap.size = wc2.heap.size + 1 := by simp
      have hNZ : w16.heap.size ≤ wc2.heap.size := CC.out.size
      have rK := hid (rK.out.old BN.out)
      have rL := hid (rL.out.old BN.out)
      have LK := hid (LK.out.old BN.out)
      have LL := hid (LL.out.old BN.out)
      have W0 := hid (W0.out.old BN.out)
      have LW0 := hid (LW0.out.old BN.out)
      have G0 := hid (G0.out.old BN.out)
      have LG0 := hid (LG0.out.old BN.out)
      have T0 := hid (T0.out.old BN.out)
      have T1 := hid (T1.out.old BN.out)
      have I1 := hid (I1.out.old BN.out)
      have I2 := hid (I2.out.old BN.out)
      have CC := hid (CC.out.alloc CC.out.size (.cells #[.slice none 0 0, .int .i64 0, .bool false, .slice none 0 0, .slice none 0 0] 39))
      obtain ⟨q0, q1, q2, q3, q4⟩ := LK.out.all5
      obtain ⟨q5, q6, q7⟩ := LL.out.all3
      refine hK.out _ _ ?_ (fun hHeld => ?_)
      ·first | (with_reducible exact ⟨q0, q1, q2, q3, q4, q5, q6, q7⟩) | ((try dsimp only); with_reducible exact ⟨q0, q1, q2, q3, q4, q5, q6, q7⟩) | exact ⟨q0, q1, q2, q3, q4, q5, q6, q7⟩
      try simp only [Act.put, List.setIfInBounds_toArray, List.set_cons_zero, List.set_cons_succ, List.getElem_toArray, List.getElem_cons_zero, List.getElem_cons_succ]
      refine wpAnyH_ready (rs := [6]) (by kernel_rfl) (by simp) ?_
      refine AllReadyH.cons (o := _) rfl (fun KK hK => ?_) AllReadyH.nil
      have hNB := NZ.out.lt
      have hsB := CC.out.size
      have f0 := NZ.out.f 0
      have f1 := NZ.out.f 1
      have f2 := NZ.out.f 2
      have f3 := NZ.out.f 3
      have f4 := NZ.out.f 4
      have p0 := NZ.out.c 0 rfl
      have p1 := NZ.out.c 1 rfl
      have p2 := NZ.out.c 2 rfl
      have p3 := NZ.out.c 3 rfl
      have p4 := NZ.out.c 4 rfl
      go_simp
      (try go_wp2_with fail)
      refine hK.out _ _ ?_ (fun hHeld => ?_)
      ·with_reducible exact ⟨(Below.cell below_new' (p := ⟨w.heap.size, 0, none⟩) HTLK.out).trans qw0, (Below.cell below_new' (p := ⟨w.heap.size, 1, none⟩) HTLK.out).trans qw1, (Below.cell below_new' (p := ⟨w.heap.size, 2, none⟩) HTLK.out).trans qw2, (Below.cell below_new' (p := ⟨w.heap.size, 3, none⟩) HTLK.out).trans qw3, (Below.cell below_new' (p := ⟨w.heap.size, 4, none⟩) HTLK.out).trans qw4, (Below.cell below_new' (p := ⟨w.heap.size + 1, 0, none⟩) HTLL.out).trans qw5, (Below.cell below_new' (p := ⟨w.heap.size + 1, 1, none⟩) HTLL.out).trans qw6, (Below.cell below_new' (p := ⟨w.heap.size + 1, 2, none⟩) HTLL.out).trans qw7⟩
      refine wpAnyH_done (by kernel_rfl) ?_ _
      go_wp2_with fail
      go_meet
      exact LaidG_a I1w.out I2w.out (fun _ => hn8) (by omega) hl8 (Nat.le_refl _) hh8 (by omega) CCw.out
     ·skip
      obtain ⟨qw0, qw1, qw2, qw3, qw4⟩ := LK.out.all5
      obtain ⟨qw5, qw6, qw7⟩ := LL.out.all3
      have CCw := CC
      have HTLK := hid (show w.heap.size < (wc1).heap.size from Nat.lt_of_lt_of_le LTLK CC.out.size)
      have HTLL := hid (show w.heap.size + 1 < (wc1).heap.size from Nat.lt_of_lt_of_le LTLL CC.out.size)
      have HMLK := hid (show w.heap.size < wc1.heap.size from HTLK.out)
      have HMLL := hid (show w.heap.size + 1 < wc1.heap.size from HTLL.out)
      go_simp
      have BN := hid (below_new' (w := wc1) (o := .cells #[.slice none 0 0, .int .i64 0, .bool false, .slice none 0 0, .slice none 0 0] 39))
      have NZ := hid (LocA.new (w := wc1) (T := 39) (cs := #[.slice none 0 0, .int .i64 0, .bool false, .slice none 0 0, .slice none 0 0]))
      have eA : (wc1.alloc (.cells #[.slice none 0 0, .int .i64 0, .bool false, .slice none 0 0, .slice none 0 0] 39)).heap.size = wc1.heap.size + 1 := by simp
      have hNZ : w16.heap.size ≤ wc1.heap.size := CC.out.size
      have rK := hid (rK.out.old BN.out)
      have rL := hid (rL.out.old BN.out)
      have LK := hid (LK.out.old BN.out)
      have LL := hid (LL.out.old BN.out)
      have W0 := hid (W0.out.old BN.out)
      have LW0 := hid (LW0.out.old BN.out)
      have G0 := hid (G0.out.old BN.out)
      have LG0 := hid (LG0.out.old BN.out)
      have T0 := hid (T0.out.old BN.out)
      have T1 := hid (T1.out.old BN.out)
      have CC := hid (CC.out.alloc CC.out.size (.cells #[.slice none 0 0, .int .i64 0, .bool false, .slice none 0 0, .slice none 0 0] 39))
      obtain ⟨q0, q1, q2, q3, q4⟩ := LK.out.all5
      obtain ⟨q5, q6, q7⟩ := LL.out.all3
      refine hK.out _ _ ?_ (fun hHeld => ?_)
      ·first | (with_reducible exact ⟨q0, q1, q2, q3, q4, q5, q6, q7⟩) | ((try dsimp only); with_reducible exact ⟨q0, q1, q2, q3, q4, q5, q6, q7⟩) | exact ⟨q0, q1, q2, q3, q4, q5, q6, q7⟩
      try simp only [Act.put, List.setIfInBounds_toArray, List.set_cons_zero, List.set_cons_succ, List.getElem_toArray, List.getElem_cons_zero, List.getElem_cons_succ]
      refine wpAnyH_ready (rs := [4]) (by kernel_rfl) (by simp) ?_
      refine AllReadyH.cons (o := _) rfl (fun KK hK => ?_) AllReadyH.nil
      go_simp
      (with_reducible refine (KI.out _ _ _ _ (T0.out.w) _ _ _ _ T1.out).mono ?_)
      rintro e wc2 ⟨a8, c8, b8, d8, g8, f8, m8, rfl, i1, bb⟩
      have sz2 : (wc1.alloc (.cells #[.slice none 0 0, .int .i64 0, .bool false, .slice none 0 0, .slice none 0 0] 39)).heap.size ≤ wc2.heap.size := bb.size
      have rK := hid (rK.out.old bb)
      have rL := hid (rL.out.old bb)
      have LK := hid (LK.out.old bb)
      have LL := hid (LL.out.old bb)
      have W0 := hid (W0.out.old bb)
      have LW0 := hid (LW0.out.old bb)
      have G0 := hid (G0.out.old bb)
      have LG0 := hid (LG0.out.old bb)
      have T0 := hid (T0.out.old bb)
      have T1 := hid (T1.out.old bb)
      have NZ := hid (NZ.out.old bb)
      have CC := hid (CC.out.trans (bb.mono CC.out.size))
      have I1 := hid i1.t
      have I2 := hid (i1.r.w)
      have hn8 := i1.r.ne
      have hl8 := i1.l
      have hh8 := i1.h
      clear i1
      obtain ⟨q0, q1, q2, q3, q4⟩ := LK.out.all5
      obtain ⟨q5, q6, q7⟩ := LL.out.all3
      clear bb
      go_wp2_with fail
      refine hK.out _ _ ?_ (fun hHeld => ?_)
      ·first | (with_reducible exact ⟨q0, q1, q2, q3, q4, q5, q6, q7⟩) | ((try dsimp only); with_reducible exact ⟨q0, q1, q2, q3, q4, q5, q6, q7⟩) | exact ⟨q0, q1, q2, q3, q4, q5, q6, q7⟩
      refine wpAnyH_ready (rs := [6]) (by kernel_rfl) (by simp) ?_
      refine AllReadyH.cons (o := _) rfl (fun KK hK => ?_) AllReadyH.nil
      have hNB := NZ.out.lt
      have hsB := CC.out.size
      have f0 := NZ.out.f 0
      have f1 := NZ.out.f 1
      have f2 := NZ.out.f 2
      have f3 := NZ.out.f 3
      have f4 := NZ.out.f 4
      have p0 := NZ.out.c 0 rfl
      have p1 := NZ.out.c 1 rfl
      have p2 := NZ.out.c 2 rfl
      have p3 := NZ.out.c 3 rfl
      have p4 := NZ.out.c 4 rfl
      go_simp
      (try go_wp2_with fail)
      skip
      skip
      refine hK.out _ _ ?_ (fun hHeld => ?_)
      ·with_reducible exact ⟨(cell_set5 (Nat.ne_of_lt HMLK.out)).trans q0, (cell_set5 (Nat.ne_of_lt HMLK.out)).trans q1, (cell_set5 (Nat.ne_of_lt HMLK.out)).trans q2, (cell_set5 (Nat.ne_of_lt HMLK.out)).trans q3, (cell_set5 (Nat.ne_of_lt HMLK.out)).trans q4, (cell_set5 (Nat.ne_of_lt HMLL.out)).trans q5, (cell_set5 (Nat.ne_of_lt HMLL.out)).trans q6, (cell_set5 (Nat.ne_of_lt HMLL.out)).trans q7⟩
      refine wpAnyH_done (by kernel_rfl) ?_ _
      go_wp2_with fail
      go_meet
      exact LaidG_b NZ.out I1.out I2.out (fun _ => hn8) (by omega) (by omega) hl8 (Nat.le_refl _) hh8 (by omega) (by omega) (by omega) CC.out
    ·skip
     obtain ⟨qw0, qw1, qw2, qw3, qw4⟩ := LK.out.all5
     obtain ⟨qw5, qw6, qw7⟩ := LL.out.all3
     have CCw := CC
     have HTLK := hid (show w.heap.size < (wc0).heap.size from Nat.lt_of_lt_of_le LTLK CC.out.size)
     have HTLL := hid (show w.heap.size + 1 < (wc0).heap.size from Nat.lt_of_lt_of_le LTLL CC.out.size)
     have HMLK := hid (show w.heap.size < wc0.heap.size from HTLK.out)
     have HMLL := hid (show w.heap.size + 1 < wc0.heap.size from HTLL.out)
     go_simp
     have BN := hid (below_new' (w := wc0) (o := .cells #[.slice none 0 0, .int .i64 0, .bool false, .slice none 0 0, .slice none 0 0] 39))
     have NZ := hid (LocA.new (w := wc0) (T := 39) (cs := #[.slice none 0 0, .int .i64 0, .bool false, .slice none 0 0, .slice none 0 0]))
     have eA : (wc0.alloc (.cells #[.slice none 0 0, .int .i64 0, .bool false, .slice none 0 0, .slice none 0 0] 39)).heap.size = wc0.heap.size + 1 := by simp
     have hNZ : w16.heap.size ≤ wc0.heap.size := CC.out.size
     have rK := hid (rK.out.old BN.out)
     have rL := hid (rL.out.old BN.out)
     have LK := hid (LK.out.old BN.out)
     have LL := hid (LL.out.old BN.out)
     have W0 := hid (W0.out.old BN.out)
     have LW0 := hid (LW0.out.old BN.out)
     have G0 := hid (G0.out.old BN.out)
     have LG0 := hid (LG0.out.old BN.out)
     have T0 := hid (T0.out.old BN.out)
     have CC := hid (CC.out.alloc CC.out.size (.cells #[.slice none 0 0, .int .i64 0, .bool false, .slice none 0 0, .slice none 0 0] 39))
     obtain ⟨q0, q1, q2, q3, q4⟩ := LK.out.all5
     obtain ⟨q5, q6, q7⟩ := LL.out.all3
     refine hK.out _ _ ?_ (fun hHeld => ?_)
     ·first | (with_reducible exact ⟨q0, q1, q2, q3, q4, q5, q6, q7⟩) | ((try dsimp only); with_reducible exact ⟨q0, q1, q2, q3, q4, q5, q6, q7⟩) | exact ⟨q0, q1, q2, q3, q4, q5, q6, q7⟩
     try simp only [Act.put, List.setIfInBounds_toArray, List.set_cons_zero, List.set_cons_succ, List.getElem_toArray, List.getElem_cons_zero, List.getElem_cons_succ]
     refine wpAnyH_ready (rs := [3]) (by kernel_rfl) (by simp) ?_
     refine AllReadyH.cons (o := _) rfl (fun KK hK => ?_) AllReadyH.nil
     go_simp
     (with_reducible refine (toRat_came t _ _ _ _ _ _ _ A' D' (by omega) (by omega) _ rL.out).mono ?_)
     rintro e wc1 ⟨v7, u7, rfl, i1, bb⟩
     have sz1 : (wc0.alloc (.cells #[.slice none 0 0, .int .i64 0, .bool false, .slice none 0 0, .slice none 0 0] 39)).heap.size ≤ wc1.heap.size := bb.size
     have rK := hid (rK.out.old bb)
     have rL := hid (rL.out.old bb)
     have LK := hid (LK.out.old bb)
     have LL := hid (LL.out.old bb)
     have W0 := hid (W0.out.old bb)
     have LW0 := hid (LW0.out.old bb)
     have G0 := hid (G0.out.old bb)
     have LG0 := hid (LG0.out.old bb)
     have T0 := hid (T0.out.old bb)
     have NZ := hid (NZ.out.old bb)
     have CC := hid (CC.out.trans (bb.mono CC.out.size))
     obtain ⟨x7, y7, z7, p7, rfl, rfl⟩ := i1.form
     have T1 := hid i1
     clear i1
     obtain ⟨q0, q1, q2, q3, q4⟩ := LK.out.all5
     obtain ⟨q5, q6, q7⟩ := LL.out.all3
     clear bb
     go_wp2_with fail
     refine hK.out _ _ ?_ (fun hHeld => ?_)
     ·first | (with_reducible exact ⟨q0, q1, q2, q3, q4, q5, q6, q7⟩) | ((try dsimp only); with_reducible exact ⟨q0, q1, q2, q3, q4, q5, q6, q7⟩) | exact ⟨q0, q1, q2, q3, q4, q5, q6, q7⟩
     refine wpAnyH_ready (rs := [4]) (by kernel_rfl) (by simp) ?_
     refine AllReadyH.cons (o := _) rfl (fun KK hK => ?_) AllReadyH.nil
     go_simp
     (with_reducible refine (KI.out _ _ _ _ (T0.out.w) _ _ _ _ T1.out).mono ?_)
     rintro e wc2 ⟨a8, c8, b8, d8, g8, f8, m8, rfl, i1, bb⟩
     have sz2 : wc1.heap.size ≤ wc2.heap.size := bb.size
     have rK := hid (rK.out.old bb)
     have rL := hid (rL.out.old bb)
     have LK := hid (LK.out.old bb)
     have LL := hid (LL.out.old bb)
     have W0 := hid (W0.out.old bb)
     have LW0 := hid (LW0.out.old bb)
     have G0 := hid (G0.out.old bb)
     have LG0 := hid (LG0.out.old bb)
     have T0 := hid (T0.out.old bb)
     have T1 := hid (T1.out.old bb)
     have NZ := hid (NZ.out.old bb)
     have CC := hid (CC.out.trans (bb.mono CC.out.size))
     have I1 := hid i1.t
     have I2 := hid (i1.r.w)
     have hn8 := i1.r.ne
     have hl8 := i1.l
     have hh8 := i1.h
     clear i1
     obtain ⟨q0, q1, q2, q3, q4⟩ := LK.out.all5
     obtain ⟨q5, q6, q7⟩ := LL.out.all3
     clear bb
     go_wp2_with fail
     refine hK.out _ _ ?_ (fun hHeld => ?_)
     ·first | (with_reducible exact ⟨q0, q1, q2, q3, q4, q5, q6, q7⟩) | ((try dsimp only); with_reducible exact ⟨q0, q1, q2, q3, q4, q5, q6, q7⟩) | exact ⟨q0, q1, q2, q3, q4, q5, q6, q7⟩
     refine wpAnyH_ready (rs := [6]) (by kernel_rfl) (by simp) ?_
     refine AllReadyH.cons (o := _) rfl (fun KK hK => ?_) AllReadyH.nil
     have hNB := NZ.out.lt
     have hsB := CC.out.size
     have f0 := NZ.out.f 0
     have f1 := NZ.out.f 1
     have f2 := NZ.out.f 2
     have f3 := NZ.out.f 3
     have f4 := NZ.out.f 4
     have p0 := NZ.out.c 0 rfl
     have p1 := NZ.out.c 1 rfl
     have p2 := NZ.out.c 2 rfl
     have p3 := NZ.out.c 3 rfl
     have p4 := NZ.out.c 4 rfl
     go_simp
     (try go_wp2_with fail)
     skip
     skip
     refine hK.out _ _ ?_ (fun hHeld => ?_)
     ·with_reducible exact ⟨(cell_set5 (Nat.ne_of_lt HMLK.out)).trans q0, (cell_set5 (Nat.ne_of_lt HMLK.out)).trans q1, (cell_set5 (Nat.ne_of_lt HMLK.out)).trans q2, (cell_set5 (Nat.ne_of_lt HMLK.out)).trans q3, (cell_set5 (Nat.ne_of_lt HMLK.out)).trans q4, (cell_set5 (Nat.ne_of_lt HMLL.out)).trans q5, (cell_set5 (Nat.ne_of_lt HMLL.out)).trans q6, (cell_set5 (Nat.ne_of_lt HMLL.out)).trans q7⟩
     refine wpAnyH_done (by kernel_rfl) ?_ _
     go_wp2_with fail
     go_meet
     exact LaidG_b NZ.out I1.out I2.out (fun _ => hn8) (by omega) (by omega) hl8 (Nat.le_refl _) hh8 (by omega) (by omega) (by omega) CC.out
   ·skip
    obtain ⟨qw0, qw1, qw2, qw3, qw4⟩ := LK.out.all5
    obtain ⟨qw5, qw6, qw7⟩ := LL.out.all3
    have CCw := CC
    have HTLK := hid (show w.heap.size < (w16.drew).heap.size from Nat.lt_of_lt_of_le LTLK CC.out.size)
    have HTLL := hid (show w.heap.size + 1 < (w16.drew).heap.size from Nat.lt_of_lt_of_le LTLL CC.out.size)
    have HMLK := hid (show w.heap.size < w16.heap.size from LTLK)
    have HMLL := hid (show w.heap.size + 1 < w16.heap.size from LTLL)
    go_simp
    have rK := hid (rK0.out.old (Below_drew1 (below_new' (o := .cells #[.slice none 0 0, .int .i64 0, .bool false, .slice none 0 0, .slice none 0 0] 39))))
    have rL := hid (rL0.out.old (Below_drew1 (below_new' (o := .cells #[.slice none 0 0, .int .i64 0, .bool false, .slice none 0 0, .slice none 0 0] 39))))
    have LK := hid (LK0.out.old (Below_drew1 (below_new' (o := .cells #[.slice none 0 0, .int .i64 0, .bool false, .slice none 0 0, .slice none 0 0] 39))))
    have LL := hid (LL0.out.old (Below_drew1 (below_new' (o := .cells #[.slice none 0 0, .int .i64 0, .bool false, .slice none 0 0, .slice none 0 0] 39))))
    have W0 := hid (W00.out.old (Below_drew1 (below_new' (o := .cells #[.slice none 0 0, .int .i64 0, .bool false, .slice none 0 0, .slice none 0 0] 39))))
    have LW0 := hid (LW00.out.old (Below_drew1 (below_new' (o := .cells #[.slice none 0 0, .int .i64 0, .bool false, .slice none 0 0, .slice none 0 0] 39))))
    have G0 := hid (G00.out.old (Below_drew1 (below_new' (o := .cells #[.slice none 0 0, .int .i64 0, .bool false, .slice none 0 0, .slice none 0 0] 39))))
    have LG0 := hid (LG00.out.old (Below_drew1 (below_new' (o := .cells #[.slice none 0 0, .int .i64 0, .bool false, .slice none 0 0, .slice none 0 0] 39))))
    have CC := hid (show Below w16.heap.size w16 ((w16.alloc (.cells #[.slice none 0 0, .int .i64 0, .bool false, .slice none 0 0, .slice none 0 0] 39)).drew) from Below_drew1 below_new')
    have NZ := hid (show LocA 39 ((w16.alloc (.cells #[.slice none 0 0, .int .i64 0, .bool false, .slice none 0 0, .slice none 0 0] 39)).drew) w16.heap.size #[.slice none 0 0, .int .i64 0, .bool false, .slice none 0 0, .slice none 0 0] from LocA.new)
    have eA : ((w16.alloc (.cells #[.slice none 0 0, .int .i64 0, .bool false, .slice none 0 0, .slice none 0 0] 39)).drew).heap.size = w16.heap.size + 1 := (by show (w16.alloc (.cells #[.slice none 0 0, .int .i64 0, .bool false, .slice none 0 0, .slice none 0 0] 39)).heap.size = _; simp)
    obtain ⟨q0, q1, q2, q3, q4⟩ := LK.out.all5
    obtain ⟨q5, q6, q7⟩ := LL.out.all3
    refine hK.out _ _ ?_ (fun hHeld => ?_)
    ·first | (with_reducible exact ⟨q0, q1, q2, q3, q4, q5, q6, q7⟩) | ((try dsimp only); with_reducible exact ⟨q0, q1, q2, q3, q4, q5, q6, q7⟩) | exact ⟨q0, q1, q2, q3, q4, q5, q6, q7⟩
    try simp only [Act.put, List.setIfInBounds_toArray, List.set_cons_zero, List.set_cons_succ, List.getElem_toArray, List.getElem_cons_zero, List.getElem_cons_succ]
    refine wpAnyH_ready (rs := [1]) (by kernel_rfl) (by simp) ?_
    refine AllReadyH.cons (o := _) rfl (fun KK hK => ?_) AllReadyH.nil
    go_simp
    (with_reducible refine (toRow_came _ _ _ x s _ _ _ _ _ _ _ K A D huK haK hdK _ rK.out).mono ?_)
    rintro e wc0 ⟨a6, c6, b6, d6, g6, f6, m6, rfl, i1, bb⟩
    have sz0 : (w16.alloc (.cells #[.slice none 0 0, .int .i64 0, .bool false, .slice none 0 0, .slice none 0 0] 39)).drew.heap.size ≤ wc0.heap.size := bb.size
    have rK := hid (rK.out.old bb)
    have rL := hid (rL.out.old bb)
    have LK := hid (LK.out.old bb)
    have LL := hid (LL.out.old bb)
    have W0 := hid (W0.out.old bb)
    have LW0 := hid (LW0.out.old bb)
    have G0 := hid (G0.out.old bb)
    have LG0 := hid (LG0.out.old bb)
    have NZ := hid (NZ.out.old bb)
    have CC := hid (CC.out.trans (bb.mono CC.out.size))
    have T0 := hid i1
    clear i1
    obtain ⟨q0, q1, q2, q3, q4⟩ := LK.out.all5
    obtain ⟨q5, q6, q7⟩ := LL.out.all3
    clear bb
    go_wp2_with fail
    refine hK.out _ _ ?_ (fun hHeld => ?_)
    ·first | (with_reducible exact ⟨q0, q1, q2, q3, q4, q5, q6, q7⟩) | ((try dsimp only); with_reducible exact ⟨q0, q1, q2, q3, q4, q5, q6, q7⟩) | exact ⟨q0, q1, q2, q3, q4, q5, q6, q7⟩
    refine wpAnyH_ready (rs := [3]) (by kernel_rfl) (by simp) ?_
    refine AllReadyH.cons (o := _) rfl (fun KK hK => ?_) AllReadyH.nil
    go_simp
    (with_reducible refine (toRat_came t _ _ _ _ _ _ _ A' D' (by omega) (by omega) _ rL.out).mono ?_)
    rintro e wc1 ⟨v7, u7, rfl, i1, bb⟩
    have sz1 : wc0.heap.size ≤ wc1.heap.size := bb.size
    have rK := hid (rK.out.old bb)
    have rL := hid (rL.out.old bb)
    have LK := hid (LK.out.old bb)
    have LL := hid (LL.out.old bb)
    have W0 := hid (W0.out.old bb)
    have LW0 := hid (LW0.out.old bb)
    have G0 := hid (G0.out.old bb)
    have LG0 := hid (LG0.out.old bb)
    have T0 := hid (T0.out.old bb)
    have NZ := hid (NZ.out.old bb)
    have CC := hid (CC.out.trans (bb.mono CC.out.size))
    obtain ⟨x7, y7, z7, p7, rfl, rfl⟩ := i1.form
    have T1 := hid i1
    clear i1
    obtain ⟨q0, q1, q2, q3, q4⟩ := LK.out.all5
    obtain ⟨q5, q6, q7⟩ := LL.out.all3
    clear bb
    go_wp2_with fail
    refine hK.out _ _ ?_ (fun hHeld => ?_)
    ·first | (with_reducible exact ⟨q0, q1, q2, q3, q4, q5, q6, q7⟩) | ((try dsimp only); with_reducible exact ⟨q0, q1, q2, q3, q4, q5, q6, q7⟩) | exact ⟨q0, q1, q2, q3, q4, q5, q6, q7⟩
    refine wpAnyH_ready (rs := [4]) (by kernel_rfl) (by simp) ?_
    refine AllReadyH.cons (o := _) rfl (fun KK hK => ?_) AllReadyH.nil
    go_simp
    (with_reducible refine (KI.out _ _ _ _ (T0.out.w) _ _ _ _ T1.out).mono ?_)
    rintro e wc2 ⟨a8, c8, b8, d8, g8, f8, m8, rfl, i1, bb⟩
    have sz2 : wc1.heap.size ≤ wc2.heap.size := bb.size
    have rK := hid (rK.out.old bb)
    have rL := hid (rL.out.old bb)
    have LK := hid (LK.out.old bb)
    have LL := hid (LL.out.old bb)
    have W0 := hid (W0.out.old bb)
    have LW0 := hid (LW0.out.old bb)
    have G0 := hid (G0.out.old bb)
    have LG0 := hid (LG0.out.old bb)
    have T0 := hid (T0.out.old bb)
    have T1 := hid (T1.out.old bb)
    have NZ := hid (NZ.out.old bb)
    have CC := hid (CC.out.trans (bb.mono CC.out.size))
    have I1 := hid i1.t
    have I2 := hid (i1.r.w)
    have hn8 := i1.r.ne
    have hl8 := i1.l
    have hh8 := i1.h
    clear i1
    obtain ⟨q0, q1, q2, q3, q4⟩ := LK.out.all5
    obtain ⟨q5, q6, q7⟩ := LL.out.all3
    clear bb
    go_wp2_with fail
    refine hK.out _ _ ?_ (fun hHeld => ?_)
    ·first | (with_reducible exact ⟨q0, q1, q2, q3, q4, q5, q6, q7⟩) | ((try dsimp only); with_reducible exact ⟨q0, q1, q2, q3, q4, q5, q6, q7⟩) | exact ⟨q0, q1, q2, q3, q4, q5, q6, q7⟩
    refine wpAnyH_ready (rs := [6]) (by kernel_rfl) (by simp) ?_
    refine AllReadyH.cons (o := _) rfl (fun KK hK => ?_) AllReadyH.nil
    have hNB := NZ.out.lt
    have hsB := CC.out.size
    have f0 := NZ.out.f 0
    have f1 := NZ.out.f 1
    have f2 := NZ.out.f 2
    have f3 := NZ.out.f 3
    have f4 := NZ.out.f 4
    have p0 := NZ.out.c 0 rfl
    have p1 := NZ.out.c 1 rfl
    have p2 := NZ.out.c 2 rfl
    have p3 := NZ.out.c 3 rfl
    have p4 := NZ.out.c 4 rfl
    go_simp
    (try go_wp2_with fail)
    skip
    skip
    refine hK.out _ _ ?_ (fun hHeld => ?_)
    ·with_reducible exact ⟨(cell_set5 (Nat.ne_of_lt HMLK.out)).trans q0, (cell_set5 (Nat.ne_of_lt HMLK.out)).trans q1, (cell_set5 (Nat.ne_of_lt HMLK.out)).trans q2, (cell_set5 (Nat.ne_of_lt HMLK.out)).trans q3, (cell_set5 (Nat.ne_of_lt HMLK.out)).trans q4, (cell_set5 (Nat.ne_of_lt HMLL.out)).trans q5, (cell_set5 (Nat.ne_of_lt HMLL.out)).trans q6, (cell_set5 (Nat.ne_of_lt HMLL.out)).trans q7⟩
    refine wpAnyH_done (by kernel_rfl) ?_ _
    go_wp2_with fail
    go_meet
    exact LaidG_b NZ.out I1.out I2.out (fun _ => hn8) (by omega) (by omega) hl8 (Nat.le_refl _) hh8 (by omega) (by omega) (by omega) CC.out
  case rest =>
   generalize wc = w17 at hcut ⊢
   obtain ⟨g17, a17, c17, b17, d17, e17, f17, lo17, ma17, mb17, hi17, rfl, hL, hT, hRo, hn, ⟨ka17, kb17, kc17, kd17, ke17, kf17, kg17, kh17, ki17⟩, b1⟩ := hcut
   have t17 : w16.heap.size ≤ w17.heap.size := b1.size
   have rK := hid (rK.out.old b1)
   have rL := hid (rL.out.old b1)
   have LK := hid (LK.out.old b1)
   have LL := hid (LL.out.old b1)
   have W0 := hid (W0.out.old b1)
   have LW0 := hid (LW0.out.old b1)
   have G0 := hid (G0.out.old b1)
   have LG0 := hid (LG0.out.old b1)
   have B := hid (B.out.trans (b1.mono B.out.size))
   have H0 := hid (show RwM w17 (.slice a17 RT.length c17) (.slice b17 R1.length d17) (.slice e17 R2.length f17) RT R1 R2 lo17 mb17 hi17 from ⟨hT.wide (Nat.le_refl _) kc17, ⟨hRo.a, hRo.d, hn (by simp)⟩, by omega, kd17⟩)
   have LH0 := hid hL
   clear hL hT hRo hn b1
   obtain ⟨q0, q1, q2, q3, q4⟩ := LH0.out.all5
   obtain ⟨q5, q6, q7, q8, q9⟩ := LW0.out.all5
   go_wp2_with fail
   (with_reducible refine (eqRow_k rx rs (by omega) (by omega) (by omega) _ H0.out.w W0.out.w).mono ?_)
   clear q0 q1 q2 q3 q4 q5 q6 q7 q8 q9
   rintro e w18 ⟨rfl, b1⟩
   have t18 : w17.heap.size ≤ w18.heap.size := by have := b1.size; omega
   have rK := hid (rK.out.old b1)
   have rL := hid (rL.out.old b1)
   have LK := hid (LK.out.old b1)
   have LL := hid (LL.out.old b1)
   have W0 := hid (W0.out.old b1)
   have LW0 := hid (LW0.out.old b1)
   have G0 := hid (G0.out.old b1)
   have LG0 := hid (LG0.out.old b1)
   have H0 := hid (H0.out.old b1)
   have LH0 := hid (LH0.out.old b1)
   have B := hid (B.out.trans (b1.mono B.out.size))
   clear b1
   obtain ⟨q0, q1, q2, q3, q4⟩ := LG0.out.all5
   go_wp2_with fail
   (with_reducible refine (heldRow_k rx rs (K := RT) R1.length R2.length 1 (by omega) (by omega) (by omega) (by omega) (by omega) _ G0.out).mono ?_)
   clear q0 q1 q2 q3 q4
   rintro e w19 ⟨rfl, b1⟩
   have t19 : w18.heap.size ≤ w19.heap.size := by have := b1.size; omega
   have rK := hid (rK.out.old b1)
   have rL := hid (rL.out.old b1)
   have LK := hid (LK.out.old b1)
   have LL := hid (LL.out.old b1)
   have W0 := hid (W0.out.old b1)
   have LW0 := hid (LW0.out.old b1)
   have G0 := hid (G0.out.old b1)
   have LG0 := hid (LG0.out.old b1)
   have H0 := hid (H0.out.old b1)
   have LH0 := hid (LH0.out.old b1)
   have B := hid (B.out.trans (b1.mono B.out.size))
   clear b1
   go_wp2
   go_ret
   exact ⟨rfl, B.out⟩
end Go.Proofs.YthkehmnodcmlcaaGreat
