/- The walks of the laws FnExactRatFloor, FnExactRatCeil, FnExactRatIsInt. -/
import Derived.Test.YtookglpeieennaaRhi
import Derived.Test.YtookglpeieennaaFlw
import Derived.Deep.RegionHeld3
import Derived.Deep.DeepCutAuto
namespace Go.Proofs.Ytookglpeieennaa
open Go.RowKit
open Go.Lib (hid)
set_option linter.unusedVariables false

set_option maxRecDepth 100000 in
set_option maxHeartbeats 25600000 in
theorem law_RatFloor (s : Bool) (a : Option Addr) (n c : Nat) (A : List Int) (b : Option Addr) (m d : Nat) (D : List Int) (hmX : n ≤ maxLen) (hkX : m ≤ maxLen) (w : World) (rX : RowI w a n A) (pX : RowI w b m D) :
    Calls Try.prog 4 #[.agg #[.bool s, .slice a n c, .slice b m d]] w (RetB (.bool true) w) := by
  have hX : A.length ≤ n := by have := rX.1; omega
  have gX : D.length ≤ m := by have := pX.1; omega
  have X := hid (CameR.old ⟨Came.of rX, Came.of pX⟩ (below_new' (w := w) (o := .cells #[.bool s, .slice a n c, .slice b m d] 39)))
  have B := hid (below_new' (w := w) (o := .cells #[.bool s, .slice a n c, .slice b m d] 39))
  have LX := hid (LocA.at (T := 39) (w := w) (b := w.heap.size) (cs := #[.bool s, .slice a n c, .slice b m d]) (by simp))
  have hsz : w.heap.size + 1 ≤ (w.alloc (.cells #[.bool s, .slice a n c, .slice b m d] 39)).heap.size := by simp
  clear rX pX
  generalize hW : w.alloc (.cells #[.bool s, .slice a n c, .slice b m d] 39) = W0 at B hsz X LX
  have HW := hid hW
  clear hW
  by_cases hAX : 1048576 < (n : Int) + (m : Int)
  · have K := hid (szRat_no s a n c b m d (1048576) hmX hkX hAX (by omega) (by omega))
    go_enter Try.func4, Try.ntmps4
    go_wp2_with fail
    rw [HW.out]
    (with_reducible refine (K.out _).mono ?_)
    rintro e w1 ⟨rfl, b1⟩
    have B := hid (B.out.trans (b1.mono B.out.size))
    clear b1
    go_wp2
    go_ret
    exact ⟨rfl, B.out⟩
  have KZX := hid (szRat_yes s a n c b m d (1048576) (by omega) (by omega))
  have hgeX : ¬ 1048576 - (n : Int) - (m : Int) < 0 := by omega
  have lX : A.length ≤ 1048576 := by omega
  have kX : D.length ≤ 1048576 := by omega
  have hsum : (A.length : Int) + (D.length : Int) ≤ 1048576 := by omega
  have KX := hid (fun (W : World) (h : CameR W w.heap.size a n A b m D) => toRat_came s a n c b m d _ A D (by omega) (by omega) W h)
  have KS := hid (fun (W : World) (v0 u0 : Value) (h0 : RL W v0 u0 A D) => (spec_RatFloor s v0 u0 A D W h0).mono fun e w' hh => OwnRS_of hh)
  have KI := hid (fun (W : World) (v0 u0 : Value) (h0 : RL W v0 u0 A D) => (impl_RatFloor s v0 u0 A D W h0).mono fun e w' hh => OwnRR_of hh)
  obtain ⟨o, ho⟩ : ∃ o, o = floorO (rval s A D) := ⟨_, rfl⟩
  rw [← ho] at KS KI
  clear ho
  have hl1 : (gzl (qn o)).length ≤ 60 := cappedLen
  have hl2 : (gzl (qd o)).length ≤ 60 := cappedLen
  obtain ⟨R1, hR1⟩ : ∃ R, R = gzl (qn o) := ⟨_, rfl⟩
  obtain ⟨R2, hR2⟩ : ∃ R, R = gzl (qd o) := ⟨_, rfl⟩
  obtain ⟨rs, hrs⟩ : ∃ r, r = gzs (qn o) := ⟨_, rfl⟩
  rw [← hR1, ← hR2, ← hrs] at KS KI
  rw [← hR1] at hl1
  rw [← hR2] at hl2
  clear hR1 hR2 hrs
  have hk1 : ¬ 1 + (R1.length : Int) + (R2.length : Int) < 0 := by omega
  clear hX gX
  go_enter Try.func4, Try.ntmps4
  go_wp2_with fail
  rw [HW.out]
  (with_reducible refine (KZX.out _).mono ?_)
  rintro e w1 ⟨rfl, b1⟩
  have t1 : w.heap.size + 1 ≤ w1.heap.size := by have := b1.size; omega
  have X := hid (X.out.old b1)
  have LX := hid (LX.out.old b1)
  have B := hid (B.out.trans (b1.mono B.out.size))
  clear b1
  have hk0 : ¬ 1 + (A.length : Int) + (D.length : Int) < 0 := by omega
  have q0 := LX.out.c 0 (v := .bool s) rfl
  have q1 := LX.out.c 1 (v := .slice a n c) rfl
  have q2 := LX.out.c 2 (v := .slice b m d) rfl
  go_wp2_with fail
  (with_reducible refine (KX.out _ X.out).mono ?_)
  clear q0 q1 q2
  rintro e w2 ⟨v2, u2, rfl, i1, b1⟩
  have t2 : w1.heap.size ≤ w2.heap.size := by have := b1.size; omega
  have O1 := hid (ROb.at (lo := w1.heap.size) i1 (by simp))
  have X := hid (X.out.old b1)
  have LX := hid (LX.out.old b1)
  have B := hid (B.out.trans (b1.mono B.out.size))
  obtain ⟨a2, c2, b2, d2, rfl, rfl⟩ := i1.form
  clear i1 b1
  go_wp2_with fail
  (with_reducible refine (KS.out _ _ _ (O1.out.rl (by omega) (by omega))).mono ?_)
  rintro e w3 ⟨v3, u3, rfl, i1, b1⟩
  have t3 : w2.heap.size ≤ w3.heap.size := by have := b1.size; omega
  have V := hid (ROw.at (lo := w2.heap.size) i1 (by simp))
  have X := hid (X.out.old b1)
  have LX := hid (LX.out.old b1)
  have O1 := hid (O1.out.old b1)
  have B := hid (B.out.trans (b1.mono B.out.size))
  obtain ⟨a3, c3, b3, d3, rfl, rfl⟩ := i1.form
  clear i1 b1
  have X := hid (X.out.old (below_new' (o := .cells #[.bool rs, .slice a3 R1.length c3, .slice b3 R2.length d3] 30)))
  have LX := hid (LX.out.old (below_new' (o := .cells #[.bool rs, .slice a3 R1.length c3, .slice b3 R2.length d3] 30)))
  have V := hid (V.out.old (below_new' (o := .cells #[.bool rs, .slice a3 R1.length c3, .slice b3 R2.length d3] 30)))
  have B := hid (B.out.alloc B.out.size (.cells #[.bool rs, .slice a3 R1.length c3, .slice b3 R2.length d3] 30))
  have LV := hid (LocA.new (w := w3) (T := 30) (cs := #[.bool rs, .slice a3 R1.length c3, .slice b3 R2.length d3]))
  have q0 := LX.out.c 0 (v := .bool s) rfl
  have q1 := LX.out.c 1 (v := .slice a n c) rfl
  have q2 := LX.out.c 2 (v := .slice b m d) rfl
  go_wp2_with fail
  (with_reducible refine (KX.out _ X.out).mono ?_)
  clear q0 q1 q2
  rintro e w4 ⟨v4, u4, rfl, i1, b1⟩
  have t4 : w3.heap.size + 1 ≤ w4.heap.size := by have := b1.size; simp at this; omega
  have O1 := hid (ROb.at (lo := w3.heap.size + 1) i1 (by simp))
  have X := hid (X.out.old b1)
  have LX := hid (LX.out.old b1)
  have V := hid (V.out.old b1)
  have LV := hid (LV.out.old b1)
  have B := hid (B.out.trans (b1.mono B.out.size))
  obtain ⟨a4, c4, b4, d4, rfl, rfl⟩ := i1.form
  clear i1 b1
  have X := hid (X.out.old (below_new' (o := .cells #[.bool s, .slice a4 A.length c4, .slice b4 D.length d4] 30)))
  have LX := hid (LX.out.old (below_new' (o := .cells #[.bool s, .slice a4 A.length c4, .slice b4 D.length d4] 30)))
  have V := hid (V.out.old (below_new' (o := .cells #[.bool s, .slice a4 A.length c4, .slice b4 D.length d4] 30)))
  have LV := hid (LV.out.old (below_new' (o := .cells #[.bool s, .slice a4 A.length c4, .slice b4 D.length d4] 30)))
  have O1 := hid (O1.out.old (below_new' (o := .cells #[.bool s, .slice a4 A.length c4, .slice b4 D.length d4] 30)))
  have B := hid (B.out.alloc B.out.size (.cells #[.bool s, .slice a4 A.length c4, .slice b4 D.length d4] 30))
  have LO1 := hid (LocA.new (w := w4) (T := 30) (cs := #[.bool s, .slice a4 A.length c4, .slice b4 D.length d4]))
  have q0 := LO1.out.c 0 (v := .bool s) rfl
  have q1 := LO1.out.c 1 (v := .slice a4 A.length c4) rfl
  have q2 := LO1.out.c 2 (v := .slice b4 D.length d4) rfl
  go_wp2_with fail
  (with_reducible refine (KI.out _ _ _ (O1.out.rl (by omega) (by omega))).mono ?_)
  clear q0 q1 q2
  rintro e w5 ⟨v5, u5, rfl, i1, b1⟩
  have t5 : w4.heap.size + 1 ≤ w5.heap.size := by have := b1.size; simp at this; omega
  have G := hid (ROb.at (lo := w4.heap.size + 1) i1 (by simp))
  have X := hid (X.out.old b1)
  have LX := hid (LX.out.old b1)
  have V := hid (V.out.old b1)
  have LV := hid (LV.out.old b1)
  have O1 := hid (O1.out.old b1)
  have LO1 := hid (LO1.out.old b1)
  have B := hid (B.out.trans (b1.mono B.out.size))
  obtain ⟨a5, c5, b5, d5, rfl, rfl⟩ := i1.form
  clear i1 b1
  have X := hid (X.out.old (below_new' (o := .cells #[.bool rs, .slice a5 R1.length c5, .slice b5 R2.length d5] 30)))
  have LX := hid (LX.out.old (below_new' (o := .cells #[.bool rs, .slice a5 R1.length c5, .slice b5 R2.length d5] 30)))
  have V := hid (V.out.old (below_new' (o := .cells #[.bool rs, .slice a5 R1.length c5, .slice b5 R2.length d5] 30)))
  have LV := hid (LV.out.old (below_new' (o := .cells #[.bool rs, .slice a5 R1.length c5, .slice b5 R2.length d5] 30)))
  have O1 := hid (O1.out.old (below_new' (o := .cells #[.bool rs, .slice a5 R1.length c5, .slice b5 R2.length d5] 30)))
  have LO1 := hid (LO1.out.old (below_new' (o := .cells #[.bool rs, .slice a5 R1.length c5, .slice b5 R2.length d5] 30)))
  have G := hid (G.out.old (below_new' (o := .cells #[.bool rs, .slice a5 R1.length c5, .slice b5 R2.length d5] 30)))
  have B := hid (B.out.alloc B.out.size (.cells #[.bool rs, .slice a5 R1.length c5, .slice b5 R2.length d5] 30))
  have LG := hid (LocA.new (w := w5) (T := 30) (cs := #[.bool rs, .slice a5 R1.length c5, .slice b5 R2.length d5]))
  have q0 := LG.out.c 0 (v := .bool rs) rfl
  have q1 := LG.out.c 1 (v := .slice a5 R1.length c5) rfl
  have q2 := LG.out.c 2 (v := .slice b5 R2.length d5) rfl
  have q3 := LV.out.c 0 (v := .bool rs) rfl
  have q4 := LV.out.c 1 (v := .slice a3 R1.length c3) rfl
  have q5 := LV.out.c 2 (v := .slice b3 R2.length d3) rfl
  go_wp2_with fail
  (with_reducible refine (eqRat_w _ _ _ _ _ R1 R2 _ _ _ _ (by omega) (by omega) _ G.out.w V.out.w).mono ?_)
  clear q0 q1 q2 q3 q4 q5
  rintro e w6 ⟨rfl, b1⟩
  have t6 : w5.heap.size + 1 ≤ w6.heap.size := by have := b1.size; simp at this; omega
  have X := hid (X.out.old b1)
  have LX := hid (LX.out.old b1)
  have V := hid (V.out.old b1)
  have LV := hid (LV.out.old b1)
  have O1 := hid (O1.out.old b1)
  have LO1 := hid (LO1.out.old b1)
  have G := hid (G.out.old b1)
  have LG := hid (LG.out.old b1)
  have B := hid (B.out.trans (b1.mono B.out.size))
  clear b1
  go_wp2_with fail
  have X := hid (X.out.old (Below_drew1 (Below.refl _ _)))
  have LX := hid (LX.out.old (Below_drew1 (Below.refl _ _)))
  have V := hid (V.out.old (Below_drew1 (Below.refl _ _)))
  have LV := hid (LV.out.old (Below_drew1 (Below.refl _ _)))
  have O1 := hid (O1.out.old (Below_drew1 (Below.refl _ _)))
  have LO1 := hid (LO1.out.old (Below_drew1 (Below.refl _ _)))
  have G := hid (G.out.old (Below_drew1 (Below.refl _ _)))
  have LG := hid (LG.out.old (Below_drew1 (Below.refl _ _)))
  have B := hid (Below_drew1 B.out)
  have q0 := LO1.out.c 0 (v := .bool s) rfl
  have q1 := LO1.out.c 1 (v := .slice a4 A.length c4) rfl
  have q2 := LO1.out.c 2 (v := .slice b4 D.length d4) rfl
  have q3 := LX.out.c 0 (v := .bool s) rfl
  have q4 := LX.out.c 1 (v := .slice a n c) rfl
  have q5 := LX.out.c 2 (v := .slice b m d) rfl
  go_region_held3 (fun w' => w'.cell? ⟨w4.heap.size, 0, none⟩ = some (.bool s) ∧ w'.cell? ⟨w4.heap.size, 1, none⟩ = some (.slice a4 A.length c4) ∧ w'.cell? ⟨w4.heap.size, 2, none⟩ = some (.slice b4 D.length d4) ∧ w'.cell? ⟨w.heap.size, 0, none⟩ = some (.bool s) ∧ w'.cell? ⟨w.heap.size, 1, none⟩ = some (.slice a n c) ∧ w'.cell? ⟨w.heap.size, 2, none⟩ = some (.slice b m d)) (first | exact ⟨q0, q1, q2, q3, q4, q5⟩) (first | (go_at_call 18; (with_reducible refine (KX.out _ X.out).mono ?_); rintro e w7 ⟨v7, u7, rfl, i1, b1⟩; have t7 : w6.heap.size ≤ w7.heap.size := (by have := b1.size; first | exact this | omega | (simp at this; omega)); have OC := hid i1; have X := hid (X.out.old b1); have LX := hid (LX.out.old b1); have V := hid (V.out.old b1); have LV := hid (LV.out.old b1); have O1 := hid (O1.out.old b1); have LO1 := hid (LO1.out.old b1); have G := hid (G.out.old b1); have LG := hid (LG.out.old b1); have B := hid (B.out.trans (b1.mono B.out.size)); have q0 := LO1.out.c 0 (v := .bool s) rfl; have q1 := LO1.out.c 1 (v := .slice a4 A.length c4) rfl; have q2 := LO1.out.c 2 (v := .slice b4 D.length d4) rfl; have q3 := LX.out.c 0 (v := .bool s) rfl; have q4 := LX.out.c 1 (v := .slice a n c) rfl; have q5 := LX.out.c 2 (v := .slice b m d) rfl; obtain ⟨a7, c7, b7, d7, rfl, rfl⟩ := i1.form; clear i1 b1) | (go_at_call 20; (with_reducible refine (eqRat_w _ _ _ _ _ A D _ _ _ _ (by omega) (by omega) _ O1.out.w OC.out.w).mono ?_); rintro e w8 ⟨rfl, b1⟩; have t8 : w7.heap.size ≤ w8.heap.size := (by have := b1.size; first | exact this | omega | (simp at this; omega)); have X := hid (X.out.old b1); have LX := hid (LX.out.old b1); have V := hid (V.out.old b1); have LV := hid (LV.out.old b1); have O1 := hid (O1.out.old b1); have LO1 := hid (LO1.out.old b1); have G := hid (G.out.old b1); have LG := hid (LG.out.old b1); have B := hid (B.out.trans (b1.mono B.out.size)); have q0 := LO1.out.c 0 (v := .bool s) rfl; have q1 := LO1.out.c 1 (v := .slice a4 A.length c4) rfl; have q2 := LO1.out.c 2 (v := .slice b4 D.length d4) rfl; have q3 := LX.out.c 0 (v := .bool s) rfl; have q4 := LX.out.c 1 (v := .slice a n c) rfl; have q5 := LX.out.c 2 (v := .slice b m d) rfl; clear b1))
  clear q0 q1 q2 q3 q4 q5
  have q0 := LO1.out.c 0 (v := .bool s) rfl
  have q1 := LO1.out.c 1 (v := .slice a4 A.length c4) rfl
  have q2 := LO1.out.c 2 (v := .slice b4 D.length d4) rfl
  go_wp2_with fail
  (with_reducible refine (markRat_obj _ _ _ A D (1) _ _ (by omega) (by omega) (by omega) (by omega) _ O1.out).mono ?_)
  clear q0 q1 q2
  rintro e w9 ⟨rfl, o1, b1⟩
  have t9 : w8.heap.size ≤ w9.heap.size := by have := b1.size; omega
  have O1 := hid o1
  have X := hid (X.out.onlyG b1 (by omega))
  have LX := hid (LX.out.onlyG b1 (by omega))
  have V := hid (V.out.onlyG b1 (by omega))
  have LV := hid (LV.out.onlyG b1 (by omega))
  have LO1 := hid (LO1.out.onlyG b1 (by omega))
  have G := hid (G.out.onlyG b1 (by omega))
  have LG := hid (LG.out.onlyG b1 (by omega))
  have B := hid (in_onlyG B.out b1 (by omega))
  clear o1 b1
  have q0 := LG.out.c 0 (v := .bool rs) rfl
  have q1 := LG.out.c 1 (v := .slice a5 R1.length c5) rfl
  have q2 := LG.out.c 2 (v := .slice b5 R2.length d5) rfl
  have q3 := LV.out.c 0 (v := .bool rs) rfl
  have q4 := LV.out.c 1 (v := .slice a3 R1.length c3) rfl
  have q5 := LV.out.c 2 (v := .slice b3 R2.length d3) rfl
  go_wp2_with fail
  (with_reducible refine (eqRat_w _ _ _ _ _ R1 R2 _ _ _ _ (by omega) (by omega) _ G.out.w V.out.w).mono ?_)
  clear q0 q1 q2 q3 q4 q5
  rintro e w10 ⟨rfl, b1⟩
  have t10 : w9.heap.size ≤ w10.heap.size := by have := b1.size; omega
  have X := hid (X.out.old b1)
  have LX := hid (LX.out.old b1)
  have V := hid (V.out.old b1)
  have LV := hid (LV.out.old b1)
  have G := hid (G.out.old b1)
  have LG := hid (LG.out.old b1)
  have B := hid (B.out.trans (b1.mono B.out.size))
  clear b1
  have q0 := LG.out.c 0 (v := .bool rs) rfl
  have q1 := LG.out.c 1 (v := .slice a5 R1.length c5) rfl
  have q2 := LG.out.c 2 (v := .slice b5 R2.length d5) rfl
  go_wp2_with fail
  (with_reducible refine (markRat_obj _ _ _ R1 R2 (1) _ _ (by omega) (by omega) (by omega) (by omega) _ G.out).mono ?_)
  clear q0 q1 q2
  rintro e w11 ⟨rfl, o1, b1⟩
  have t11 : w10.heap.size ≤ w11.heap.size := by have := b1.size; omega
  have G := hid o1
  have X := hid (X.out.onlyG b1 (by omega))
  have LX := hid (LX.out.onlyG b1 (by omega))
  have V := hid (V.out.onlyG b1 (by omega))
  have LV := hid (LV.out.onlyG b1 (by omega))
  have LG := hid (LG.out.onlyG b1 (by omega))
  have B := hid (in_onlyG B.out b1 (by omega))
  clear o1 b1
  have q0 := LG.out.c 0 (v := .bool rs) rfl
  have q1 := LG.out.c 1 (v := .slice a5 R1.length c5) rfl
  have q2 := LG.out.c 2 (v := .slice b5 R2.length d5) rfl
  go_wp2_with fail
  (with_reducible refine (heldRat_obj _ _ _ R1.length R2.length 1 _ _ (by omega) (by omega) (by omega) (by omega) _ G.out).mono ?_)
  clear q0 q1 q2
  rintro e w12 ⟨rfl, b1⟩
  have t12 : w11.heap.size ≤ w12.heap.size := by have := b1.size; omega
  have X := hid (X.out.old b1)
  have LX := hid (LX.out.old b1)
  have V := hid (V.out.old b1)
  have LV := hid (LV.out.old b1)
  have G := hid (G.out.old b1)
  have LG := hid (LG.out.old b1)
  have B := hid (B.out.trans (b1.mono B.out.size))
  clear b1
  have q0 := LX.out.c 0 (v := .bool s) rfl
  have q1 := LX.out.c 1 (v := .slice a n c) rfl
  have q2 := LX.out.c 2 (v := .slice b m d) rfl
  go_wp2_with fail
  (with_reducible refine (KX.out _ X.out).mono ?_)
  clear q0 q1 q2
  rintro e w13 ⟨v13, u13, rfl, i1, b1⟩
  have t13 : w12.heap.size ≤ w13.heap.size := by have := b1.size; omega
  have O3 := hid (ROb.at (lo := w12.heap.size) i1 (by simp))
  have X := hid (X.out.old b1)
  have LX := hid (LX.out.old b1)
  have V := hid (V.out.old b1)
  have LV := hid (LV.out.old b1)
  have G := hid (G.out.old b1)
  have LG := hid (LG.out.old b1)
  have B := hid (B.out.trans (b1.mono B.out.size))
  obtain ⟨a13, c13, b13, d13, rfl, rfl⟩ := i1.form
  clear i1 b1
  go_wp2_with fail
  (with_reducible refine (KI.out _ _ _ (O3.out.rl (by omega) (by omega))).mono ?_)
  rintro e w14 ⟨v14, u14, rfl, i1, b1⟩
  have t14 : w13.heap.size ≤ w14.heap.size := by have := b1.size; omega
  have H := hid (ROb.at (lo := w13.heap.size) i1 (by simp))
  have X := hid (X.out.old b1)
  have LX := hid (LX.out.old b1)
  have V := hid (V.out.old b1)
  have LV := hid (LV.out.old b1)
  have G := hid (G.out.old b1)
  have LG := hid (LG.out.old b1)
  have O3 := hid (O3.out.old b1)
  have B := hid (B.out.trans (b1.mono B.out.size))
  obtain ⟨a14, c14, b14, d14, rfl, rfl⟩ := i1.form
  clear i1 b1
  have X := hid (X.out.old (below_new' (o := .cells #[.bool rs, .slice a14 R1.length c14, .slice b14 R2.length d14] 30)))
  have LX := hid (LX.out.old (below_new' (o := .cells #[.bool rs, .slice a14 R1.length c14, .slice b14 R2.length d14] 30)))
  have V := hid (V.out.old (below_new' (o := .cells #[.bool rs, .slice a14 R1.length c14, .slice b14 R2.length d14] 30)))
  have LV := hid (LV.out.old (below_new' (o := .cells #[.bool rs, .slice a14 R1.length c14, .slice b14 R2.length d14] 30)))
  have G := hid (G.out.old (below_new' (o := .cells #[.bool rs, .slice a14 R1.length c14, .slice b14 R2.length d14] 30)))
  have LG := hid (LG.out.old (below_new' (o := .cells #[.bool rs, .slice a14 R1.length c14, .slice b14 R2.length d14] 30)))
  have H := hid (H.out.old (below_new' (o := .cells #[.bool rs, .slice a14 R1.length c14, .slice b14 R2.length d14] 30)))
  have B := hid (B.out.alloc B.out.size (.cells #[.bool rs, .slice a14 R1.length c14, .slice b14 R2.length d14] 30))
  have LH := hid (LocA.new (w := w14) (T := 30) (cs := #[.bool rs, .slice a14 R1.length c14, .slice b14 R2.length d14]))
  have q0 := LH.out.c 0 (v := .bool rs) rfl
  have q1 := LH.out.c 1 (v := .slice a14 R1.length c14) rfl
  have q2 := LH.out.c 2 (v := .slice b14 R2.length d14) rfl
  have q3 := LV.out.c 0 (v := .bool rs) rfl
  have q4 := LV.out.c 1 (v := .slice a3 R1.length c3) rfl
  have q5 := LV.out.c 2 (v := .slice b3 R2.length d3) rfl
  go_wp2_with fail
  (with_reducible refine (eqRat_w _ _ _ _ _ R1 R2 _ _ _ _ (by omega) (by omega) _ H.out.w V.out.w).mono ?_)
  clear q0 q1 q2 q3 q4 q5
  rintro e w15 ⟨rfl, b1⟩
  have t15 : w14.heap.size + 1 ≤ w15.heap.size := by have := b1.size; simp at this; omega
  have X := hid (X.out.old b1)
  have LX := hid (LX.out.old b1)
  have V := hid (V.out.old b1)
  have LV := hid (LV.out.old b1)
  have G := hid (G.out.old b1)
  have LG := hid (LG.out.old b1)
  have H := hid (H.out.old b1)
  have LH := hid (LH.out.old b1)
  have B := hid (B.out.trans (b1.mono B.out.size))
  clear b1
  have q0 := LG.out.c 0 (v := .bool rs) rfl
  have q1 := LG.out.c 1 (v := .slice a5 R1.length c5) rfl
  have q2 := LG.out.c 2 (v := .slice b5 R2.length d5) rfl
  go_wp2_with fail
  (with_reducible refine (heldRat_obj _ _ _ R1.length R2.length 1 _ _ (by omega) (by omega) (by omega) (by omega) _ G.out).mono ?_)
  clear q0 q1 q2
  rintro e w16 ⟨rfl, b1⟩
  have t16 : w15.heap.size ≤ w16.heap.size := by have := b1.size; omega
  have X := hid (X.out.old b1)
  have LX := hid (LX.out.old b1)
  have G := hid (G.out.old b1)
  have LG := hid (LG.out.old b1)
  have B := hid (B.out.trans (b1.mono B.out.size))
  clear b1
  go_wp2
  go_ret
  exact ⟨rfl, B.out⟩

set_option maxRecDepth 100000 in
set_option maxHeartbeats 25600000 in
theorem law_RatCeil (s : Bool) (a : Option Addr) (n c : Nat) (A : List Int) (b : Option Addr) (m d : Nat) (D : List Int) (hmX : n ≤ maxLen) (hkX : m ≤ maxLen) (w : World) (rX : RowI w a n A) (pX : RowI w b m D) :
    Calls Try.prog 5 #[.agg #[.bool s, .slice a n c, .slice b m d]] w (RetB (.bool true) w) := by
  have hX : A.length ≤ n := by have := rX.1; omega
  have gX : D.length ≤ m := by have := pX.1; omega
  have X := hid (CameR.old ⟨Came.of rX, Came.of pX⟩ (below_new' (w := w) (o := .cells #[.bool s, .slice a n c, .slice b m d] 39)))
  have B := hid (below_new' (w := w) (o := .cells #[.bool s, .slice a n c, .slice b m d] 39))
  have LX := hid (LocA.at (T := 39) (w := w) (b := w.heap.size) (cs := #[.bool s, .slice a n c, .slice b m d]) (by simp))
  have hsz : w.heap.size + 1 ≤ (w.alloc (.cells #[.bool s, .slice a n c, .slice b m d] 39)).heap.size := by simp
  clear rX pX
  generalize hW : w.alloc (.cells #[.bool s, .slice a n c, .slice b m d] 39) = W0 at B hsz X LX
  have HW := hid hW
  clear hW
  by_cases hAX : 1048576 < (n : Int) + (m : Int)
  · have K := hid (szRat_no s a n c b m d (1048576) hmX hkX hAX (by omega) (by omega))
    go_enter Try.func5, Try.ntmps5
    go_wp2_with fail
    rw [HW.out]
    (with_reducible refine (K.out _).mono ?_)
    rintro e w1 ⟨rfl, b1⟩
    have B := hid (B.out.trans (b1.mono B.out.size))
    clear b1
    go_wp2
    go_ret
    exact ⟨rfl, B.out⟩
  have KZX := hid (szRat_yes s a n c b m d (1048576) (by omega) (by omega))
  have hgeX : ¬ 1048576 - (n : Int) - (m : Int) < 0 := by omega
  have lX : A.length ≤ 1048576 := by omega
  have kX : D.length ≤ 1048576 := by omega
  have hsum : (A.length : Int) + (D.length : Int) ≤ 1048576 := by omega
  have KX := hid (fun (W : World) (h : CameR W w.heap.size a n A b m D) => toRat_came s a n c b m d _ A D (by omega) (by omega) W h)
  have KS := hid (fun (W : World) (v0 u0 : Value) (h0 : RL W v0 u0 A D) => (spec_RatCeil s v0 u0 A D W h0).mono fun e w' hh => OwnRS_of hh)
  have KI := hid (fun (W : World) (v0 u0 : Value) (h0 : RL W v0 u0 A D) => (impl_RatCeil s v0 u0 A D W h0).mono fun e w' hh => OwnRR_of hh)
  obtain ⟨o, ho⟩ : ∃ o, o = ceilO (rval s A D) := ⟨_, rfl⟩
  rw [← ho] at KS KI
  clear ho
  have hl1 : (gzl (qn o)).length ≤ 60 := cappedLen
  have hl2 : (gzl (qd o)).length ≤ 60 := cappedLen
  obtain ⟨R1, hR1⟩ : ∃ R, R = gzl (qn o) := ⟨_, rfl⟩
  obtain ⟨R2, hR2⟩ : ∃ R, R = gzl (qd o) := ⟨_, rfl⟩
  obtain ⟨rs, hrs⟩ : ∃ r, r = gzs (qn o) := ⟨_, rfl⟩
  rw [← hR1, ← hR2, ← hrs] at KS KI
  rw [← hR1] at hl1
  rw [← hR2] at hl2
  clear hR1 hR2 hrs
  have hk1 : ¬ 1 + (R1.length : Int) + (R2.length : Int) < 0 := by omega
  clear hX gX
  go_enter Try.func5, Try.ntmps5
  go_wp2_with fail
  rw [HW.out]
  (with_reducible refine (KZX.out _).mono ?_)
  rintro e w1 ⟨rfl, b1⟩
  have t1 : w.heap.size + 1 ≤ w1.heap.size := by have := b1.size; omega
  have X := hid (X.out.old b1)
  have LX := hid (LX.out.old b1)
  have B := hid (B.out.trans (b1.mono B.out.size))
  clear b1
  have hk0 : ¬ 1 + (A.length : Int) + (D.length : Int) < 0 := by omega
  have q0 := LX.out.c 0 (v := .bool s) rfl
  have q1 := LX.out.c 1 (v := .slice a n c) rfl
  have q2 := LX.out.c 2 (v := .slice b m d) rfl
  go_wp2_with fail
  (with_reducible refine (KX.out _ X.out).mono ?_)
  clear q0 q1 q2
  rintro e w2 ⟨v2, u2, rfl, i1, b1⟩
  have t2 : w1.heap.size ≤ w2.heap.size := by have := b1.size; omega
  have O1 := hid (ROb.at (lo := w1.heap.size) i1 (by simp))
  have X := hid (X.out.old b1)
  have LX := hid (LX.out.old b1)
  have B := hid (B.out.trans (b1.mono B.out.size))
  obtain ⟨a2, c2, b2, d2, rfl, rfl⟩ := i1.form
  clear i1 b1
  go_wp2_with fail
  (with_reducible refine (KS.out _ _ _ (O1.out.rl (by omega) (by omega))).mono ?_)
  rintro e w3 ⟨v3, u3, rfl, i1, b1⟩
  have t3 : w2.heap.size ≤ w3.heap.size := by have := b1.size; omega
  have V := hid (ROw.at (lo := w2.heap.size) i1 (by simp))
  have X := hid (X.out.old b1)
  have LX := hid (LX.out.old b1)
  have O1 := hid (O1.out.old b1)
  have B := hid (B.out.trans (b1.mono B.out.size))
  obtain ⟨a3, c3, b3, d3, rfl, rfl⟩ := i1.form
  clear i1 b1
  have X := hid (X.out.old (below_new' (o := .cells #[.bool rs, .slice a3 R1.length c3, .slice b3 R2.length d3] 30)))
  have LX := hid (LX.out.old (below_new' (o := .cells #[.bool rs, .slice a3 R1.length c3, .slice b3 R2.length d3] 30)))
  have V := hid (V.out.old (below_new' (o := .cells #[.bool rs, .slice a3 R1.length c3, .slice b3 R2.length d3] 30)))
  have B := hid (B.out.alloc B.out.size (.cells #[.bool rs, .slice a3 R1.length c3, .slice b3 R2.length d3] 30))
  have LV := hid (LocA.new (w := w3) (T := 30) (cs := #[.bool rs, .slice a3 R1.length c3, .slice b3 R2.length d3]))
  have q0 := LX.out.c 0 (v := .bool s) rfl
  have q1 := LX.out.c 1 (v := .slice a n c) rfl
  have q2 := LX.out.c 2 (v := .slice b m d) rfl
  go_wp2_with fail
  (with_reducible refine (KX.out _ X.out).mono ?_)
  clear q0 q1 q2
  rintro e w4 ⟨v4, u4, rfl, i1, b1⟩
  have t4 : w3.heap.size + 1 ≤ w4.heap.size := by have := b1.size; simp at this; omega
  have O1 := hid (ROb.at (lo := w3.heap.size + 1) i1 (by simp))
  have X := hid (X.out.old b1)
  have LX := hid (LX.out.old b1)
  have V := hid (V.out.old b1)
  have LV := hid (LV.out.old b1)
  have B := hid (B.out.trans (b1.mono B.out.size))
  obtain ⟨a4, c4, b4, d4, rfl, rfl⟩ := i1.form
  clear i1 b1
  have X := hid (X.out.old (below_new' (o := .cells #[.bool s, .slice a4 A.length c4, .slice b4 D.length d4] 30)))
  have LX := hid (LX.out.old (below_new' (o := .cells #[.bool s, .slice a4 A.length c4, .slice b4 D.length d4] 30)))
  have V := hid (V.out.old (below_new' (o := .cells #[.bool s, .slice a4 A.length c4, .slice b4 D.length d4] 30)))
  have LV := hid (LV.out.old (below_new' (o := .cells #[.bool s, .slice a4 A.length c4, .slice b4 D.length d4] 30)))
  have O1 := hid (O1.out.old (below_new' (o := .cells #[.bool s, .slice a4 A.length c4, .slice b4 D.length d4] 30)))
  have B := hid (B.out.alloc B.out.size (.cells #[.bool s, .slice a4 A.length c4, .slice b4 D.length d4] 30))
  have LO1 := hid (LocA.new (w := w4) (T := 30) (cs := #[.bool s, .slice a4 A.length c4, .slice b4 D.length d4]))
  have q0 := LO1.out.c 0 (v := .bool s) rfl
  have q1 := LO1.out.c 1 (v := .slice a4 A.length c4) rfl
  have q2 := LO1.out.c 2 (v := .slice b4 D.length d4) rfl
  go_wp2_with fail
  (with_reducible refine (KI.out _ _ _ (O1.out.rl (by omega) (by omega))).mono ?_)
  clear q0 q1 q2
  rintro e w5 ⟨v5, u5, rfl, i1, b1⟩
  have t5 : w4.heap.size + 1 ≤ w5.heap.size := by have := b1.size; simp at this; omega
  have G := hid (ROb.at (lo := w4.heap.size + 1) i1 (by simp))
  have X := hid (X.out.old b1)
  have LX := hid (LX.out.old b1)
  have V := hid (V.out.old b1)
  have LV := hid (LV.out.old b1)
  have O1 := hid (O1.out.old b1)
  have LO1 := hid (LO1.out.old b1)
  have B := hid (B.out.trans (b1.mono B.out.size))
  obtain ⟨a5, c5, b5, d5, rfl, rfl⟩ := i1.form
  clear i1 b1
  have X := hid (X.out.old (below_new' (o := .cells #[.bool rs, .slice a5 R1.length c5, .slice b5 R2.length d5] 30)))
  have LX := hid (LX.out.old (below_new' (o := .cells #[.bool rs, .slice a5 R1.length c5, .slice b5 R2.length d5] 30)))
  have V := hid (V.out.old (below_new' (o := .cells #[.bool rs, .slice a5 R1.length c5, .slice b5 R2.length d5] 30)))
  have LV := hid (LV.out.old (below_new' (o := .cells #[.bool rs, .slice a5 R1.length c5, .slice b5 R2.length d5] 30)))
  have O1 := hid (O1.out.old (below_new' (o := .cells #[.bool rs, .slice a5 R1.length c5, .slice b5 R2.length d5] 30)))
  have LO1 := hid (LO1.out.old (below_new' (o := .cells #[.bool rs, .slice a5 R1.length c5, .slice b5 R2.length d5] 30)))
  have G := hid (G.out.old (below_new' (o := .cells #[.bool rs, .slice a5 R1.length c5, .slice b5 R2.length d5] 30)))
  have B := hid (B.out.alloc B.out.size (.cells #[.bool rs, .slice a5 R1.length c5, .slice b5 R2.length d5] 30))
  have LG := hid (LocA.new (w := w5) (T := 30) (cs := #[.bool rs, .slice a5 R1.length c5, .slice b5 R2.length d5]))
  have q0 := LG.out.c 0 (v := .bool rs) rfl
  have q1 := LG.out.c 1 (v := .slice a5 R1.length c5) rfl
  have q2 := LG.out.c 2 (v := .slice b5 R2.length d5) rfl
  have q3 := LV.out.c 0 (v := .bool rs) rfl
  have q4 := LV.out.c 1 (v := .slice a3 R1.length c3) rfl
  have q5 := LV.out.c 2 (v := .slice b3 R2.length d3) rfl
  go_wp2_with fail
  (with_reducible refine (eqRat_w _ _ _ _ _ R1 R2 _ _ _ _ (by omega) (by omega) _ G.out.w V.out.w).mono ?_)
  clear q0 q1 q2 q3 q4 q5
  rintro e w6 ⟨rfl, b1⟩
  have t6 : w5.heap.size + 1 ≤ w6.heap.size := by have := b1.size; simp at this; omega
  have X := hid (X.out.old b1)
  have LX := hid (LX.out.old b1)
  have V := hid (V.out.old b1)
  have LV := hid (LV.out.old b1)
  have O1 := hid (O1.out.old b1)
  have LO1 := hid (LO1.out.old b1)
  have G := hid (G.out.old b1)
  have LG := hid (LG.out.old b1)
  have B := hid (B.out.trans (b1.mono B.out.size))
  clear b1
  go_wp2_with fail
  have X := hid (X.out.old (Below_drew1 (Below.refl _ _)))
  have LX := hid (LX.out.old (Below_drew1 (Below.refl _ _)))
  have V := hid (V.out.old (Below_drew1 (Below.refl _ _)))
  have LV := hid (LV.out.old (Below_drew1 (Below.refl _ _)))
  have O1 := hid (O1.out.old (Below_drew1 (Below.refl _ _)))
  have LO1 := hid (LO1.out.old (Below_drew1 (Below.refl _ _)))
  have G := hid (G.out.old (Below_drew1 (Below.refl _ _)))
  have LG := hid (LG.out.old (Below_drew1 (Below.refl _ _)))
  have B := hid (Below_drew1 B.out)
  have q0 := LO1.out.c 0 (v := .bool s) rfl
  have q1 := LO1.out.c 1 (v := .slice a4 A.length c4) rfl
  have q2 := LO1.out.c 2 (v := .slice b4 D.length d4) rfl
  have q3 := LX.out.c 0 (v := .bool s) rfl
  have q4 := LX.out.c 1 (v := .slice a n c) rfl
  have q5 := LX.out.c 2 (v := .slice b m d) rfl
  go_region_held3 (fun w' => w'.cell? ⟨w4.heap.size, 0, none⟩ = some (.bool s) ∧ w'.cell? ⟨w4.heap.size, 1, none⟩ = some (.slice a4 A.length c4) ∧ w'.cell? ⟨w4.heap.size, 2, none⟩ = some (.slice b4 D.length d4) ∧ w'.cell? ⟨w.heap.size, 0, none⟩ = some (.bool s) ∧ w'.cell? ⟨w.heap.size, 1, none⟩ = some (.slice a n c) ∧ w'.cell? ⟨w.heap.size, 2, none⟩ = some (.slice b m d)) (first | exact ⟨q0, q1, q2, q3, q4, q5⟩) (first | (go_at_call 18; (with_reducible refine (KX.out _ X.out).mono ?_); rintro e w7 ⟨v7, u7, rfl, i1, b1⟩; have t7 : w6.heap.size ≤ w7.heap.size := (by have := b1.size; first | exact this | omega | (simp at this; omega)); have OC := hid i1; have X := hid (X.out.old b1); have LX := hid (LX.out.old b1); have V := hid (V.out.old b1); have LV := hid (LV.out.old b1); have O1 := hid (O1.out.old b1); have LO1 := hid (LO1.out.old b1); have G := hid (G.out.old b1); have LG := hid (LG.out.old b1); have B := hid (B.out.trans (b1.mono B.out.size)); have q0 := LO1.out.c 0 (v := .bool s) rfl; have q1 := LO1.out.c 1 (v := .slice a4 A.length c4) rfl; have q2 := LO1.out.c 2 (v := .slice b4 D.length d4) rfl; have q3 := LX.out.c 0 (v := .bool s) rfl; have q4 := LX.out.c 1 (v := .slice a n c) rfl; have q5 := LX.out.c 2 (v := .slice b m d) rfl; obtain ⟨a7, c7, b7, d7, rfl, rfl⟩ := i1.form; clear i1 b1) | (go_at_call 20; (with_reducible refine (eqRat_w _ _ _ _ _ A D _ _ _ _ (by omega) (by omega) _ O1.out.w OC.out.w).mono ?_); rintro e w8 ⟨rfl, b1⟩; have t8 : w7.heap.size ≤ w8.heap.size := (by have := b1.size; first | exact this | omega | (simp at this; omega)); have X := hid (X.out.old b1); have LX := hid (LX.out.old b1); have V := hid (V.out.old b1); have LV := hid (LV.out.old b1); have O1 := hid (O1.out.old b1); have LO1 := hid (LO1.out.old b1); have G := hid (G.out.old b1); have LG := hid (LG.out.old b1); have B := hid (B.out.trans (b1.mono B.out.size)); have q0 := LO1.out.c 0 (v := .bool s) rfl; have q1 := LO1.out.c 1 (v := .slice a4 A.length c4) rfl; have q2 := LO1.out.c 2 (v := .slice b4 D.length d4) rfl; have q3 := LX.out.c 0 (v := .bool s) rfl; have q4 := LX.out.c 1 (v := .slice a n c) rfl; have q5 := LX.out.c 2 (v := .slice b m d) rfl; clear b1))
  clear q0 q1 q2 q3 q4 q5
  have q0 := LO1.out.c 0 (v := .bool s) rfl
  have q1 := LO1.out.c 1 (v := .slice a4 A.length c4) rfl
  have q2 := LO1.out.c 2 (v := .slice b4 D.length d4) rfl
  go_wp2_with fail
  (with_reducible refine (markRat_obj _ _ _ A D (1) _ _ (by omega) (by omega) (by omega) (by omega) _ O1.out).mono ?_)
  clear q0 q1 q2
  rintro e w9 ⟨rfl, o1, b1⟩
  have t9 : w8.heap.size ≤ w9.heap.size := by have := b1.size; omega
  have O1 := hid o1
  have X := hid (X.out.onlyG b1 (by omega))
  have LX := hid (LX.out.onlyG b1 (by omega))
  have V := hid (V.out.onlyG b1 (by omega))
  have LV := hid (LV.out.onlyG b1 (by omega))
  have LO1 := hid (LO1.out.onlyG b1 (by omega))
  have G := hid (G.out.onlyG b1 (by omega))
  have LG := hid (LG.out.onlyG b1 (by omega))
  have B := hid (in_onlyG B.out b1 (by omega))
  clear o1 b1
  have q0 := LG.out.c 0 (v := .bool rs) rfl
  have q1 := LG.out.c 1 (v := .slice a5 R1.length c5) rfl
  have q2 := LG.out.c 2 (v := .slice b5 R2.length d5) rfl
  have q3 := LV.out.c 0 (v := .bool rs) rfl
  have q4 := LV.out.c 1 (v := .slice a3 R1.length c3) rfl
  have q5 := LV.out.c 2 (v := .slice b3 R2.length d3) rfl
  go_wp2_with fail
  (with_reducible refine (eqRat_w _ _ _ _ _ R1 R2 _ _ _ _ (by omega) (by omega) _ G.out.w V.out.w).mono ?_)
  clear q0 q1 q2 q3 q4 q5
  rintro e w10 ⟨rfl, b1⟩
  have t10 : w9.heap.size ≤ w10.heap.size := by have := b1.size; omega
  have X := hid (X.out.old b1)
  have LX := hid (LX.out.old b1)
  have V := hid (V.out.old b1)
  have LV := hid (LV.out.old b1)
  have G := hid (G.out.old b1)
  have LG := hid (LG.out.old b1)
  have B := hid (B.out.trans (b1.mono B.out.size))
  clear b1
  have q0 := LG.out.c 0 (v := .bool rs) rfl
  have q1 := LG.out.c 1 (v := .slice a5 R1.length c5) rfl
  have q2 := LG.out.c 2 (v := .slice b5 R2.length d5) rfl
  go_wp2_with fail
  (with_reducible refine (markRat_obj _ _ _ R1 R2 (1) _ _ (by omega) (by omega) (by omega) (by omega) _ G.out).mono ?_)
  clear q0 q1 q2
  rintro e w11 ⟨rfl, o1, b1⟩
  have t11 : w10.heap.size ≤ w11.heap.size := by have := b1.size; omega
  have G := hid o1
  have X := hid (X.out.onlyG b1 (by omega))
  have LX := hid (LX.out.onlyG b1 (by omega))
  have V := hid (V.out.onlyG b1 (by omega))
  have LV := hid (LV.out.onlyG b1 (by omega))
  have LG := hid (LG.out.onlyG b1 (by omega))
  have B := hid (in_onlyG B.out b1 (by omega))
  clear o1 b1
  have q0 := LG.out.c 0 (v := .bool rs) rfl
  have q1 := LG.out.c 1 (v := .slice a5 R1.length c5) rfl
  have q2 := LG.out.c 2 (v := .slice b5 R2.length d5) rfl
  go_wp2_with fail
  (with_reducible refine (heldRat_obj _ _ _ R1.length R2.length 1 _ _ (by omega) (by omega) (by omega) (by omega) _ G.out).mono ?_)
  clear q0 q1 q2
  rintro e w12 ⟨rfl, b1⟩
  have t12 : w11.heap.size ≤ w12.heap.size := by have := b1.size; omega
  have X := hid (X.out.old b1)
  have LX := hid (LX.out.old b1)
  have V := hid (V.out.old b1)
  have LV := hid (LV.out.old b1)
  have G := hid (G.out.old b1)
  have LG := hid (LG.out.old b1)
  have B := hid (B.out.trans (b1.mono B.out.size))
  clear b1
  have q0 := LX.out.c 0 (v := .bool s) rfl
  have q1 := LX.out.c 1 (v := .slice a n c) rfl
  have q2 := LX.out.c 2 (v := .slice b m d) rfl
  go_wp2_with fail
  (with_reducible refine (KX.out _ X.out).mono ?_)
  clear q0 q1 q2
  rintro e w13 ⟨v13, u13, rfl, i1, b1⟩
  have t13 : w12.heap.size ≤ w13.heap.size := by have := b1.size; omega
  have O3 := hid (ROb.at (lo := w12.heap.size) i1 (by simp))
  have X := hid (X.out.old b1)
  have LX := hid (LX.out.old b1)
  have V := hid (V.out.old b1)
  have LV := hid (LV.out.old b1)
  have G := hid (G.out.old b1)
  have LG := hid (LG.out.old b1)
  have B := hid (B.out.trans (b1.mono B.out.size))
  obtain ⟨a13, c13, b13, d13, rfl, rfl⟩ := i1.form
  clear i1 b1
  go_wp2_with fail
  (with_reducible refine (KI.out _ _ _ (O3.out.rl (by omega) (by omega))).mono ?_)
  rintro e w14 ⟨v14, u14, rfl, i1, b1⟩
  have t14 : w13.heap.size ≤ w14.heap.size := by have := b1.size; omega
  have H := hid (ROb.at (lo := w13.heap.size) i1 (by simp))
  have X := hid (X.out.old b1)
  have LX := hid (LX.out.old b1)
  have V := hid (V.out.old b1)
  have LV := hid (LV.out.old b1)
  have G := hid (G.out.old b1)
  have LG := hid (LG.out.old b1)
  have O3 := hid (O3.out.old b1)
  have B := hid (B.out.trans (b1.mono B.out.size))
  obtain ⟨a14, c14, b14, d14, rfl, rfl⟩ := i1.form
  clear i1 b1
  have X := hid (X.out.old (below_new' (o := .cells #[.bool rs, .slice a14 R1.length c14, .slice b14 R2.length d14] 30)))
  have LX := hid (LX.out.old (below_new' (o := .cells #[.bool rs, .slice a14 R1.length c14, .slice b14 R2.length d14] 30)))
  have V := hid (V.out.old (below_new' (o := .cells #[.bool rs, .slice a14 R1.length c14, .slice b14 R2.length d14] 30)))
  have LV := hid (LV.out.old (below_new' (o := .cells #[.bool rs, .slice a14 R1.length c14, .slice b14 R2.length d14] 30)))
  have G := hid (G.out.old (below_new' (o := .cells #[.bool rs, .slice a14 R1.length c14, .slice b14 R2.length d14] 30)))
  have LG := hid (LG.out.old (below_new' (o := .cells #[.bool rs, .slice a14 R1.length c14, .slice b14 R2.length d14] 30)))
  have H := hid (H.out.old (below_new' (o := .cells #[.bool rs, .slice a14 R1.length c14, .slice b14 R2.length d14] 30)))
  have B := hid (B.out.alloc B.out.size (.cells #[.bool rs, .slice a14 R1.length c14, .slice b14 R2.length d14] 30))
  have LH := hid (LocA.new (w := w14) (T := 30) (cs := #[.bool rs, .slice a14 R1.length c14, .slice b14 R2.length d14]))
  have q0 := LH.out.c 0 (v := .bool rs) rfl
  have q1 := LH.out.c 1 (v := .slice a14 R1.length c14) rfl
  have q2 := LH.out.c 2 (v := .slice b14 R2.length d14) rfl
  have q3 := LV.out.c 0 (v := .bool rs) rfl
  have q4 := LV.out.c 1 (v := .slice a3 R1.length c3) rfl
  have q5 := LV.out.c 2 (v := .slice b3 R2.length d3) rfl
  go_wp2_with fail
  (with_reducible refine (eqRat_w _ _ _ _ _ R1 R2 _ _ _ _ (by omega) (by omega) _ H.out.w V.out.w).mono ?_)
  clear q0 q1 q2 q3 q4 q5
  rintro e w15 ⟨rfl, b1⟩
  have t15 : w14.heap.size + 1 ≤ w15.heap.size := by have := b1.size; simp at this; omega
  have X := hid (X.out.old b1)
  have LX := hid (LX.out.old b1)
  have V := hid (V.out.old b1)
  have LV := hid (LV.out.old b1)
  have G := hid (G.out.old b1)
  have LG := hid (LG.out.old b1)
  have H := hid (H.out.old b1)
  have LH := hid (LH.out.old b1)
  have B := hid (B.out.trans (b1.mono B.out.size))
  clear b1
  have q0 := LG.out.c 0 (v := .bool rs) rfl
  have q1 := LG.out.c 1 (v := .slice a5 R1.length c5) rfl
  have q2 := LG.out.c 2 (v := .slice b5 R2.length d5) rfl
  go_wp2_with fail
  (with_reducible refine (heldRat_obj _ _ _ R1.length R2.length 1 _ _ (by omega) (by omega) (by omega) (by omega) _ G.out).mono ?_)
  clear q0 q1 q2
  rintro e w16 ⟨rfl, b1⟩
  have t16 : w15.heap.size ≤ w16.heap.size := by have := b1.size; omega
  have X := hid (X.out.old b1)
  have LX := hid (LX.out.old b1)
  have G := hid (G.out.old b1)
  have LG := hid (LG.out.old b1)
  have B := hid (B.out.trans (b1.mono B.out.size))
  clear b1
  go_wp2
  go_ret
  exact ⟨rfl, B.out⟩

set_option maxRecDepth 100000 in
set_option maxHeartbeats 25600000 in
theorem law_RatIsInt (s : Bool) (a : Option Addr) (n c : Nat) (A : List Int) (b : Option Addr) (m d : Nat) (D : List Int) (hmX : n ≤ maxLen) (hkX : m ≤ maxLen) (w : World) (rX : RowI w a n A) (pX : RowI w b m D) :
    Calls Try.prog 6 #[.agg #[.bool s, .slice a n c, .slice b m d]] w (RetB (.bool true) w) := by
  have hX : A.length ≤ n := by have := rX.1; omega
  have gX : D.length ≤ m := by have := pX.1; omega
  have X := hid (CameR.old ⟨Came.of rX, Came.of pX⟩ (below_new' (w := w) (o := .cells #[.bool s, .slice a n c, .slice b m d] 39)))
  have B := hid (below_new' (w := w) (o := .cells #[.bool s, .slice a n c, .slice b m d] 39))
  have LX := hid (LocA.at (T := 39) (w := w) (b := w.heap.size) (cs := #[.bool s, .slice a n c, .slice b m d]) (by simp))
  have hsz : w.heap.size + 1 ≤ (w.alloc (.cells #[.bool s, .slice a n c, .slice b m d] 39)).heap.size := by simp
  clear rX pX
  generalize hW : w.alloc (.cells #[.bool s, .slice a n c, .slice b m d] 39) = W0 at B hsz X LX
  have HW := hid hW
  clear hW
  by_cases hAX : 1048576 < (n : Int) + (m : Int)
  · have K := hid (szRat_no s a n c b m d (1048576) hmX hkX hAX (by omega) (by omega))
    go_enter Try.func6, Try.ntmps6
    go_wp2_with fail
    rw [HW.out]
    (with_reducible refine (K.out _).mono ?_)
    rintro e w1 ⟨rfl, b1⟩
    have B := hid (B.out.trans (b1.mono B.out.size))
    clear b1
    go_wp2
    go_ret
    exact ⟨rfl, B.out⟩
  have KZX := hid (szRat_yes s a n c b m d (1048576) (by omega) (by omega))
  have hgeX : ¬ 1048576 - (n : Int) - (m : Int) < 0 := by omega
  have lX : A.length ≤ 1048576 := by omega
  have kX : D.length ≤ 1048576 := by omega
  have hsum : (A.length : Int) + (D.length : Int) ≤ 1048576 := by omega
  have KX := hid (fun (W : World) (h : CameR W w.heap.size a n A b m D) => toRat_came s a n c b m d _ A D (by omega) (by omega) W h)
  have KS := hid (fun (W : World) (v0 u0 : Value) (h0 : RL W v0 u0 A D) => spec_RatIsInt s v0 u0 A D W h0)
  have KI := hid (fun (W : World) (v0 u0 : Value) (h0 : RL W v0 u0 A D) => impl_RatIsInt s v0 u0 A D W h0)
  obtain ⟨z, hz⟩ : ∃ z, z = (rok s A D && decide (D = [1])) := ⟨_, rfl⟩
  rw [← hz] at KS KI
  clear hz
  clear hX gX
  go_enter Try.func6, Try.ntmps6
  go_wp2_with fail
  rw [HW.out]
  (with_reducible refine (KZX.out _).mono ?_)
  rintro e w1 ⟨rfl, b1⟩
  have t1 : w.heap.size + 1 ≤ w1.heap.size := by have := b1.size; omega
  have X := hid (X.out.old b1)
  have LX := hid (LX.out.old b1)
  have B := hid (B.out.trans (b1.mono B.out.size))
  clear b1
  have q0 := LX.out.c 0 (v := .bool s) rfl
  have q1 := LX.out.c 1 (v := .slice a n c) rfl
  have q2 := LX.out.c 2 (v := .slice b m d) rfl
  go_wp2_with fail
  (with_reducible refine (KX.out _ X.out).mono ?_)
  clear q0 q1 q2
  rintro e w2 ⟨v2, u2, rfl, i1, b1⟩
  have t2 : w1.heap.size ≤ w2.heap.size := by have := b1.size; omega
  have O1 := hid (ROb.at (lo := w1.heap.size) i1 (by simp))
  have X := hid (X.out.old b1)
  have LX := hid (LX.out.old b1)
  have B := hid (B.out.trans (b1.mono B.out.size))
  obtain ⟨a2, c2, b2, d2, rfl, rfl⟩ := i1.form
  clear i1 b1
  go_wp2_with fail
  (with_reducible refine (KS.out _ _ _ (O1.out.rl (by omega) (by omega))).mono ?_)
  rintro e w3 ⟨rfl, b1⟩
  have t3 : w2.heap.size ≤ w3.heap.size := by have := b1.size; omega
  have X := hid (X.out.old b1)
  have LX := hid (LX.out.old b1)
  have O1 := hid (O1.out.old b1)
  have B := hid (B.out.trans (b1.mono B.out.size))
  clear b1
  have q0 := LX.out.c 0 (v := .bool s) rfl
  have q1 := LX.out.c 1 (v := .slice a n c) rfl
  have q2 := LX.out.c 2 (v := .slice b m d) rfl
  go_wp2_with fail
  (with_reducible refine (KX.out _ X.out).mono ?_)
  clear q0 q1 q2
  rintro e w4 ⟨v4, u4, rfl, i1, b1⟩
  have t4 : w3.heap.size ≤ w4.heap.size := by have := b1.size; omega
  have O1 := hid (ROb.at (lo := w3.heap.size) i1 (by simp))
  have X := hid (X.out.old b1)
  have LX := hid (LX.out.old b1)
  have B := hid (B.out.trans (b1.mono B.out.size))
  obtain ⟨a4, c4, b4, d4, rfl, rfl⟩ := i1.form
  clear i1 b1
  have X := hid (X.out.old (below_new' (o := .cells #[.bool s, .slice a4 A.length c4, .slice b4 D.length d4] 30)))
  have LX := hid (LX.out.old (below_new' (o := .cells #[.bool s, .slice a4 A.length c4, .slice b4 D.length d4] 30)))
  have O1 := hid (O1.out.old (below_new' (o := .cells #[.bool s, .slice a4 A.length c4, .slice b4 D.length d4] 30)))
  have B := hid (B.out.alloc B.out.size (.cells #[.bool s, .slice a4 A.length c4, .slice b4 D.length d4] 30))
  have LO1 := hid (LocA.new (w := w4) (T := 30) (cs := #[.bool s, .slice a4 A.length c4, .slice b4 D.length d4]))
  have q0 := LO1.out.c 0 (v := .bool s) rfl
  have q1 := LO1.out.c 1 (v := .slice a4 A.length c4) rfl
  have q2 := LO1.out.c 2 (v := .slice b4 D.length d4) rfl
  go_wp2_with fail
  (with_reducible refine (KI.out _ _ _ (O1.out.rl (by omega) (by omega))).mono ?_)
  clear q0 q1 q2
  rintro e w5 ⟨rfl, b1⟩
  have t5 : w4.heap.size + 1 ≤ w5.heap.size := by have := b1.size; simp at this; omega
  have X := hid (X.out.old b1)
  have LX := hid (LX.out.old b1)
  have O1 := hid (O1.out.old b1)
  have LO1 := hid (LO1.out.old b1)
  have B := hid (B.out.trans (b1.mono B.out.size))
  clear b1
  go_wp2_with fail
  have X := hid (X.out.old (Below_drew1 (Below.refl _ _)))
  have LX := hid (LX.out.old (Below_drew1 (Below.refl _ _)))
  have O1 := hid (O1.out.old (Below_drew1 (Below.refl _ _)))
  have LO1 := hid (LO1.out.old (Below_drew1 (Below.refl _ _)))
  have B := hid (Below_drew1 B.out)
  have q0 := LO1.out.c 0 (v := .bool s) rfl
  have q1 := LO1.out.c 1 (v := .slice a4 A.length c4) rfl
  have q2 := LO1.out.c 2 (v := .slice b4 D.length d4) rfl
  have q3 := LX.out.c 0 (v := .bool s) rfl
  have q4 := LX.out.c 1 (v := .slice a n c) rfl
  have q5 := LX.out.c 2 (v := .slice b m d) rfl
  go_region_held3 (fun w' => w'.cell? ⟨w4.heap.size, 0, none⟩ = some (.bool s) ∧ w'.cell? ⟨w4.heap.size, 1, none⟩ = some (.slice a4 A.length c4) ∧ w'.cell? ⟨w4.heap.size, 2, none⟩ = some (.slice b4 D.length d4) ∧ w'.cell? ⟨w.heap.size, 0, none⟩ = some (.bool s) ∧ w'.cell? ⟨w.heap.size, 1, none⟩ = some (.slice a n c) ∧ w'.cell? ⟨w.heap.size, 2, none⟩ = some (.slice b m d)) (first | exact ⟨q0, q1, q2, q3, q4, q5⟩) (first | (go_at_call 18; (with_reducible refine (KX.out _ X.out).mono ?_); rintro e w6 ⟨v6, u6, rfl, i1, b1⟩; have t6 : w5.heap.size ≤ w6.heap.size := (by have := b1.size; first | exact this | omega | (simp at this; omega)); have OC := hid i1; have X := hid (X.out.old b1); have LX := hid (LX.out.old b1); have O1 := hid (O1.out.old b1); have LO1 := hid (LO1.out.old b1); have B := hid (B.out.trans (b1.mono B.out.size)); have q0 := LO1.out.c 0 (v := .bool s) rfl; have q1 := LO1.out.c 1 (v := .slice a4 A.length c4) rfl; have q2 := LO1.out.c 2 (v := .slice b4 D.length d4) rfl; have q3 := LX.out.c 0 (v := .bool s) rfl; have q4 := LX.out.c 1 (v := .slice a n c) rfl; have q5 := LX.out.c 2 (v := .slice b m d) rfl; obtain ⟨a6, c6, b6, d6, rfl, rfl⟩ := i1.form; clear i1 b1) | (go_at_call 20; (with_reducible refine (eqRat_w _ _ _ _ _ A D _ _ _ _ (by omega) (by omega) _ O1.out.w OC.out.w).mono ?_); rintro e w7 ⟨rfl, b1⟩; have t7 : w6.heap.size ≤ w7.heap.size := (by have := b1.size; first | exact this | omega | (simp at this; omega)); have X := hid (X.out.old b1); have LX := hid (LX.out.old b1); have O1 := hid (O1.out.old b1); have LO1 := hid (LO1.out.old b1); have B := hid (B.out.trans (b1.mono B.out.size)); have q0 := LO1.out.c 0 (v := .bool s) rfl; have q1 := LO1.out.c 1 (v := .slice a4 A.length c4) rfl; have q2 := LO1.out.c 2 (v := .slice b4 D.length d4) rfl; have q3 := LX.out.c 0 (v := .bool s) rfl; have q4 := LX.out.c 1 (v := .slice a n c) rfl; have q5 := LX.out.c 2 (v := .slice b m d) rfl; clear b1))
  clear q0 q1 q2 q3 q4 q5
  go_wp2
  go_ret
  exact ⟨rfl, B.out⟩

end Go.Proofs.Ytookglpeieennaa
