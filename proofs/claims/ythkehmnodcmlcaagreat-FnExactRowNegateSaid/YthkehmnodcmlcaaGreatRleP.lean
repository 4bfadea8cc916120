import Derived.Test.YthkehmnodcmlcaaGreatRwnP
import Derived.Test.YthkehmnodcmlcaaGreatRlzP
import Derived.Deep.RegionHeld3
import Derived.Deep.DeepCutAuto
set_option maxRecDepth 100000
set_option maxHeartbeats 25600000
set_option linter.unusedVariables false
set_option linter.unusedSimpArgs false
namespace Go.Proofs.YthkehmnodcmlcaaGreat
open Go.RowKit
open Go.Lib (hid)
theorem law_RowNegate (a : Option Addr) (n c : Nat) (K : List Tq) (x : Int) (s : Bool) (b : Option Addr) (m d : Nat) (A : List Int) (e : Option Addr) (k f : Nat) (D : List Int) (hnK : n ≤ maxLen) (hmK : ∀ f ∈ K, f.A.length ≤ maxLen ∧ f.D.length ≤ maxLen) (hAK : m ≤ maxLen) (hDK : k ≤ maxLen) (w : World) (rK : WCame w w.heap.size a n K b m A e k D) :
  Calls Tryz.prog 6 #[.agg #[.slice a n c, .int .i64 x, .bool s, .slice b m d, .slice e k f]] w (RetB (.bool true) w) := by
 obtain rfl := rK.r.x.1
 obtain rfl := rK.r.y.1
 have BW := below_new' (w := w) (o := .cells #[.slice a n c, .int .i64 x, .bool s, .slice b A.length d, .slice e D.length f] 29)
 have B := hid BW
 have rK := hid (rK.old BW)
 have LK := hid (LocA.new (w := w) (T := 29) (cs := #[.slice a n c, .int .i64 x, .bool s, .slice b A.length d, .slice e D.length f]))
 have hs0 : (w.alloc (.cells #[.slice a n c, .int .i64 x, .bool s, .slice b A.length d, .slice e D.length f] 29)).heap.size = w.heap.size + 1 := by simp
 clear BW
 generalize hW : w.alloc (.cells #[.slice a n c, .int .i64 x, .bool s, .slice b A.length d, .slice e D.length f] 29) = w0 at B rK LK hs0
 have HW := hid hW
 clear hW
 by_cases hsK : (szU K : Int) + (A.length : Int) + (D.length : Int) ≤ 1048576
 case neg =>
  go_enter Tryz.func6, Tryz.ntmps6
  obtain ⟨q0, q1, q2, q3, q4⟩ := LK.out.all5
  go_wp2_with fail
  rw [HW.out]
  (with_reducible refine (szRow_no _ _ _ x s _ _ _ _ _ _ _ K (1048576) hnK hmK hAK hDK (by omega) (by omega) (by omega) _ rK.out.t).mono ?_)
  clear q0 q1 q2 q3 q4
  rintro e w1 ⟨rfl, b1⟩
  have t1 : w0.heap.size ≤ w1.heap.size := by have := b1.size; omega
  have rK := hid (rK.out.old b1)
  have LK := hid (LK.out.old b1)
  have B := hid (B.out.trans (b1.mono B.out.size))
  clear b1
  go_wp2
  go_ret
  exact ⟨rfl, B.out⟩
 have hztK := szT_szU K
 have hSK : SmT K := SmT.of (by omega)
 have huK : szU K ≤ 1048576 := by omega
 have htK : szT K ≤ 2097152 := by omega
 have haK : A.length ≤ 1048576 := by omega
 have hdK : D.length ≤ 1048576 := by omega
 have hy0 : ¬ 1048576 - (szU K : Int) - (A.length : Int) - (D.length : Int) < 0 := by omega
 obtain ⟨RT, rx, rs, R1, R2, hrt, l1, l2, KS0, KI0⟩ : ∃ RT rx rs R1 R2, szT RT ≤ 2000 ∧ R1.length ≤ 24 ∧ R2.length ≤ 24 ∧ (∀ (W : World) (t0 v0 u0 : Value) (g0 : RwW W t0 v0 u0 K A D), Calls Tryz.prog 33 #[.agg #[t0, .int .i64 x, .bool s, v0, u0]] W (RowRW RT rx rs R1 R2 W)) ∧ (∀ (W : World) (t0 v0 u0 : Value) (g0 : RwW W t0 v0 u0 K A D), Calls Tryz.prog 34 #[.agg #[t0, .int .i64 x, .bool s, v0, u0]] W (RowRM RT rx rs R1 R2 W)) := ⟨_, _, _, _, _, (scaleR_sz K x s A D (some ((-1 : Int) : Rat))).1, (scaleR_sz K x s A D (some ((-1 : Int) : Rat))).2.1, (scaleR_sz K x s A D (some ((-1 : Int) : Rat))).2.2, fun W t0 v0 u0 g0 => spec_RowNegate x s hSK haK hdK W g0, fun W t0 v0 u0 g0 => impl_RowNegate x s hSK haK hdK W g0⟩
 have KS := hid KS0
 have KI := hid KI0
 clear KS0 KI0
 go_enter Tryz.func6, Tryz.ntmps6
 obtain ⟨q0, q1, q2, q3, q4⟩ := LK.out.all5
 go_wp2_with fail
 rw [HW.out]
 (with_reducible refine (szRow_yes _ _ _ x s _ _ _ _ _ _ _ K (1048576) (by omega) (by omega) _ rK.out.t).mono ?_)
 clear q0 q1 q2 q3 q4
 rintro e w1 ⟨rfl, b1⟩
 have t1 : w0.heap.size ≤ w1.heap.size := by have := b1.size; omega
 have rK := hid (rK.out.old b1)
 have LK := hid (LK.out.old b1)
 have B := hid (B.out.trans (b1.mono B.out.size))
 clear b1
 obtain ⟨q0, q1, q2, q3, q4⟩ := LK.out.all5
 go_wp2_with fail
 (with_reducible refine (toRow_came _ _ _ x s _ _ _ _ _ _ _ K A D huK haK hdK _ rK.out).mono ?_)
 clear q0 q1 q2 q3 q4
 rintro e w2 ⟨a2, c2, b2, d2, g2, f2, m2, rfl, i1, b1⟩
 have t2 : w1.heap.size ≤ w2.heap.size := by have := b1.size; omega
 have rK := hid (rK.out.old b1)
 have LK := hid (LK.out.old b1)
 have B := hid (B.out.trans (b1.mono B.out.size))
 have T0 := hid i1
 clear i1 b1
 go_wp2_with fail
 (with_reducible refine (KS.out _ _ _ _ T0.out.w).mono ?_)
 rintro e w3 ⟨a3, c3, b3, d3, g3, f3, m3, rfl, i1, b1⟩
 have t3 : w2.heap.size ≤ w3.heap.size := by have := b1.size; omega
 have rK := hid (rK.out.old b1)
 have LK := hid (LK.out.old b1)
 have T0 := hid (T0.out.old b1)
 have B := hid (B.out.trans (b1.mono B.out.size))
 have W0 := hid i1
 clear i1 b1
 have rK := hid (rK.out.old (below_new' (o := .cells #[.slice a3 RT.length c3, .int .i64 rx, .bool rs, .slice b3 R1.length d3, .slice g3 R2.length f3] 39)))
 have LK := hid (LK.out.old (below_new' (o := .cells #[.slice a3 RT.length c3, .int .i64 rx, .bool rs, .slice b3 R1.length d3, .slice g3 R2.length f3] 39)))
 have T0 := hid (T0.out.old (below_new' (o := .cells #[.slice a3 RT.length c3, .int .i64 rx, .bool rs, .slice b3 R1.length d3, .slice g3 R2.length f3] 39)))
 have W0 := hid (W0.out.old (below_new' (o := .cells #[.slice a3 RT.length c3, .int .i64 rx, .bool rs, .slice b3 R1.length d3, .slice g3 R2.length f3] 39)))
 have B := hid (B.out.alloc B.out.size (.cells #[.slice a3 RT.length c3, .int .i64 rx, .bool rs, .slice b3 R1.length d3, .slice g3 R2.length f3] 39))
 have LW0 := hid (LocA.new (w := w3) (T := 39) (cs := #[.slice a3 RT.length c3, .int .i64 rx, .bool rs, .slice b3 R1.length d3, .slice g3 R2.length f3]))
 have hs3 : (w3.alloc (.cells #[.slice a3 RT.length c3, .int .i64 rx, .bool rs, .slice b3 R1.length d3, .slice g3 R2.length f3] 39)).heap.size = w3.heap.size + 1 := by simp
 obtain ⟨q0, q1, q2, q3, q4⟩ := LK.out.all5
 go_wp2_with fail
 (with_reducible refine (toRow_came _ _ _ x s _ _ _ _ _ _ _ K A D huK haK hdK _ rK.out).mono ?_)
 clear q0 q1 q2 q3 q4
 rintro e w4 ⟨a4, c4, b4, d4, g4, f4, m4, rfl, i1, b1⟩
 have t4 : w3.heap.size + 1 ≤ w4.heap.size := by have := b1.size; simp at this; omega
 have rK := hid (rK.out.old b1)
 have LK := hid (LK.out.old b1)
 have W0 := hid (W0.out.old b1)
 have LW0 := hid (LW0.out.old b1)
 have B := hid (B.out.trans (b1.mono B.out.size))
 have X0 := hid i1
 clear i1 b1
 have rK := hid (rK.out.old (below_new' (o := .cells #[.slice a4 K.length c4, .int .i64 x, .bool s, .slice b4 A.length d4, .slice g4 D.length f4] 39)))
 have LK := hid (LK.out.old (below_new' (o := .cells #[.slice a4 K.length c4, .int .i64 x, .bool s, .slice b4 A.length d4, .slice g4 D.length f4] 39)))
 have W0 := hid (W0.out.old (below_new' (o := .cells #[.slice a4 K.length c4, .int .i64 x, .bool s, .slice b4 A.length d4, .slice g4 D.length f4] 39)))
 have LW0 := hid (LW0.out.old (below_new' (o := .cells #[.slice a4 K.length c4, .int .i64 x, .bool s, .slice b4 A.length d4, .slice g4 D.length f4] 39)))
 have X0 := hid (X0.out.old (below_new' (o := .cells #[.slice a4 K.length c4, .int .i64 x, .bool s, .slice b4 A.length d4, .slice g4 D.length f4] 39)))
 have B := hid (B.out.alloc B.out.size (.cells #[.slice a4 K.length c4, .int .i64 x, .bool s, .slice b4 A.length d4, .slice g4 D.length f4] 39))
 have LX0 := hid (LocA.new (w := w4) (T := 39) (cs := #[.slice a4 K.length c4, .int .i64 x, .bool s, .slice b4 A.length d4, .slice g4 D.length f4]))
 have hs4 : (w4.alloc (.cells #[.slice a4 K.length c4, .int .i64 x, .bool s, .slice b4 A.length d4, .slice g4 D.length f4] 39)).heap.size = w4.heap.size + 1 := by simp
 obtain ⟨q0, q1, q2, q3, q4⟩ := LX0.out.all5
 go_wp2_with fail
 (with_reducible refine (KI.out _ _ _ _ X0.out.w).mono ?_)
 clear q0 q1 q2 q3 q4
 rintro e w5 ⟨a5, c5, b5, d5, g5, f5, m5, rfl, i1, b1⟩
 have t5 : w4.heap.size + 1 ≤ w5.heap.size := by have := b1.size; simp at this; omega
 have rK := hid (rK.out.old b1)
 have LK := hid (LK.out.old b1)
 have W0 := hid (W0.out.old b1)
 have LW0 := hid (LW0.out.old b1)
 have X0 := hid (X0.out.old b1)
 have LX0 := hid (LX0.out.old b1)
 have B := hid (B.out.trans (b1.mono B.out.size))
 have G0 := hid i1
 clear i1 b1
 have rK := hid (rK.out.old (below_new' (o := .cells #[.slice a5 RT.length c5, .int .i64 rx, .bool rs, .slice b5 R1.length d5, .slice g5 R2.length f5] 39)))
 have LK := hid (LK.out.old (below_new' (o := .cells #[.slice a5 RT.length c5, .int .i64 rx, .bool rs, .slice b5 R1.length d5, .slice g5 R2.length f5] 39)))
 have W0 := hid (W0.out.old (below_new' (o := .cells #[.slice a5 RT.length c5, .int .i64 rx, .bool rs, .slice b5 R1.length d5, .slice g5 R2.length f5] 39)))
 have LW0 := hid (LW0.out.old (below_new' (o := .cells #[.slice a5 RT.length c5, .int .i64 rx, .bool rs, .slice b5 R1.length d5, .slice g5 R2.length f5] 39)))
 have X0 := hid (X0.out.old (below_new' (o := .cells #[.slice a5 RT.length c5, .int .i64 rx, .bool rs, .slice b5 R1.length d5, .slice g5 R2.length f5] 39)))
 have LX0 := hid (LX0.out.old (below_new' (o := .cells #[.slice a5 RT.length c5, .int .i64 rx, .bool rs, .slice b5 R1.length d5, .slice g5 R2.length f5] 39)))
 have G0 := hid (G0.out.old (below_new' (o := .cells #[.slice a5 RT.length c5, .int .i64 rx, .bool rs, .slice b5 R1.length d5, .slice g5 R2.length f5] 39)))
 have B := hid (B.out.alloc B.out.size (.cells #[.slice a5 RT.length c5, .int .i64 rx, .bool rs, .slice b5 R1.length d5, .slice g5 R2.length f5] 39))
 have LG0 := hid (LocA.new (w := w5) (T := 39) (cs := #[.slice a5 RT.length c5, .int .i64 rx, .bool rs, .slice b5 R1.length d5, .slice g5 R2.length f5]))
 have hs5 : (w5.alloc (.cells #[.slice a5 RT.length c5, .int .i64 rx, .bool rs, .slice b5 R1.length d5, .slice g5 R2.length f5] 39)).heap.size = w5.heap.size + 1 := by simp
 obtain ⟨q0, q1, q2, q3, q4⟩ := LG0.out.all5
 obtain ⟨q5, q6, q7, q8, q9⟩ := LW0.out.all5
 go_wp2_with fail
 (with_reducible refine (eqRow_k rx rs (by omega) (by omega) (by omega) _ G0.out.w W0.out.w).mono ?_)
 clear q0 q1 q2 q3 q4 q5 q6 q7 q8 q9
 rintro e w6 ⟨rfl, b1⟩
 have t6 : w5.heap.size + 1 ≤ w6.heap.size := by have := b1.size; simp at this; omega
 have rK := hid (rK.out.old b1)
 have LK := hid (LK.out.old b1)
 have W0 := hid (W0.out.old b1)
 have LW0 := hid (LW0.out.old b1)
 have X0 := hid (X0.out.old b1)
 have LX0 := hid (LX0.out.old b1)
 have G0 := hid (G0.out.old b1)
 have LG0 := hid (LG0.out.old b1)
 have B := hid (B.out.trans (b1.mono B.out.size))
 clear b1
 have rK := hid (rK.out.old (Below_drew1 (Below.refl _ _)))
 have LK := hid (LK.out.old (Below_drew1 (Below.refl _ _)))
 have W0 := hid (W0.out.old (Below_drew1 (Below.refl _ _)))
 have LW0 := hid (LW0.out.old (Below_drew1 (Below.refl _ _)))
 have X0 := hid (X0.out.old (Below_drew1 (Below.refl _ _)))
 have LX0 := hid (LX0.out.old (Below_drew1 (Below.refl _ _)))
 have G0 := hid (G0.out.old (Below_drew1 (Below.refl _ _)))
 have LG0 := hid (LG0.out.old (Below_drew1 (Below.refl _ _)))
 have B := hid (Below_drew1 B.out)
 obtain ⟨q0, q1, q2, q3, q4⟩ := LX0.out.all5
 obtain ⟨q5, q6, q7, q8, q9⟩ := LK.out.all5
 go_wp2_with fail
 go_region_held3 (fun w' => w'.cell? ⟨w4.heap.size, 0, none⟩ = some (.slice a4 K.length c4) ∧ w'.cell? ⟨w4.heap.size, 1, none⟩ = some (.int .i64 x) ∧ w'.cell? ⟨w4.heap.size, 2, none⟩ = some (.bool s) ∧ w'.cell? ⟨w4.heap.size, 3, none⟩ = some (.slice b4 A.length d4) ∧ w'.cell? ⟨w4.heap.size, 4, none⟩ = some (.slice g4 D.length f4) ∧ w'.cell? ⟨w.heap.size, 0, none⟩ = some (.slice a n c) ∧ w'.cell? ⟨w.heap.size, 1, none⟩ = some (.int .i64 x) ∧ w'.cell? ⟨w.heap.size, 2, none⟩ = some (.bool s) ∧ w'.cell? ⟨w.heap.size, 3, none⟩ = some (.slice b A.length d) ∧ w'.cell? ⟨w.heap.size, 4, none⟩ = some (.slice e D.length f)) (first | exact ⟨q0, q1, q2, q3, q4, q5, q6, q7, q8, q9⟩) (first | (go_at_call 16; (with_reducible refine (toRow_came _ _ _ x s _ _ _ _ _ _ _ K A D huK haK hdK _ rK.out).mono ?_); rintro e w7 ⟨a7, c7, b7, d7, g7, f7, m7, rfl, i1, b1⟩; have t7 : w6.heap.size ≤ w7.heap.size := (by have := b1.size; first | exact this | omega | (simp at this; omega)); have rK := hid (rK.out.old b1); have LK := hid (LK.out.old b1); have W0 := hid (W0.out.old b1); have LW0 := hid (LW0.out.old b1); have X0 := hid (X0.out.old b1); have LX0 := hid (LX0.out.old b1); have G0 := hid (G0.out.old b1); have LG0 := hid (LG0.out.old b1); have B := hid (B.out.trans (b1.mono B.out.size)); obtain ⟨q0, q1, q2, q3, q4⟩ := LX0.out.all5; obtain ⟨q5, q6, q7, q8, q9⟩ := LK.out.all5; have T0 := hid i1; clear i1 b1) | (go_at_call 19; (with_reducible refine (eqRow_k x s (by omega) (by omega) (by omega) _ X0.out.w T0.out.w).mono ?_); rintro e w8 ⟨rfl, b1⟩; have t8 : w7.heap.size ≤ w8.heap.size := (by have := b1.size; first | exact this | omega | (simp at this; omega)); have rK := hid (rK.out.old b1); have LK := hid (LK.out.old b1); have W0 := hid (W0.out.old b1); have LW0 := hid (LW0.out.old b1); have X0 := hid (X0.out.old b1); have LX0 := hid (LX0.out.old b1); have G0 := hid (G0.out.old b1); have LG0 := hid (LG0.out.old b1); have T0 := hid (T0.out.old b1); have B := hid (B.out.trans (b1.mono B.out.size)); obtain ⟨q0, q1, q2, q3, q4⟩ := LX0.out.all5; obtain ⟨q5, q6, q7, q8, q9⟩ := LK.out.all5; clear b1))
 clear q0 q1 q2 q3 q4 q5 q6 q7 q8 q9
 obtain ⟨q0, q1, q2, q3, q4⟩ := LX0.out.all5
 go_wp2_with fail
 (with_reducible refine (markRow_k x s (1) (by omega) (by omega) (by omega) (by omega) (by omega) _ X0.out (by omega)).mono ?_)
 clear q0 q1 q2 q3 q4
 rintro e w9 ⟨rfl, o1, b1⟩
 have t9 : w8.heap.size ≤ w9.heap.size := by have := b1.size; omega
 have X0 := hid o1
 have rK := hid (rK.out.onlyG b1 (by omega))
 have LK := hid (LK.out.onlyG b1 (by omega))
 have W0 := hid (W0.out.onlyG b1 (by omega))
 have LW0 := hid (LW0.out.onlyG b1 (by omega))
 have LX0 := hid (LX0.out.onlyG b1 (by omega))
 have G0 := hid (G0.out.onlyG b1 (by omega))
 have LG0 := hid (LG0.out.onlyG b1 (by omega))
 have B := hid (in_onlyR B.out b1 (by omega))
 clear o1 b1
 have hm0 : ¬ 1 + (szT K : Int) + (A.length : Int) + (D.length : Int) < 0 := by omega
 obtain ⟨q0, q1, q2, q3, q4⟩ := LG0.out.all5
 obtain ⟨q5, q6, q7, q8, q9⟩ := LW0.out.all5
 go_wp2_with fail
 (with_reducible refine (eqRow_k rx rs (by omega) (by omega) (by omega) _ G0.out.w W0.out.w).mono ?_)
 clear q0 q1 q2 q3 q4 q5 q6 q7 q8 q9
 rintro e w10 ⟨rfl, b1⟩
 have t10 : w9.heap.size ≤ w10.heap.size := by have := b1.size; omega
 have rK := hid (rK.out.old b1)
 have LK := hid (LK.out.old b1)
 have W0 := hid (W0.out.old b1)
 have LW0 := hid (LW0.out.old b1)
 have X0 := hid (X0.out.old b1)
 have LX0 := hid (LX0.out.old b1)
 have G0 := hid (G0.out.old b1)
 have LG0 := hid (LG0.out.old b1)
 have B := hid (B.out.trans (b1.mono B.out.size))
 clear b1
 obtain ⟨q0, q1, q2, q3, q4⟩ := LG0.out.all5
 go_wp2_with fail
 (with_reducible refine (markRow_k rx rs 1 (by omega) (by omega) (by omega) (by omega) (by omega) _ G0.out (by omega)).mono ?_)
 clear q0 q1 q2 q3 q4
 rintro e w11 ⟨rfl, o1, b1⟩
 have t11 : w10.heap.size ≤ w11.heap.size := by have := b1.size; omega
 have G0 := hid o1
 have rK := hid (rK.out.onlyG b1 (by omega))
 have LK := hid (LK.out.onlyG b1 (by omega))
 have W0 := hid (W0.out.onlyG b1 (by omega))
 have LW0 := hid (LW0.out.onlyG b1 (by omega))
 have LG0 := hid (LG0.out.onlyG b1 (by omega))
 have B := hid (in_onlyR B.out b1 (by omega))
 clear o1 b1
 have hq0 : ¬ 1 + (szT RT : Int) + (R1.length : Int) + (R2.length : Int) < 0 := by omega
 obtain ⟨q0, q1, q2, q3, q4⟩ := LG0.out.all5
 go_wp2_with fail
 (with_reducible refine (heldRow_k rx rs (K := RT) R1.length R2.length 1 (by omega) (by omega) (by omega) (by omega) (by omega) _ G0.out).mono ?_)
 clear q0 q1 q2 q3 q4
 rintro e w12 ⟨rfl, b1⟩
 have t12 : w11.heap.size ≤ w12.heap.size := by have := b1.size; omega
 have rK := hid (rK.out.old b1)
 have LK := hid (LK.out.old b1)
 have W0 := hid (W0.out.old b1)
 have LW0 := hid (LW0.out.old b1)
 have G0 := hid (G0.out.old b1)
 have LG0 := hid (LG0.out.old b1)
 have B := hid (B.out.trans (b1.mono B.out.size))
 clear b1
 obtain ⟨q0, q1, q2, q3, q4⟩ := LK.out.all5
 go_wp2_with fail
 (with_reducible refine (toRow_came _ _ _ x s _ _ _ _ _ _ _ K A D huK haK hdK _ rK.out).mono ?_)
 clear q0 q1 q2 q3 q4
 rintro e w13 ⟨a13, c13, b13, d13, g13, f13, m13, rfl, i1, b1⟩
 have t13 : w12.heap.size ≤ w13.heap.size := by have := b1.size; omega
 have rK := hid (rK.out.old b1)
 have LK := hid (LK.out.old b1)
 have W0 := hid (W0.out.old b1)
 have LW0 := hid (LW0.out.old b1)
 have G0 := hid (G0.out.old b1)
 have LG0 := hid (LG0.out.old b1)
 have B := hid (B.out.trans (b1.mono B.out.size))
 have T0 := hid i1
 clear i1 b1
 go_wp2_with fail
 (with_reducible refine (KI.out _ _ _ _ T0.out.w).mono ?_)
 rintro e w14 ⟨a14, c14, b14, d14, g14, f14, m14, rfl, i1, b1⟩
 have t14 : w13.heap.size ≤ w14.heap.size := by have := b1.size; omega
 have rK := hid (rK.out.old b1)
 have LK := hid (LK.out.old b1)
 have W0 := hid (W0.out.old b1)
 have LW0 := hid (LW0.out.old b1)
 have G0 := hid (G0.out.old b1)
 have LG0 := hid (LG0.out.old b1)
 have T0 := hid (T0.out.old b1)
 have B := hid (B.out.trans (b1.mono B.out.size))
 have H0 := hid i1
 clear i1 b1
 have rK := hid (rK.out.old (below_new' (o := .cells #[.slice a14 RT.length c14, .int .i64 rx, .bool rs, .slice b14 R1.length d14, .slice g14 R2.length f14] 39)))
 have LK := hid (LK.out.old (below_new' (o := .cells #[.slice a14 RT.length c14, .int .i64 rx, .bool rs, .slice b14 R1.length d14, .slice g14 R2.length f14] 39)))
 have W0 := hid (W0.out.old (below_new' (o := .cells #[.slice a14 RT.length c14, .int .i64 rx, .bool rs, .slice b14 R1.length d14, .slice g14 R2.length f14] 39)))
 have LW0 := hid (LW0.out.old (below_new' (o := .cells #[.slice a14 RT.length c14, .int .i64 rx, .bool rs, .slice b14 R1.length d14, .slice g14 R2.length f14] 39)))
 have G0 := hid (G0.out.old (below_new' (o := .cells #[.slice a14 RT.length c14, .int .i64 rx, .bool rs, .slice b14 R1.length d14, .slice g14 R2.length f14] 39)))
 have LG0 := hid (LG0.out.old (below_new' (o := .cells #[.slice a14 RT.length c14, .int .i64 rx, .bool rs, .slice b14 R1.length d14, .slice g14 R2.length f14] 39)))
 have T0 := hid (T0.out.old (below_new' (o := .cells #[.slice a14 RT.length c14, .int .i64 rx, .bool rs, .slice b14 R1.length d14, .slice g14 R2.length f14] 39)))
 have H0 := hid (H0.out.old (below_new' (o := .cells #[.slice a14 RT.length c14, .int .i64 rx, .bool rs, .slice b14 R1.length d14, .slice g14 R2.length f14] 39)))
 have B := hid (B.out.alloc B.out.size (.cells #[.slice a14 RT.length c14, .int .i64 rx, .bool rs, .slice b14 R1.length d14, .slice g14 R2.length f14] 39))
 have LH0 := hid (LocA.new (w := w14) (T := 39) (cs := #[.slice a14 RT.length c14, .int .i64 rx, .bool rs, .slice b14 R1.length d14, .slice g14 R2.length f14]))
 have hs14 : (w14.alloc (.cells #[.slice a14 RT.length c14, .int .i64 rx, .bool rs, .slice b14 R1.length d14, .slice g14 R2.length f14] 39)).heap.size = w14.heap.size + 1 := by simp
 obtain ⟨q0, q1, q2, q3, q4⟩ := LH0.out.all5
 obtain ⟨q5, q6, q7, q8, q9⟩ := LW0.out.all5
 go_wp2_with fail
 (with_reducible refine (eqRow_k rx rs (by omega) (by omega) (by omega) _ H0.out.w W0.out.w).mono ?_)
 clear q0 q1 q2 q3 q4 q5 q6 q7 q8 q9
 rintro e w15 ⟨rfl, b1⟩
 have t15 : w14.heap.size + 1 ≤ w15.heap.size := by have := b1.size; simp at this; omega
 have rK := hid (rK.out.old b1)
 have LK := hid (LK.out.old b1)
 have W0 := hid (W0.out.old b1)
 have LW0 := hid (LW0.out.old b1)
 have G0 := hid (G0.out.old b1)
 have LG0 := hid (LG0.out.old b1)
 have H0 := hid (H0.out.old b1)
 have LH0 := hid (LH0.out.old b1)
 have B := hid (B.out.trans (b1.mono B.out.size))
 clear b1
 obtain ⟨q0, q1, q2, q3, q4⟩ := LG0.out.all5
 go_wp2_with fail
 (with_reducible refine (heldRow_k rx rs (K := RT) R1.length R2.length 1 (by omega) (by omega) (by omega) (by omega) (by omega) _ G0.out).mono ?_)
 clear q0 q1 q2 q3 q4
 rintro e w16 ⟨rfl, b1⟩
 have t16 : w15.heap.size ≤ w16.heap.size := by have := b1.size; omega
 have rK := hid (rK.out.old b1)
 have LK := hid (LK.out.old b1)
 have W0 := hid (W0.out.old b1)
 have LW0 := hid (LW0.out.old b1)
 have G0 := hid (G0.out.old b1)
 have LG0 := hid (LG0.out.old b1)
 have H0 := hid (H0.out.old b1)
 have LH0 := hid (LH0.out.old b1)
 have B := hid (B.out.trans (b1.mono B.out.size))
 clear b1
 go_wp2
 go_ret
 exact ⟨rfl, B.out⟩
end Go.Proofs.YthkehmnodcmlcaaGreat
