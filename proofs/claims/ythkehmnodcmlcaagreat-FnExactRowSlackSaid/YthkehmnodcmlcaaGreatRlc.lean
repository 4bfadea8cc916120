/- The law RowSlack. -/
import Derived.Test.YthkehmnodcmlcaaGreatRwg
import Derived.Test.YthkehmnodcmlcaaGreatRlz
import Derived.Deep.RegionHeld3
import Derived.Deep.DeepCutAuto
namespace Go.Proofs.YthkehmnodcmlcaaGreat
open Go.RowKit
open Go.Lib (hid)
set_option linter.unusedVariables false

set_option maxRecDepth 100000 in
set_option maxHeartbeats 25600000 in
theorem law_RowSlack (a : Option Addr) (n c : Nat) (K : List Tq) (x : Int) (s : Bool) (b : Option Addr) (m d : Nat) (A : List Int) (e : Option Addr) (k f : Nat) (D : List Int) (hnK : n ≤ maxLen) (hmK : ∀ f ∈ K, f.A.length ≤ maxLen ∧ f.D.length ≤ maxLen) (hAK : m ≤ maxLen) (hDK : k ≤ maxLen) (a' : Option Addr) (n' c' : Nat) (L : List Fq) (hnL : n' ≤ maxLen) (hmL : ∀ f ∈ L, f.A.length ≤ maxLen ∧ f.D.length ≤ maxLen) (w : World) (rK : WCame w w.heap.size a n K b m A e k D) (rL : VCame w w.heap.size a' n' L) :
    Calls Tryz.prog 4 #[.agg #[.slice a n c, .int .i64 x, .bool s, .slice b m d, .slice e k f], .slice a' n' c'] w (RetB (.bool true) w) := by
  obtain rfl := rK.r.x.1
  obtain rfl := rK.r.y.1
  have BW := below_new' (w := w) (o := .cells #[.slice a n c, .int .i64 x, .bool s, .slice b A.length d, .slice e D.length f] 29)
  have B := hid BW
  have rK := hid (rK.old BW)
  have rL := hid (rL.old BW)
  have LK := hid (LocA.new (w := w) (T := 29) (cs := #[.slice a n c, .int .i64 x, .bool s, .slice b A.length d, .slice e D.length f]))
  have hs0 : (w.alloc (.cells #[.slice a n c, .int .i64 x, .bool s, .slice b A.length d, .slice e D.length f] 29)).heap.size = w.heap.size + 1 := by simp
  clear BW
  generalize hW : w.alloc (.cells #[.slice a n c, .int .i64 x, .bool s, .slice b A.length d, .slice e D.length f] 29) = w0 at B rK rL LK hs0
  have HW := hid hW
  clear hW
  by_cases hsK : (szU K : Int) + (A.length : Int) + (D.length : Int) ≤ 1048576
  case neg =>
    go_enter Tryz.func4, Tryz.ntmps4
    have q0 := LK.out.c 0 (v := .slice a n c) rfl
    have q1 := LK.out.c 1 (v := .int .i64 x) rfl
    have q2 := LK.out.c 2 (v := .bool s) rfl
    have q3 := LK.out.c 3 (v := .slice b A.length d) rfl
    have q4 := LK.out.c 4 (v := .slice e D.length f) rfl
    go_wp2_with fail
    rw [HW.out]
    (with_reducible refine (szRow_no _ _ _ x s _ _ _ _ _ _ _ K (1048576) hnK hmK hAK hDK (by omega) (by omega) (by omega) _ rK.out.t).mono ?_)
    clear q0 q1 q2 q3 q4
    rintro e w1 ⟨rfl, b1⟩
    have t1 : w0.heap.size ≤ w1.heap.size := by have := b1.size; omega
    have rK := hid (rK.out.old b1)
    have rL := hid (rL.out.old b1)
    have LK := hid (LK.out.old b1)
    have B := hid (B.out.trans (b1.mono B.out.size))
    clear b1
    go_wp2
    go_ret
    exact ⟨rfl, B.out⟩
  by_cases hsL : (szK L : Int) ≤ 1048576 - (szU K : Int) - (A.length : Int) - (D.length : Int)
  case neg =>
    go_enter Tryz.func4, Tryz.ntmps4
    have q0 := LK.out.c 0 (v := .slice a n c) rfl
    have q1 := LK.out.c 1 (v := .int .i64 x) rfl
    have q2 := LK.out.c 2 (v := .bool s) rfl
    have q3 := LK.out.c 3 (v := .slice b A.length d) rfl
    have q4 := LK.out.c 4 (v := .slice e D.length f) rfl
    go_wp2_with fail
    rw [HW.out]
    (with_reducible refine (szRow_yes _ _ _ x s _ _ _ _ _ _ _ K (1048576) (by omega) (by omega) _ rK.out.t).mono ?_)
    clear q0 q1 q2 q3 q4
    rintro e w1 ⟨rfl, b1⟩
    have t1 : w0.heap.size ≤ w1.heap.size := by have := b1.size; omega
    have rK := hid (rK.out.old b1)
    have rL := hid (rL.out.old b1)
    have LK := hid (LK.out.old b1)
    have B := hid (B.out.trans (b1.mono B.out.size))
    clear b1
    go_wp2_with fail
    (with_reducible refine (szRatS_no _ _ _ _ L (1048576 - (szU K : Int) - (A.length : Int) - (D.length : Int)) hnL hmL (by omega) (by omega) (by omega) _ rL.out).mono ?_)
    rintro e w2 ⟨rfl, b1⟩
    have t2 : w1.heap.size ≤ w2.heap.size := by have := b1.size; omega
    have rK := hid (rK.out.old b1)
    have rL := hid (rL.out.old b1)
    have LK := hid (LK.out.old b1)
    have B := hid (B.out.trans (b1.mono B.out.size))
    clear b1
    go_wp2
    go_ret
    exact ⟨rfl, B.out⟩
  have hztK := szT_szU K
  have hSK : SmT K := SmT.of (by omega)
  have huK : szU K ≤ 1048576 := by omega
  have htK : szT K ≤ 2097152 := by omega
  have haK : A.length ≤ 1048576 := by omega
  have hdK : D.length ≤ 1048576 := by omega
  have hSL : Sm L := Sm.of (by omega)
  have huL : szK L ≤ 1048576 := by omega
  have hy0 : ¬ 1048576 - (szU K : Int) - (A.length : Int) - (D.length : Int) < 0 := by omega
  have hy1 : ¬ 1048576 - (szU K : Int) - (A.length : Int) - (D.length : Int) - (szK L : Int) < 0 := by omega
  obtain ⟨rs, R1, R2, l1, l2, KS0, KI0⟩ : ∃ rs R1 R2, R1.length ≤ 24 ∧ R2.length ≤ 24 ∧ (∀ (W : World) (t0 v0 u0 : Value) (g0 : RwW W t0 v0 u0 K A D) (a1 : Option Addr) (n1 c1 l1 h1 : Nat) (g1 : VK true W (.slice a1 n1 c1) L l1 h1), Calls Tryz.prog 21 #[.agg #[t0, .int .i64 x, .bool s, v0, u0], .slice a1 n1 c1] W (OwnRS rs R1 R2 W)) ∧ (∀ (W : World) (t0 v0 u0 : Value) (g0 : RwW W t0 v0 u0 K A D) (a1 : Option Addr) (n1 c1 l1 h1 : Nat) (g1 : VK true W (.slice a1 n1 c1) L l1 h1), Calls Tryz.prog 22 #[.agg #[t0, .int .i64 x, .bool s, v0, u0], .slice a1 n1 c1] W (OwnRR rs R1 R2 W)) := ⟨_, _, _, (rval_parts (o := slackO K x s A D L) (slackO_fit _ _ _ _ _ _)).2.2.1, (rval_parts (o := slackO K x s A D L) (slackO_fit _ _ _ _ _ _)).2.2.2, fun W t0 v0 u0 g0 a1 n1 c1 l1 h1 g1 => (spec_RowSlack x s hSK hSL haK hdK W g0 g1).mono fun e w' hh => OwnRS_of hh.ownS, fun W t0 v0 u0 g0 a1 n1 c1 l1 h1 g1 => (impl_RowSlack x s hSK hSL haK hdK W g0 g1).mono fun e w' hh => OwnRR_of hh.own⟩
  have KS := hid KS0
  have KI := hid KI0
  clear KS0 KI0
  go_enter Tryz.func4, Tryz.ntmps4
  have q0 := LK.out.c 0 (v := .slice a n c) rfl
  have q1 := LK.out.c 1 (v := .int .i64 x) rfl
  have q2 := LK.out.c 2 (v := .bool s) rfl
  have q3 := LK.out.c 3 (v := .slice b A.length d) rfl
  have q4 := LK.out.c 4 (v := .slice e D.length f) rfl
  go_wp2_with fail
  rw [HW.out]
  (with_reducible refine (szRow_yes _ _ _ x s _ _ _ _ _ _ _ K (1048576) (by omega) (by omega) _ rK.out.t).mono ?_)
  clear q0 q1 q2 q3 q4
  rintro e w1 ⟨rfl, b1⟩
  have t1 : w0.heap.size ≤ w1.heap.size := by have := b1.size; omega
  have rK := hid (rK.out.old b1)
  have rL := hid (rL.out.old b1)
  have LK := hid (LK.out.old b1)
  have B := hid (B.out.trans (b1.mono B.out.size))
  clear b1
  go_wp2_with fail
  (with_reducible refine (szRatS_yes _ _ _ _ L (1048576 - (szU K : Int) - (A.length : Int) - (D.length : Int)) (by omega) (by omega) _ rL.out).mono ?_)
  rintro e w2 ⟨rfl, b1⟩
  have t2 : w1.heap.size ≤ w2.heap.size := by have := b1.size; omega
  have rK := hid (rK.out.old b1)
  have rL := hid (rL.out.old b1)
  have LK := hid (LK.out.old b1)
  have B := hid (B.out.trans (b1.mono B.out.size))
  clear b1
  have q0 := LK.out.c 0 (v := .slice a n c) rfl
  have q1 := LK.out.c 1 (v := .int .i64 x) rfl
  have q2 := LK.out.c 2 (v := .bool s) rfl
  have q3 := LK.out.c 3 (v := .slice b A.length d) rfl
  have q4 := LK.out.c 4 (v := .slice e D.length f) rfl
  go_wp2_with fail
  (with_reducible refine (toRow_came _ _ _ x s _ _ _ _ _ _ _ K A D huK haK hdK _ rK.out).mono ?_)
  clear q0 q1 q2 q3 q4
  rintro e w3 ⟨a3, c3, b3, d3, g3, f3, m3, rfl, i1, b1⟩
  have t3 : w2.heap.size ≤ w3.heap.size := by have := b1.size; omega
  have rK := hid (rK.out.old b1)
  have rL := hid (rL.out.old b1)
  have LK := hid (LK.out.old b1)
  have B := hid (B.out.trans (b1.mono B.out.size))
  have T0 := hid i1
  clear i1 b1
  go_wp2_with fail
  (with_reducible refine (toRatS_came _ _ _ _ L (by omega) _ rL.out).mono ?_)
  rintro e w4 ⟨a4, n4, c4, rfl, i1, b1⟩
  have t4 : w3.heap.size ≤ w4.heap.size := by have := b1.size; omega
  have rK := hid (rK.out.old b1)
  have rL := hid (rL.out.old b1)
  have LK := hid (LK.out.old b1)
  have T0 := hid (T0.out.old b1)
  have B := hid (B.out.trans (b1.mono B.out.size))
  have T1 := hid i1
  clear i1 b1
  go_wp2_with fail
  (with_reducible refine (KS.out _ _ _ _ T0.out.w _ _ _ _ _ T1.out).mono ?_)
  rintro e w5 ⟨v5, u5, rfl, i1, b1⟩
  have t5 : w4.heap.size ≤ w5.heap.size := by have := b1.size; omega
  have rK := hid (rK.out.old b1)
  have rL := hid (rL.out.old b1)
  have LK := hid (LK.out.old b1)
  have T0 := hid (T0.out.old b1)
  have T1 := hid (T1.out.old b1)
  have B := hid (B.out.trans (b1.mono B.out.size))
  have W0 := hid i1
  obtain ⟨x5, y5, z5, p5, rfl, rfl⟩ := i1.form
  clear i1 b1
  have rK := hid (rK.out.old (below_new' (o := .cells #[.bool rs, .slice x5 R1.length y5, .slice z5 R2.length p5] 37)))
  have rL := hid (rL.out.old (below_new' (o := .cells #[.bool rs, .slice x5 R1.length y5, .slice z5 R2.length p5] 37)))
  have LK := hid (LK.out.old (below_new' (o := .cells #[.bool rs, .slice x5 R1.length y5, .slice z5 R2.length p5] 37)))
  have T0 := hid (T0.out.old (below_new' (o := .cells #[.bool rs, .slice x5 R1.length y5, .slice z5 R2.length p5] 37)))
  have T1 := hid (T1.out.old (below_new' (o := .cells #[.bool rs, .slice x5 R1.length y5, .slice z5 R2.length p5] 37)))
  have W0 := hid (W0.out.old (below_new' (o := .cells #[.bool rs, .slice x5 R1.length y5, .slice z5 R2.length p5] 37)))
  have B := hid (B.out.alloc B.out.size (.cells #[.bool rs, .slice x5 R1.length y5, .slice z5 R2.length p5] 37))
  have LW0 := hid (LocA.new (w := w5) (T := 37) (cs := #[.bool rs, .slice x5 R1.length y5, .slice z5 R2.length p5]))
  have hs5 : (w5.alloc (.cells #[.bool rs, .slice x5 R1.length y5, .slice z5 R2.length p5] 37)).heap.size = w5.heap.size + 1 := by simp
  have q0 := LK.out.c 0 (v := .slice a n c) rfl
  have q1 := LK.out.c 1 (v := .int .i64 x) rfl
  have q2 := LK.out.c 2 (v := .bool s) rfl
  have q3 := LK.out.c 3 (v := .slice b A.length d) rfl
  have q4 := LK.out.c 4 (v := .slice e D.length f) rfl
  go_wp2_with fail
  (with_reducible refine (toRow_came _ _ _ x s _ _ _ _ _ _ _ K A D huK haK hdK _ rK.out).mono ?_)
  clear q0 q1 q2 q3 q4
  rintro e w6 ⟨a6, c6, b6, d6, g6, f6, m6, rfl, i1, b1⟩
  have t6 : w5.heap.size + 1 ≤ w6.heap.size := by have := b1.size; simp at this; omega
  have rK := hid (rK.out.old b1)
  have rL := hid (rL.out.old b1)
  have LK := hid (LK.out.old b1)
  have W0 := hid (W0.out.old b1)
  have LW0 := hid (LW0.out.old b1)
  have B := hid (B.out.trans (b1.mono B.out.size))
  have X0 := hid i1
  clear i1 b1
  have rK := hid (rK.out.old (below_new' (o := .cells #[.slice a6 K.length c6, .int .i64 x, .bool s, .slice b6 A.length d6, .slice g6 D.length f6] 39)))
  have rL := hid (rL.out.old (below_new' (o := .cells #[.slice a6 K.length c6, .int .i64 x, .bool s, .slice b6 A.length d6, .slice g6 D.length f6] 39)))
  have LK := hid (LK.out.old (below_new' (o := .cells #[.slice a6 K.length c6, .int .i64 x, .bool s, .slice b6 A.length d6, .slice g6 D.length f6] 39)))
  have W0 := hid (W0.out.old (below_new' (o := .cells #[.slice a6 K.length c6, .int .i64 x, .bool s, .slice b6 A.length d6, .slice g6 D.length f6] 39)))
  have LW0 := hid (LW0.out.old (below_new' (o := .cells #[.slice a6 K.length c6, .int .i64 x, .bool s, .slice b6 A.length d6, .slice g6 D.length f6] 39)))
  have X0 := hid (X0.out.old (below_new' (o := .cells #[.slice a6 K.length c6, .int .i64 x, .bool s, .slice b6 A.length d6, .slice g6 D.length f6] 39)))
  have B := hid (B.out.alloc B.out.size (.cells #[.slice a6 K.length c6, .int .i64 x, .bool s, .slice b6 A.length d6, .slice g6 D.length f6] 39))
  have LX0 := hid (LocA.new (w := w6) (T := 39) (cs := #[.slice a6 K.length c6, .int .i64 x, .bool s, .slice b6 A.length d6, .slice g6 D.length f6]))
  have hs6 : (w6.alloc (.cells #[.slice a6 K.length c6, .int .i64 x, .bool s, .slice b6 A.length d6, .slice g6 D.length f6] 39)).heap.size = w6.heap.size + 1 := by simp
  go_wp2_with fail
  (with_reducible refine (toRatS_came _ _ _ _ L (by omega) _ rL.out).mono ?_)
  rintro e w7 ⟨a7, n7, c7, rfl, i1, b1⟩
  have t7 : w6.heap.size + 1 ≤ w7.heap.size := by have := b1.size; simp at this; omega
  have rK := hid (rK.out.old b1)
  have rL := hid (rL.out.old b1)
  have LK := hid (LK.out.old b1)
  have W0 := hid (W0.out.old b1)
  have LW0 := hid (LW0.out.old b1)
  have X0 := hid (X0.out.old b1)
  have LX0 := hid (LX0.out.old b1)
  have B := hid (B.out.trans (b1.mono B.out.size))
  have X1 := hid i1
  clear i1 b1
  have q0 := LX0.out.c 0 (v := .slice a6 K.length c6) rfl
  have q1 := LX0.out.c 1 (v := .int .i64 x) rfl
  have q2 := LX0.out.c 2 (v := .bool s) rfl
  have q3 := LX0.out.c 3 (v := .slice b6 A.length d6) rfl
  have q4 := LX0.out.c 4 (v := .slice g6 D.length f6) rfl
  go_wp2_with fail
  (with_reducible refine (KI.out _ _ _ _ X0.out.w _ _ _ _ _ X1.out).mono ?_)
  clear q0 q1 q2 q3 q4
  rintro e w8 ⟨v8, u8, rfl, i1, b1⟩
  have t8 : w7.heap.size ≤ w8.heap.size := by have := b1.size; omega
  have rK := hid (rK.out.old b1)
  have rL := hid (rL.out.old b1)
  have LK := hid (LK.out.old b1)
  have W0 := hid (W0.out.old b1)
  have LW0 := hid (LW0.out.old b1)
  have X0 := hid (X0.out.old b1)
  have LX0 := hid (LX0.out.old b1)
  have X1 := hid (X1.out.old b1)
  have B := hid (B.out.trans (b1.mono B.out.size))
  have G0 := hid i1
  obtain ⟨x8, y8, z8, p8, rfl, rfl⟩ := i1.form
  clear i1 b1
  have rK := hid (rK.out.old (below_new' (o := .cells #[.bool rs, .slice x8 R1.length y8, .slice z8 R2.length p8] 37)))
  have rL := hid (rL.out.old (below_new' (o := .cells #[.bool rs, .slice x8 R1.length y8, .slice z8 R2.length p8] 37)))
  have LK := hid (LK.out.old (below_new' (o := .cells #[.bool rs, .slice x8 R1.length y8, .slice z8 R2.length p8] 37)))
  have W0 := hid (W0.out.old (below_new' (o := .cells #[.bool rs, .slice x8 R1.length y8, .slice z8 R2.length p8] 37)))
  have LW0 := hid (LW0.out.old (below_new' (o := .cells #[.bool rs, .slice x8 R1.length y8, .slice z8 R2.length p8] 37)))
  have X0 := hid (X0.out.old (below_new' (o := .cells #[.bool rs, .slice x8 R1.length y8, .slice z8 R2.length p8] 37)))
  have LX0 := hid (LX0.out.old (below_new' (o := .cells #[.bool rs, .slice x8 R1.length y8, .slice z8 R2.length p8] 37)))
  have X1 := hid (X1.out.old (below_new' (o := .cells #[.bool rs, .slice x8 R1.length y8, .slice z8 R2.length p8] 37)))
  have G0 := hid (G0.out.old (below_new' (o := .cells #[.bool rs, .slice x8 R1.length y8, .slice z8 R2.length p8] 37)))
  have B := hid (B.out.alloc B.out.size (.cells #[.bool rs, .slice x8 R1.length y8, .slice z8 R2.length p8] 37))
  have LG0 := hid (LocA.new (w := w8) (T := 37) (cs := #[.bool rs, .slice x8 R1.length y8, .slice z8 R2.length p8]))
  have hs8 : (w8.alloc (.cells #[.bool rs, .slice x8 R1.length y8, .slice z8 R2.length p8] 37)).heap.size = w8.heap.size + 1 := by simp
  have q0 := LG0.out.c 0 (v := .bool rs) rfl
  have q1 := LG0.out.c 1 (v := .slice x8 R1.length y8) rfl
  have q2 := LG0.out.c 2 (v := .slice z8 R2.length p8) rfl
  have q3 := LW0.out.c 0 (v := .bool rs) rfl
  have q4 := LW0.out.c 1 (v := .slice x5 R1.length y5) rfl
  have q5 := LW0.out.c 2 (v := .slice z5 R2.length p5) rfl
  go_wp2_with fail
  (with_reducible refine (eqRat_w rs _ _ _ _ R1 R2 _ _ _ _ (by omega) (by omega) _ G0.out.w W0.out.w).mono ?_)
  clear q0 q1 q2 q3 q4 q5
  rintro e w9 ⟨rfl, b1⟩
  have t9 : w8.heap.size + 1 ≤ w9.heap.size := by have := b1.size; simp at this; omega
  have rK := hid (rK.out.old b1)
  have rL := hid (rL.out.old b1)
  have LK := hid (LK.out.old b1)
  have W0 := hid (W0.out.old b1)
  have LW0 := hid (LW0.out.old b1)
  have X0 := hid (X0.out.old b1)
  have LX0 := hid (LX0.out.old b1)
  have X1 := hid (X1.out.old b1)
  have G0 := hid (G0.out.old b1)
  have LG0 := hid (LG0.out.old b1)
  have B := hid (B.out.trans (b1.mono B.out.size))
  clear b1
  have rK := hid (rK.out.old (Below_drew1 (Below.refl _ _)))
  have rL := hid (rL.out.old (Below_drew1 (Below.refl _ _)))
  have LK := hid (LK.out.old (Below_drew1 (Below.refl _ _)))
  have W0 := hid (W0.out.old (Below_drew1 (Below.refl _ _)))
  have LW0 := hid (LW0.out.old (Below_drew1 (Below.refl _ _)))
  have X0 := hid (X0.out.old (Below_drew1 (Below.refl _ _)))
  have LX0 := hid (LX0.out.old (Below_drew1 (Below.refl _ _)))
  have X1 := hid (X1.out.old (Below_drew1 (Below.refl _ _)))
  have G0 := hid (G0.out.old (Below_drew1 (Below.refl _ _)))
  have LG0 := hid (LG0.out.old (Below_drew1 (Below.refl _ _)))
  have B := hid (Below_drew1 B.out)
  have q0 := LX0.out.c 0 (v := .slice a6 K.length c6) rfl
  have q1 := LX0.out.c 1 (v := .int .i64 x) rfl
  have q2 := LX0.out.c 2 (v := .bool s) rfl
  have q3 := LX0.out.c 3 (v := .slice b6 A.length d6) rfl
  have q4 := LX0.out.c 4 (v := .slice g6 D.length f6) rfl
  have q5 := LK.out.c 0 (v := .slice a n c) rfl
  have q6 := LK.out.c 1 (v := .int .i64 x) rfl
  have q7 := LK.out.c 2 (v := .bool s) rfl
  have q8 := LK.out.c 3 (v := .slice b A.length d) rfl
  have q9 := LK.out.c 4 (v := .slice e D.length f) rfl
  go_wp2_with fail
  go_region_held3 (fun w' => w'.cell? ⟨w6.heap.size, 0, none⟩ = some (.slice a6 K.length c6) ∧ w'.cell? ⟨w6.heap.size, 1, none⟩ = some (.int .i64 x) ∧ w'.cell? ⟨w6.heap.size, 2, none⟩ = some (.bool s) ∧ w'.cell? ⟨w6.heap.size, 3, none⟩ = some (.slice b6 A.length d6) ∧ w'.cell? ⟨w6.heap.size, 4, none⟩ = some (.slice g6 D.length f6) ∧ w'.cell? ⟨w.heap.size, 0, none⟩ = some (.slice a n c) ∧ w'.cell? ⟨w.heap.size, 1, none⟩ = some (.int .i64 x) ∧ w'.cell? ⟨w.heap.size, 2, none⟩ = some (.bool s) ∧ w'.cell? ⟨w.heap.size, 3, none⟩ = some (.slice b A.length d) ∧ w'.cell? ⟨w.heap.size, 4, none⟩ = some (.slice e D.length f)) (first | exact ⟨q0, q1, q2, q3, q4, q5, q6, q7, q8, q9⟩) (first | (go_at_call 16; (with_reducible refine (toRow_came _ _ _ x s _ _ _ _ _ _ _ K A D huK haK hdK _ rK.out).mono ?_); rintro e w10 ⟨a10, c10, b10, d10, g10, f10, m10, rfl, i1, b1⟩; have t10 : w9.heap.size ≤ w10.heap.size := (by have := b1.size; first | exact this | omega | (simp at this; omega)); have rK := hid (rK.out.old b1); have rL := hid (rL.out.old b1); have LK := hid (LK.out.old b1); have W0 := hid (W0.out.old b1); have LW0 := hid (LW0.out.old b1); have X0 := hid (X0.out.old b1); have LX0 := hid (LX0.out.old b1); have X1 := hid (X1.out.old b1); have G0 := hid (G0.out.old b1); have LG0 := hid (LG0.out.old b1); have B := hid (B.out.trans (b1.mono B.out.size)); have q0 := LX0.out.c 0 (v := .slice a6 K.length c6) rfl; have q1 := LX0.out.c 1 (v := .int .i64 x) rfl; have q2 := LX0.out.c 2 (v := .bool s) rfl; have q3 := LX0.out.c 3 (v := .slice b6 A.length d6) rfl; have q4 := LX0.out.c 4 (v := .slice g6 D.length f6) rfl; have q5 := LK.out.c 0 (v := .slice a n c) rfl; have q6 := LK.out.c 1 (v := .int .i64 x) rfl; have q7 := LK.out.c 2 (v := .bool s) rfl; have q8 := LK.out.c 3 (v := .slice b A.length d) rfl; have q9 := LK.out.c 4 (v := .slice e D.length f) rfl; have T0 := hid i1; clear i1 b1) | (go_at_call 19; (with_reducible refine (eqRow_k x s (by omega) (by omega) (by omega) _ X0.out.w T0.out.w).mono ?_); rintro e w11 ⟨rfl, b1⟩; have t11 : w10.heap.size ≤ w11.heap.size := (by have := b1.size; first | exact this | omega | (simp at this; omega)); have rK := hid (rK.out.old b1); have rL := hid (rL.out.old b1); have LK := hid (LK.out.old b1); have W0 := hid (W0.out.old b1); have LW0 := hid (LW0.out.old b1); have X0 := hid (X0.out.old b1); have LX0 := hid (LX0.out.old b1); have X1 := hid (X1.out.old b1); have G0 := hid (G0.out.old b1); have LG0 := hid (LG0.out.old b1); have T0 := hid (T0.out.old b1); have B := hid (B.out.trans (b1.mono B.out.size)); have q0 := LX0.out.c 0 (v := .slice a6 K.length c6) rfl; have q1 := LX0.out.c 1 (v := .int .i64 x) rfl; have q2 := LX0.out.c 2 (v := .bool s) rfl; have q3 := LX0.out.c 3 (v := .slice b6 A.length d6) rfl; have q4 := LX0.out.c 4 (v := .slice g6 D.length f6) rfl; have q5 := LK.out.c 0 (v := .slice a n c) rfl; have q6 := LK.out.c 1 (v := .int .i64 x) rfl; have q7 := LK.out.c 2 (v := .bool s) rfl; have q8 := LK.out.c 3 (v := .slice b A.length d) rfl; have q9 := LK.out.c 4 (v := .slice e D.length f) rfl; clear b1))
  clear q0 q1 q2 q3 q4 q5 q6 q7 q8 q9
  go_wp2_with fail
  (with_reducible refine (toRatS_came _ _ _ _ L (by omega) _ rL.out).mono ?_)
  rintro e w12 ⟨a12, n12, c12, rfl, i1, b1⟩
  have t12 : w11.heap.size ≤ w12.heap.size := by have := b1.size; omega
  have rK := hid (rK.out.old b1)
  have rL := hid (rL.out.old b1)
  have LK := hid (LK.out.old b1)
  have W0 := hid (W0.out.old b1)
  have LW0 := hid (LW0.out.old b1)
  have X0 := hid (X0.out.old b1)
  have LX0 := hid (LX0.out.old b1)
  have X1 := hid (X1.out.old b1)
  have G0 := hid (G0.out.old b1)
  have LG0 := hid (LG0.out.old b1)
  have B := hid (B.out.trans (b1.mono B.out.size))
  have T1 := hid i1
  clear i1 b1
  go_wp2_with fail
  (with_reducible refine (eqRatS_k (by omega) _ X1.out T1.out).mono ?_)
  rintro e w13 ⟨rfl, b1⟩
  have t13 : w12.heap.size ≤ w13.heap.size := by have := b1.size; omega
  have rK := hid (rK.out.old b1)
  have rL := hid (rL.out.old b1)
  have LK := hid (LK.out.old b1)
  have W0 := hid (W0.out.old b1)
  have LW0 := hid (LW0.out.old b1)
  have X0 := hid (X0.out.old b1)
  have LX0 := hid (LX0.out.old b1)
  have X1 := hid (X1.out.old b1)
  have G0 := hid (G0.out.old b1)
  have LG0 := hid (LG0.out.old b1)
  have T1 := hid (T1.out.old b1)
  have B := hid (B.out.trans (b1.mono B.out.size))
  clear b1
  have q0 := LX0.out.c 0 (v := .slice a6 K.length c6) rfl
  have q1 := LX0.out.c 1 (v := .int .i64 x) rfl
  have q2 := LX0.out.c 2 (v := .bool s) rfl
  have q3 := LX0.out.c 3 (v := .slice b6 A.length d6) rfl
  have q4 := LX0.out.c 4 (v := .slice g6 D.length f6) rfl
  go_wp2_with fail
  (with_reducible refine (markRow_k x s (1) (by omega) (by omega) (by omega) (by omega) (by omega) _ X0.out (by omega)).mono ?_)
  clear q0 q1 q2 q3 q4
  rintro e w14 ⟨rfl, o1, b1⟩
  have t14 : w13.heap.size ≤ w14.heap.size := by have := b1.size; omega
  have X0 := hid o1
  have rK := hid (rK.out.onlyG b1 (by omega))
  have rL := hid (rL.out.onlyG b1 (by omega))
  have LK := hid (LK.out.onlyG b1 (by omega))
  have W0 := hid (W0.out.onlyG b1 (by omega))
  have LW0 := hid (LW0.out.onlyG b1 (by omega))
  have LX0 := hid (LX0.out.onlyG b1 (by omega))
  have X1 := hid (X1.out.onlyG b1 (by omega))
  have G0 := hid (G0.out.onlyG b1 (by omega))
  have LG0 := hid (LG0.out.onlyG b1 (by omega))
  have B := hid (in_onlyR B.out b1 (by omega))
  clear o1 b1
  go_wp2_with fail
  (with_reducible refine (markRatS_k (m := 1 + (szT K : Int) + (A.length : Int) + (D.length : Int)) (by omega) (by omega) (by omega) _ X1.out).mono ?_)
  rintro e w15 ⟨rfl, o1, b1⟩
  have t15 : w14.heap.size ≤ w15.heap.size := by have := b1.size; omega
  have X1 := hid o1
  have rK := hid (rK.out.onlyG b1 (by omega))
  have rL := hid (rL.out.onlyG b1 (by omega))
  have LK := hid (LK.out.onlyG b1 (by omega))
  have W0 := hid (W0.out.onlyG b1 (by omega))
  have LW0 := hid (LW0.out.onlyG b1 (by omega))
  have X0 := hid (X0.out.onlyG b1 (by omega))
  have LX0 := hid (LX0.out.onlyG b1 (by omega))
  have G0 := hid (G0.out.onlyG b1 (by omega))
  have LG0 := hid (LG0.out.onlyG b1 (by omega))
  have B := hid (in_onlyR B.out b1 (by omega))
  clear o1 b1
  have hm0 : ¬ 1 + (szT K : Int) + (A.length : Int) + (D.length : Int) + (szK L : Int) < 0 := by omega
  have q0 := LG0.out.c 0 (v := .bool rs) rfl
  have q1 := LG0.out.c 1 (v := .slice x8 R1.length y8) rfl
  have q2 := LG0.out.c 2 (v := .slice z8 R2.length p8) rfl
  have q3 := LW0.out.c 0 (v := .bool rs) rfl
  have q4 := LW0.out.c 1 (v := .slice x5 R1.length y5) rfl
  have q5 := LW0.out.c 2 (v := .slice z5 R2.length p5) rfl
  go_wp2_with fail
  (with_reducible refine (eqRat_w rs _ _ _ _ R1 R2 _ _ _ _ (by omega) (by omega) _ G0.out.w W0.out.w).mono ?_)
  clear q0 q1 q2 q3 q4 q5
  rintro e w16 ⟨rfl, b1⟩
  have t16 : w15.heap.size ≤ w16.heap.size := by have := b1.size; omega
  have rK := hid (rK.out.old b1)
  have rL := hid (rL.out.old b1)
  have LK := hid (LK.out.old b1)
  have W0 := hid (W0.out.old b1)
  have LW0 := hid (LW0.out.old b1)
  have X0 := hid (X0.out.old b1)
  have LX0 := hid (LX0.out.old b1)
  have X1 := hid (X1.out.old b1)
  have G0 := hid (G0.out.old b1)
  have LG0 := hid (LG0.out.old b1)
  have B := hid (B.out.trans (b1.mono B.out.size))
  clear b1
  have q0 := LG0.out.c 0 (v := .bool rs) rfl
  have q1 := LG0.out.c 1 (v := .slice x8 R1.length y8) rfl
  have q2 := LG0.out.c 2 (v := .slice z8 R2.length p8) rfl
  go_wp2_with fail
  (with_reducible refine (markRat_obj rs _ _ R1 R2 1 _ _ (by omega) (by omega) (by omega) (by omega) _ G0.out).mono ?_)
  clear q0 q1 q2
  rintro e w17 ⟨rfl, o1, b1⟩
  have t17 : w16.heap.size ≤ w17.heap.size := by have := b1.size; omega
  have G0 := hid o1
  have rK := hid (rK.out.onlyG b1 (by omega))
  have rL := hid (rL.out.onlyG b1 (by omega))
  have LK := hid (LK.out.onlyG b1 (by omega))
  have W0 := hid (W0.out.onlyG b1 (by omega))
  have LW0 := hid (LW0.out.onlyG b1 (by omega))
  have LG0 := hid (LG0.out.onlyG b1 (by omega))
  have B := hid (in_onlyR B.out b1 (by omega))
  clear o1 b1
  have hq0 : ¬ 1 + (R1.length : Int) + (R2.length : Int) < 0 := by omega
  have q0 := LG0.out.c 0 (v := .bool rs) rfl
  have q1 := LG0.out.c 1 (v := .slice x8 R1.length y8) rfl
  have q2 := LG0.out.c 2 (v := .slice z8 R2.length p8) rfl
  go_wp2_with fail
  (with_reducible refine (heldRat_obj rs _ _ R1.length R2.length 1 _ _ (by omega) (by omega) (by omega) (by omega) _ G0.out).mono ?_)
  clear q0 q1 q2
  rintro e w18 ⟨rfl, b1⟩
  have t18 : w17.heap.size ≤ w18.heap.size := by have := b1.size; omega
  have rK := hid (rK.out.old b1)
  have rL := hid (rL.out.old b1)
  have LK := hid (LK.out.old b1)
  have W0 := hid (W0.out.old b1)
  have LW0 := hid (LW0.out.old b1)
  have G0 := hid (G0.out.old b1)
  have LG0 := hid (LG0.out.old b1)
  have B := hid (B.out.trans (b1.mono B.out.size))
  clear b1
  have q0 := LK.out.c 0 (v := .slice a n c) rfl
  have q1 := LK.out.c 1 (v := .int .i64 x) rfl
  have q2 := LK.out.c 2 (v := .bool s) rfl
  have q3 := LK.out.c 3 (v := .slice b A.length d) rfl
  have q4 := LK.out.c 4 (v := .slice e D.length f) rfl
  go_wp2_with fail
  (with_reducible refine (toRow_came _ _ _ x s _ _ _ _ _ _ _ K A D huK haK hdK _ rK.out).mono ?_)
  clear q0 q1 q2 q3 q4
  rintro e w19 ⟨a19, c19, b19, d19, g19, f19, m19, rfl, i1, b1⟩
  have t19 : w18.heap.size ≤ w19.heap.size := by have := b1.size; omega
  have rK := hid (rK.out.old b1)
  have rL := hid (rL.out.old b1)
  have LK := hid (LK.out.old b1)
  have W0 := hid (W0.out.old b1)
  have LW0 := hid (LW0.out.old b1)
  have G0 := hid (G0.out.old b1)
  have LG0 := hid (LG0.out.old b1)
  have B := hid (B.out.trans (b1.mono B.out.size))
  have T0 := hid i1
  clear i1 b1
  go_wp2_with fail
  (with_reducible refine (toRatS_came _ _ _ _ L (by omega) _ rL.out).mono ?_)
  rintro e w20 ⟨a20, n20, c20, rfl, i1, b1⟩
  have t20 : w19.heap.size ≤ w20.heap.size := by have := b1.size; omega
  have rK := hid (rK.out.old b1)
  have rL := hid (rL.out.old b1)
  have LK := hid (LK.out.old b1)
  have W0 := hid (W0.out.old b1)
  have LW0 := hid (LW0.out.old b1)
  have G0 := hid (G0.out.old b1)
  have LG0 := hid (LG0.out.old b1)
  have T0 := hid (T0.out.old b1)
  have B := hid (B.out.trans (b1.mono B.out.size))
  have T1 := hid i1
  clear i1 b1
  go_wp2_with fail
  (with_reducible refine (KI.out _ _ _ _ T0.out.w _ _ _ _ _ T1.out).mono ?_)
  rintro e w21 ⟨v21, u21, rfl, i1, b1⟩
  have t21 : w20.heap.size ≤ w21.heap.size := by have := b1.size; omega
  have rK := hid (rK.out.old b1)
  have rL := hid (rL.out.old b1)
  have LK := hid (LK.out.old b1)
  have W0 := hid (W0.out.old b1)
  have LW0 := hid (LW0.out.old b1)
  have G0 := hid (G0.out.old b1)
  have LG0 := hid (LG0.out.old b1)
  have T0 := hid (T0.out.old b1)
  have T1 := hid (T1.out.old b1)
  have B := hid (B.out.trans (b1.mono B.out.size))
  have H0 := hid i1
  obtain ⟨x21, y21, z21, p21, rfl, rfl⟩ := i1.form
  clear i1 b1
  have rK := hid (rK.out.old (below_new' (o := .cells #[.bool rs, .slice x21 R1.length y21, .slice z21 R2.length p21] 37)))
  have rL := hid (rL.out.old (below_new' (o := .cells #[.bool rs, .slice x21 R1.length y21, .slice z21 R2.length p21] 37)))
  have LK := hid (LK.out.old (below_new' (o := .cells #[.bool rs, .slice x21 R1.length y21, .slice z21 R2.length p21] 37)))
  have W0 := hid (W0.out.old (below_new' (o := .cells #[.bool rs, .slice x21 R1.length y21, .slice z21 R2.length p21] 37)))
  have LW0 := hid (LW0.out.old (below_new' (o := .cells #[.bool rs, .slice x21 R1.length y21, .slice z21 R2.length p21] 37)))
  have G0 := hid (G0.out.old (below_new' (o := .cells #[.bool rs, .slice x21 R1.length y21, .slice z21 R2.length p21] 37)))
  have LG0 := hid (LG0.out.old (below_new' (o := .cells #[.bool rs, .slice x21 R1.length y21, .slice z21 R2.length p21] 37)))
  have T0 := hid (T0.out.old (below_new' (o := .cells #[.bool rs, .slice x21 R1.length y21, .slice z21 R2.length p21] 37)))
  have T1 := hid (T1.out.old (below_new' (o := .cells #[.bool rs, .slice x21 R1.length y21, .slice z21 R2.length p21] 37)))
  have H0 := hid (H0.out.old (below_new' (o := .cells #[.bool rs, .slice x21 R1.length y21, .slice z21 R2.length p21] 37)))
  have B := hid (B.out.alloc B.out.size (.cells #[.bool rs, .slice x21 R1.length y21, .slice z21 R2.length p21] 37))
  have LH0 := hid (LocA.new (w := w21) (T := 37) (cs := #[.bool rs, .slice x21 R1.length y21, .slice z21 R2.length p21]))
  have hs21 : (w21.alloc (.cells #[.bool rs, .slice x21 R1.length y21, .slice z21 R2.length p21] 37)).heap.size = w21.heap.size + 1 := by simp
  have q0 := LH0.out.c 0 (v := .bool rs) rfl
  have q1 := LH0.out.c 1 (v := .slice x21 R1.length y21) rfl
  have q2 := LH0.out.c 2 (v := .slice z21 R2.length p21) rfl
  have q3 := LW0.out.c 0 (v := .bool rs) rfl
  have q4 := LW0.out.c 1 (v := .slice x5 R1.length y5) rfl
  have q5 := LW0.out.c 2 (v := .slice z5 R2.length p5) rfl
  go_wp2_with fail
  (with_reducible refine (eqRat_w rs _ _ _ _ R1 R2 _ _ _ _ (by omega) (by omega) _ H0.out.w W0.out.w).mono ?_)
  clear q0 q1 q2 q3 q4 q5
  rintro e w22 ⟨rfl, b1⟩
  have t22 : w21.heap.size + 1 ≤ w22.heap.size := by have := b1.size; simp at this; omega
  have rK := hid (rK.out.old b1)
  have rL := hid (rL.out.old b1)
  have LK := hid (LK.out.old b1)
  have W0 := hid (W0.out.old b1)
  have LW0 := hid (LW0.out.old b1)
  have G0 := hid (G0.out.old b1)
  have LG0 := hid (LG0.out.old b1)
  have H0 := hid (H0.out.old b1)
  have LH0 := hid (LH0.out.old b1)
  have B := hid (B.out.trans (b1.mono B.out.size))
  clear b1
  have q0 := LG0.out.c 0 (v := .bool rs) rfl
  have q1 := LG0.out.c 1 (v := .slice x8 R1.length y8) rfl
  have q2 := LG0.out.c 2 (v := .slice z8 R2.length p8) rfl
  go_wp2_with fail
  (with_reducible refine (heldRat_obj rs _ _ R1.length R2.length 1 _ _ (by omega) (by omega) (by omega) (by omega) _ G0.out).mono ?_)
  clear q0 q1 q2
  rintro e w23 ⟨rfl, b1⟩
  have t23 : w22.heap.size ≤ w23.heap.size := by have := b1.size; omega
  have rK := hid (rK.out.old b1)
  have rL := hid (rL.out.old b1)
  have LK := hid (LK.out.old b1)
  have W0 := hid (W0.out.old b1)
  have LW0 := hid (LW0.out.old b1)
  have G0 := hid (G0.out.old b1)
  have LG0 := hid (LG0.out.old b1)
  have H0 := hid (H0.out.old b1)
  have LH0 := hid (LH0.out.old b1)
  have B := hid (B.out.trans (b1.mono B.out.size))
  clear b1
  go_wp2
  go_ret
  exact ⟨rfl, B.out⟩
end Go.Proofs.YthkehmnodcmlcaaGreat
