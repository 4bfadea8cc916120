/- The law RowHolds. -/
import Derived.Test.YthkehmnodcmlcaaGreatRwd
import Derived.Deep.RegionHeld3
import Derived.Deep.DeepCutAuto
namespace Go.Proofs.YthkehmnodcmlcaaGreat
open Go.RowKit
open Go.Lib (hid)
set_option linter.unusedVariables false

set_option maxRecDepth 100000 in
set_option maxHeartbeats 25600000 in
theorem law_RowHolds (a : Option Addr) (n c : Nat) (K : List Tq) (x : Int) (s : Bool) (b : Option Addr) (m d : Nat) (A : List Int) (e : Option Addr) (k f : Nat) (D : List Int) (hnK : n ≤ maxLen) (hmK : ∀ f ∈ K, f.A.length ≤ maxLen ∧ f.D.length ≤ maxLen) (hAK : m ≤ maxLen) (hDK : k ≤ maxLen) (a' : Option Addr) (n' c' : Nat) (L : List Fq) (hnL : n' ≤ maxLen) (hmL : ∀ f ∈ L, f.A.length ≤ maxLen ∧ f.D.length ≤ maxLen) (w : World) (rK : WCame w w.heap.size a n K b m A e k D) (rL : VCame w w.heap.size a' n' L) :
    Calls Tryz.prog 3 #[.agg #[.slice a n c, .int .i64 x, .bool s, .slice b m d, .slice e k f], .slice a' n' c'] w (RetB (.bool true) w) := by
  obtain rfl := rK.r.x.1
  obtain rfl := rK.r.y.1
  have BW := below_new' (w := w) (o := .cells #[.slice a n c, .int .i64 x, .bool s, .slice b A.length d, .slice e D.length f] 29)
  have B := hid BW
  have rK := hid (rK.old BW)
  have rL := hid (rL.old BW)
  have LK := hid (LocA.new (w := w) (T := 29) (cs := #[.slice a n c, .int .i64 x, .bool s, .slice b A.length d, .slice e D.length f]))
  have hs0 : (w.alloc (.cells #[.slice a n c, .int .i64 x, .bool s, .slice b A.length d, .slice e D.length f] 29)).heap.size = w.heap.size + 1 := by simp
  clear BW
  generalize hW : w.alloc (.cells #[.slice a n c, .int .i64 x, .bool s, .slice b A.length d, .slice e D.length f] 29) = w0 at B rK rL LK hs0
  have HW := hid hW
  clear hW
  by_cases hsK : (szU K : Int) + (A.length : Int) + (D.length : Int) ≤ 1048576
  case neg =>
    go_enter Tryz.func3, Tryz.ntmps3
    have q0 := LK.out.c 0 (v := .slice a n c) rfl
    have q1 := LK.out.c 1 (v := .int .i64 x) rfl
    have q2 := LK.out.c 2 (v := .bool s) rfl
    have q3 := LK.out.c 3 (v := .slice b A.length d) rfl
    have q4 := LK.out.c 4 (v := .slice e D.length f) rfl
    go_wp2_with fail
    rw [HW.out]
    (with_reducible refine (szRow_no _ _ _ x s _ _ _ _ _ _ _ K (1048576) hnK hmK hAK hDK (by omega) (by omega) (by omega) _ rK.out.t).mono ?_)
    clear q0 q1 q2 q3 q4
    rintro e w1 ⟨rfl, b1⟩
    have t1 : w0.heap.size ≤ w1.heap.size := by have := b1.size; omega
    have rK := hid (rK.out.old b1)
    have rL := hid (rL.out.old b1)
    have LK := hid (LK.out.old b1)
    have B := hid (B.out.trans (b1.mono B.out.size))
    clear b1
    go_wp2
    go_ret
    exact ⟨rfl, B.out⟩
  by_cases hsL : (szK L : Int) ≤ 1048576 - (szU K : Int) - (A.length : Int) - (D.length : Int)
  case neg =>
    go_enter Tryz.func3, Tryz.ntmps3
    have q0 := LK.out.c 0 (v := .slice a n c) rfl
    have q1 := LK.out.c 1 (v := .int .i64 x) rfl
    have q2 := LK.out.c 2 (v := .bool s) rfl
    have q3 := LK.out.c 3 (v := .slice b A.length d) rfl
    have q4 := LK.out.c 4 (v := .slice e D.length f) rfl
    go_wp2_with fail
    rw [HW.out]
    (with_reducible refine (szRow_yes _ _ _ x s _ _ _ _ _ _ _ K (1048576) (by omega) (by omega) _ rK.out.t).mono ?_)
    clear q0 q1 q2 q3 q4
    rintro e w1 ⟨rfl, b1⟩
    have t1 : w0.heap.size ≤ w1.heap.size := by have := b1.size; omega
    have rK := hid (rK.out.old b1)
    have rL := hid (rL.out.old b1)
    have LK := hid (LK.out.old b1)
    have B := hid (B.out.trans (b1.mono B.out.size))
    clear b1
    go_wp2_with fail
    (with_reducible refine (szRatS_no _ _ _ _ L (1048576 - (szU K : Int) - (A.length : Int) - (D.length : Int)) hnL hmL (by omega) (by omega) (by omega) _ rL.out).mono ?_)
    rintro e w2 ⟨rfl, b1⟩
    have t2 : w1.heap.size ≤ w2.heap.size := by have := b1.size; omega
    have rK := hid (rK.out.old b1)
    have rL := hid (rL.out.old b1)
    have LK := hid (LK.out.old b1)
    have B := hid (B.out.trans (b1.mono B.out.size))
    clear b1
    go_wp2
    go_ret
    exact ⟨rfl, B.out⟩
  have hztK := szT_szU K
  have hSK : SmT K := SmT.of (by omega)
  have huK : szU K ≤ 1048576 := by omega
  have htK : szT K ≤ 2097152 := by omega
  have haK : A.length ≤ 1048576 := by omega
  have hdK : D.length ≤ 1048576 := by omega
  have hSL : Sm L := Sm.of (by omega)
  have huL : szK L ≤ 1048576 := by omega
  have hy0 : ¬ 1048576 - (szU K : Int) - (A.length : Int) - (D.length : Int) < 0 := by omega
  have hy1 : ¬ 1048576 - (szU K : Int) - (A.length : Int) - (D.length : Int) - (szK L : Int) < 0 := by omega
  obtain ⟨RR, hRR⟩ : ∃ RR, RR = holdsR K x s A D L := ⟨_, rfl⟩
  have HRR := hid hRR
  clear hRR
  have KS := hid (fun (W : World) (t0 v0 u0 : Value) (g0 : RwW W t0 v0 u0 K A D) (a1 : Option Addr) (n1 c1 l1 h1 : Nat) (g1 : VK true W (.slice a1 n1 c1) L l1 h1) => (by
    have h := spec_RowHolds x s hSK hSL haK hdK W g0 g1
    rw [← HRR.out] at h
    exact h : Calls Tryz.prog 15 #[.agg #[t0, .int .i64 x, .bool s, v0, u0], .slice a1 n1 c1] W (RetB (.bool RR) W)))
  have KI := hid (fun (W : World) (t0 v0 u0 : Value) (g0 : RwW W t0 v0 u0 K A D) (a1 : Option Addr) (n1 c1 l1 h1 : Nat) (g1 : VK true W (.slice a1 n1 c1) L l1 h1) => (by
    have h := impl_RowHolds x s hSK hSL haK hdK W g0 g1
    rw [← HRR.out] at h
    exact h : Calls Tryz.prog 18 #[.agg #[t0, .int .i64 x, .bool s, v0, u0], .slice a1 n1 c1] W (RetB (.bool RR) W)))
  go_enter Tryz.func3, Tryz.ntmps3
  have q0 := LK.out.c 0 (v := .slice a n c) rfl
  have q1 := LK.out.c 1 (v := .int .i64 x) rfl
  have q2 := LK.out.c 2 (v := .bool s) rfl
  have q3 := LK.out.c 3 (v := .slice b A.length d) rfl
  have q4 := LK.out.c 4 (v := .slice e D.length f) rfl
  go_wp2_with fail
  rw [HW.out]
  (with_reducible refine (szRow_yes _ _ _ x s _ _ _ _ _ _ _ K (1048576) (by omega) (by omega) _ rK.out.t).mono ?_)
  clear q0 q1 q2 q3 q4
  rintro e w1 ⟨rfl, b1⟩
  have t1 : w0.heap.size ≤ w1.heap.size := by have := b1.size; omega
  have rK := hid (rK.out.old b1)
  have rL := hid (rL.out.old b1)
  have LK := hid (LK.out.old b1)
  have B := hid (B.out.trans (b1.mono B.out.size))
  clear b1
  go_wp2_with fail
  (with_reducible refine (szRatS_yes _ _ _ _ L (1048576 - (szU K : Int) - (A.length : Int) - (D.length : Int)) (by omega) (by omega) _ rL.out).mono ?_)
  rintro e w2 ⟨rfl, b1⟩
  have t2 : w1.heap.size ≤ w2.heap.size := by have := b1.size; omega
  have rK := hid (rK.out.old b1)
  have rL := hid (rL.out.old b1)
  have LK := hid (LK.out.old b1)
  have B := hid (B.out.trans (b1.mono B.out.size))
  clear b1
  have q0 := LK.out.c 0 (v := .slice a n c) rfl
  have q1 := LK.out.c 1 (v := .int .i64 x) rfl
  have q2 := LK.out.c 2 (v := .bool s) rfl
  have q3 := LK.out.c 3 (v := .slice b A.length d) rfl
  have q4 := LK.out.c 4 (v := .slice e D.length f) rfl
  go_wp2_with fail
  (with_reducible refine (toRow_came _ _ _ x s _ _ _ _ _ _ _ K A D huK haK hdK _ rK.out).mono ?_)
  clear q0 q1 q2 q3 q4
  rintro e w3 ⟨a3, c3, b3, d3, g3, f3, m3, rfl, i1, b1⟩
  have t3 : w2.heap.size ≤ w3.heap.size := by have := b1.size; omega
  have rK := hid (rK.out.old b1)
  have rL := hid (rL.out.old b1)
  have LK := hid (LK.out.old b1)
  have B := hid (B.out.trans (b1.mono B.out.size))
  have T0 := hid i1
  clear i1 b1
  go_wp2_with fail
  (with_reducible refine (toRatS_came _ _ _ _ L (by omega) _ rL.out).mono ?_)
  rintro e w4 ⟨a4, n4, c4, rfl, i1, b1⟩
  have t4 : w3.heap.size ≤ w4.heap.size := by have := b1.size; omega
  have rK := hid (rK.out.old b1)
  have rL := hid (rL.out.old b1)
  have LK := hid (LK.out.old b1)
  have T0 := hid (T0.out.old b1)
  have B := hid (B.out.trans (b1.mono B.out.size))
  have T1 := hid i1
  clear i1 b1
  go_wp2_with fail
  (with_reducible refine (KS.out _ _ _ _ T0.out.w _ _ _ _ _ T1.out).mono ?_)
  rintro e w5 ⟨rfl, b1⟩
  have t5 : w4.heap.size ≤ w5.heap.size := by have := b1.size; omega
  have rK := hid (rK.out.old b1)
  have rL := hid (rL.out.old b1)
  have LK := hid (LK.out.old b1)
  have T0 := hid (T0.out.old b1)
  have T1 := hid (T1.out.old b1)
  have B := hid (B.out.trans (b1.mono B.out.size))
  clear b1
  have q0 := LK.out.c 0 (v := .slice a n c) rfl
  have q1 := LK.out.c 1 (v := .int .i64 x) rfl
  have q2 := LK.out.c 2 (v := .bool s) rfl
  have q3 := LK.out.c 3 (v := .slice b A.length d) rfl
  have q4 := LK.out.c 4 (v := .slice e D.length f) rfl
  go_wp2_with fail
  (with_reducible refine (toRow_came _ _ _ x s _ _ _ _ _ _ _ K A D huK haK hdK _ rK.out).mono ?_)
  clear q0 q1 q2 q3 q4
  rintro e w6 ⟨a6, c6, b6, d6, g6, f6, m6, rfl, i1, b1⟩
  have t6 : w5.heap.size ≤ w6.heap.size := by have := b1.size; omega
  have rK := hid (rK.out.old b1)
  have rL := hid (rL.out.old b1)
  have LK := hid (LK.out.old b1)
  have B := hid (B.out.trans (b1.mono B.out.size))
  have X0 := hid i1
  clear i1 b1
  have rK := hid (rK.out.old (below_new' (o := .cells #[.slice a6 K.length c6, .int .i64 x, .bool s, .slice b6 A.length d6, .slice g6 D.length f6] 39)))
  have rL := hid (rL.out.old (below_new' (o := .cells #[.slice a6 K.length c6, .int .i64 x, .bool s, .slice b6 A.length d6, .slice g6 D.length f6] 39)))
  have LK := hid (LK.out.old (below_new' (o := .cells #[.slice a6 K.length c6, .int .i64 x, .bool s, .slice b6 A.length d6, .slice g6 D.length f6] 39)))
  have X0 := hid (X0.out.old (below_new' (o := .cells #[.slice a6 K.length c6, .int .i64 x, .bool s, .slice b6 A.length d6, .slice g6 D.length f6] 39)))
  have B := hid (B.out.alloc B.out.size (.cells #[.slice a6 K.length c6, .int .i64 x, .bool s, .slice b6 A.length d6, .slice g6 D.length f6] 39))
  have LX0 := hid (LocA.new (w := w6) (T := 39) (cs := #[.slice a6 K.length c6, .int .i64 x, .bool s, .slice b6 A.length d6, .slice g6 D.length f6]))
  have hs6 : (w6.alloc (.cells #[.slice a6 K.length c6, .int .i64 x, .bool s, .slice b6 A.length d6, .slice g6 D.length f6] 39)).heap.size = w6.heap.size + 1 := by simp
  go_wp2_with fail
  (with_reducible refine (toRatS_came _ _ _ _ L (by omega) _ rL.out).mono ?_)
  rintro e w7 ⟨a7, n7, c7, rfl, i1, b1⟩
  have t7 : w6.heap.size + 1 ≤ w7.heap.size := by have := b1.size; simp at this; omega
  have rK := hid (rK.out.old b1)
  have rL := hid (rL.out.old b1)
  have LK := hid (LK.out.old b1)
  have X0 := hid (X0.out.old b1)
  have LX0 := hid (LX0.out.old b1)
  have B := hid (B.out.trans (b1.mono B.out.size))
  have X1 := hid i1
  clear i1 b1
  have q0 := LX0.out.c 0 (v := .slice a6 K.length c6) rfl
  have q1 := LX0.out.c 1 (v := .int .i64 x) rfl
  have q2 := LX0.out.c 2 (v := .bool s) rfl
  have q3 := LX0.out.c 3 (v := .slice b6 A.length d6) rfl
  have q4 := LX0.out.c 4 (v := .slice g6 D.length f6) rfl
  go_wp2_with fail
  (with_reducible refine (KI.out _ _ _ _ X0.out.w _ _ _ _ _ X1.out).mono ?_)
  clear q0 q1 q2 q3 q4
  rintro e w8 ⟨rfl, b1⟩
  have t8 : w7.heap.size ≤ w8.heap.size := by have := b1.size; omega
  have rK := hid (rK.out.old b1)
  have rL := hid (rL.out.old b1)
  have LK := hid (LK.out.old b1)
  have X0 := hid (X0.out.old b1)
  have LX0 := hid (LX0.out.old b1)
  have X1 := hid (X1.out.old b1)
  have B := hid (B.out.trans (b1.mono B.out.size))
  clear b1
  have rK := hid (rK.out.old (Below_drew1 (Below.refl _ _)))
  have rL := hid (rL.out.old (Below_drew1 (Below.refl _ _)))
  have LK := hid (LK.out.old (Below_drew1 (Below.refl _ _)))
  have X0 := hid (X0.out.old (Below_drew1 (Below.refl _ _)))
  have LX0 := hid (LX0.out.old (Below_drew1 (Below.refl _ _)))
  have X1 := hid (X1.out.old (Below_drew1 (Below.refl _ _)))
  have B := hid (Below_drew1 B.out)
  have q0 := LX0.out.c 0 (v := .slice a6 K.length c6) rfl
  have q1 := LX0.out.c 1 (v := .int .i64 x) rfl
  have q2 := LX0.out.c 2 (v := .bool s) rfl
  have q3 := LX0.out.c 3 (v := .slice b6 A.length d6) rfl
  have q4 := LX0.out.c 4 (v := .slice g6 D.length f6) rfl
  have q5 := LK.out.c 0 (v := .slice a n c) rfl
  have q6 := LK.out.c 1 (v := .int .i64 x) rfl
  have q7 := LK.out.c 2 (v := .bool s) rfl
  have q8 := LK.out.c 3 (v := .slice b A.length d) rfl
  have q9 := LK.out.c 4 (v := .slice e D.length f) rfl
  go_wp2_with fail
  go_region_held3 (fun w' => w'.cell? ⟨w6.heap.size, 0, none⟩ = some (.slice a6 K.length c6) ∧ w'.cell? ⟨w6.heap.size, 1, none⟩ = some (.int .i64 x) ∧ w'.cell? ⟨w6.heap.size, 2, none⟩ = some (.bool s) ∧ w'.cell? ⟨w6.heap.size, 3, none⟩ = some (.slice b6 A.length d6) ∧ w'.cell? ⟨w6.heap.size, 4, none⟩ = some (.slice g6 D.length f6) ∧ w'.cell? ⟨w.heap.size, 0, none⟩ = some (.slice a n c) ∧ w'.cell? ⟨w.heap.size, 1, none⟩ = some (.int .i64 x) ∧ w'.cell? ⟨w.heap.size, 2, none⟩ = some (.bool s) ∧ w'.cell? ⟨w.heap.size, 3, none⟩ = some (.slice b A.length d) ∧ w'.cell? ⟨w.heap.size, 4, none⟩ = some (.slice e D.length f)) (first | exact ⟨q0, q1, q2, q3, q4, q5, q6, q7, q8, q9⟩) (first | (go_at_call 16; (with_reducible refine (toRow_came _ _ _ x s _ _ _ _ _ _ _ K A D huK haK hdK _ rK.out).mono ?_); rintro e w9 ⟨a9, c9, b9, d9, g9, f9, m9, rfl, i1, b1⟩; have t9 : w8.heap.size ≤ w9.heap.size := (by have := b1.size; first | exact this | omega | (simp at this; omega)); have rK := hid (rK.out.old b1); have rL := hid (rL.out.old b1); have LK := hid (LK.out.old b1); have X0 := hid (X0.out.old b1); have LX0 := hid (LX0.out.old b1); have X1 := hid (X1.out.old b1); have B := hid (B.out.trans (b1.mono B.out.size)); have q0 := LX0.out.c 0 (v := .slice a6 K.length c6) rfl; have q1 := LX0.out.c 1 (v := .int .i64 x) rfl; have q2 := LX0.out.c 2 (v := .bool s) rfl; have q3 := LX0.out.c 3 (v := .slice b6 A.length d6) rfl; have q4 := LX0.out.c 4 (v := .slice g6 D.length f6) rfl; have q5 := LK.out.c 0 (v := .slice a n c) rfl; have q6 := LK.out.c 1 (v := .int .i64 x) rfl; have q7 := LK.out.c 2 (v := .bool s) rfl; have q8 := LK.out.c 3 (v := .slice b A.length d) rfl; have q9 := LK.out.c 4 (v := .slice e D.length f) rfl; have T0 := hid i1; clear i1 b1) | (go_at_call 19; (with_reducible refine (eqRow_k x s (by omega) (by omega) (by omega) _ X0.out.w T0.out.w).mono ?_); rintro e w10 ⟨rfl, b1⟩; have t10 : w9.heap.size ≤ w10.heap.size := (by have := b1.size; first | exact this | omega | (simp at this; omega)); have rK := hid (rK.out.old b1); have rL := hid (rL.out.old b1); have LK := hid (LK.out.old b1); have X0 := hid (X0.out.old b1); have LX0 := hid (LX0.out.old b1); have X1 := hid (X1.out.old b1); have T0 := hid (T0.out.old b1); have B := hid (B.out.trans (b1.mono B.out.size)); have q0 := LX0.out.c 0 (v := .slice a6 K.length c6) rfl; have q1 := LX0.out.c 1 (v := .int .i64 x) rfl; have q2 := LX0.out.c 2 (v := .bool s) rfl; have q3 := LX0.out.c 3 (v := .slice b6 A.length d6) rfl; have q4 := LX0.out.c 4 (v := .slice g6 D.length f6) rfl; have q5 := LK.out.c 0 (v := .slice a n c) rfl; have q6 := LK.out.c 1 (v := .int .i64 x) rfl; have q7 := LK.out.c 2 (v := .bool s) rfl; have q8 := LK.out.c 3 (v := .slice b A.length d) rfl; have q9 := LK.out.c 4 (v := .slice e D.length f) rfl; clear b1))
  clear q0 q1 q2 q3 q4 q5 q6 q7 q8 q9
  go_wp2_with fail
  (with_reducible refine (toRatS_came _ _ _ _ L (by omega) _ rL.out).mono ?_)
  rintro e w11 ⟨a11, n11, c11, rfl, i1, b1⟩
  have t11 : w10.heap.size ≤ w11.heap.size := by have := b1.size; omega
  have rK := hid (rK.out.old b1)
  have rL := hid (rL.out.old b1)
  have LK := hid (LK.out.old b1)
  have X0 := hid (X0.out.old b1)
  have LX0 := hid (LX0.out.old b1)
  have X1 := hid (X1.out.old b1)
  have B := hid (B.out.trans (b1.mono B.out.size))
  have T1 := hid i1
  clear i1 b1
  go_wp2_with fail
  (with_reducible refine (eqRatS_k (by omega) _ X1.out T1.out).mono ?_)
  rintro e w12 ⟨rfl, b1⟩
  have t12 : w11.heap.size ≤ w12.heap.size := by have := b1.size; omega
  have rK := hid (rK.out.old b1)
  have rL := hid (rL.out.old b1)
  have LK := hid (LK.out.old b1)
  have X0 := hid (X0.out.old b1)
  have LX0 := hid (LX0.out.old b1)
  have X1 := hid (X1.out.old b1)
  have T1 := hid (T1.out.old b1)
  have B := hid (B.out.trans (b1.mono B.out.size))
  clear b1
  go_wp2
  go_ret
  exact ⟨rfl, B.out⟩
end Go.Proofs.YthkehmnodcmlcaaGreat
