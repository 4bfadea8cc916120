/- The laws RowInfeasible and RowTrivial. -/
import Derived.Test.YthkehmnodcmlcaaGreatRwe
import Derived.Deep.RegionHeld3
import Derived.Deep.DeepCutAuto
namespace Go.Proofs.YthkehmnodcmlcaaGreat
open Go.RowKit
open Go.Lib (hid)
set_option linter.unusedVariables false

set_option maxRecDepth 100000 in
set_option maxHeartbeats 25600000 in
theorem law_RowInfeasible (a : Option Addr) (n c : Nat) (K : List Tq) (x : Int) (s : Bool) (b : Option Addr) (m d : Nat) (A : List Int) (e : Option Addr) (k f : Nat) (D : List Int) (hnK : n ≤ maxLen) (hmK : ∀ f ∈ K, f.A.length ≤ maxLen ∧ f.D.length ≤ maxLen) (hAK : m ≤ maxLen) (hDK : k ≤ maxLen) (w : World) (rK : WCame w w.heap.size a n K b m A e k D) :
    Calls Tryz.prog 7 #[.agg #[.slice a n c, .int .i64 x, .bool s, .slice b m d, .slice e k f]] w (RetB (.bool true) w) := by
  obtain rfl := rK.r.x.1
  obtain rfl := rK.r.y.1
  have BW := below_new' (w := w) (o := .cells #[.slice a n c, .int .i64 x, .bool s, .slice b A.length d, .slice e D.length f] 29)
  have B := hid BW
  have rK := hid (rK.old BW)
  have LK := hid (LocA.new (w := w) (T := 29) (cs := #[.slice a n c, .int .i64 x, .bool s, .slice b A.length d, .slice e D.length f]))
  have hs0 : (w.alloc (.cells #[.slice a n c, .int .i64 x, .bool s, .slice b A.length d, .slice e D.length f] 29)).heap.size = w.heap.size + 1 := by simp
  clear BW
  generalize hW : w.alloc (.cells #[.slice a n c, .int .i64 x, .bool s, .slice b A.length d, .slice e D.length f] 29) = w0 at B rK LK hs0
  have HW := hid hW
  clear hW
  by_cases hsK : (szU K : Int) + (A.length : Int) + (D.length : Int) ≤ 1048576
  case neg =>
    go_enter Tryz.func7, Tryz.ntmps7
    have q0 := LK.out.c 0 (v := .slice a n c) rfl
    have q1 := LK.out.c 1 (v := .int .i64 x) rfl
    have q2 := LK.out.c 2 (v := .bool s) rfl
    have q3 := LK.out.c 3 (v := .slice b A.length d) rfl
    have q4 := LK.out.c 4 (v := .slice e D.length f) rfl
    go_wp2_with fail
    rw [HW.out]
    (with_reducible refine (szRow_no _ _ _ x s _ _ _ _ _ _ _ K (1048576) hnK hmK hAK hDK (by omega) (by omega) (by omega) _ rK.out.t).mono ?_)
    clear q0 q1 q2 q3 q4
    rintro e w1 ⟨rfl, b1⟩
    have t1 : w0.heap.size ≤ w1.heap.size := by have := b1.size; omega
    have rK := hid (rK.out.old b1)
    have LK := hid (LK.out.old b1)
    have B := hid (B.out.trans (b1.mono B.out.size))
    clear b1
    go_wp2
    go_ret
    exact ⟨rfl, B.out⟩
  have hztK := szT_szU K
  have hSK : SmT K := SmT.of (by omega)
  have huK : szU K ≤ 1048576 := by omega
  have htK : szT K ≤ 2097152 := by omega
  have haK : A.length ≤ 1048576 := by omega
  have hdK : D.length ≤ 1048576 := by omega
  have hy0 : ¬ 1048576 - (szU K : Int) - (A.length : Int) - (D.length : Int) < 0 := by omega
  obtain ⟨RR, hRR⟩ : ∃ RR, RR = infR K x s A D := ⟨_, rfl⟩
  have HRR := hid hRR
  clear hRR
  have KS := hid (fun (W : World) (t0 v0 u0 : Value) (g0 : RwW W t0 v0 u0 K A D) => (by
    have h := spec_RowInfeasible x s hSK haK hdK W g0
    rw [← HRR.out] at h
    exact h : Calls Tryz.prog 35 #[.agg #[t0, .int .i64 x, .bool s, v0, u0]] W (RetB (.bool RR) W)))
  have KI := hid (fun (W : World) (t0 v0 u0 : Value) (g0 : RwW W t0 v0 u0 K A D) => (by
    have h := impl_RowInfeasible x s hSK haK hdK W g0
    rw [← HRR.out] at h
    exact h : Calls Tryz.prog 36 #[.agg #[t0, .int .i64 x, .bool s, v0, u0]] W (RetB (.bool RR) W)))
  go_enter Tryz.func7, Tryz.ntmps7
  have q0 := LK.out.c 0 (v := .slice a n c) rfl
  have q1 := LK.out.c 1 (v := .int .i64 x) rfl
  have q2 := LK.out.c 2 (v := .bool s) rfl
  have q3 := LK.out.c 3 (v := .slice b A.length d) rfl
  have q4 := LK.out.c 4 (v := .slice e D.length f) rfl
  go_wp2_with fail
  rw [HW.out]
  (with_reducible refine (szRow_yes _ _ _ x s _ _ _ _ _ _ _ K (1048576) (by omega) (by omega) _ rK.out.t).mono ?_)
  clear q0 q1 q2 q3 q4
  rintro e w1 ⟨rfl, b1⟩
  have t1 : w0.heap.size ≤ w1.heap.size := by have := b1.size; omega
  have rK := hid (rK.out.old b1)
  have LK := hid (LK.out.old b1)
  have B := hid (B.out.trans (b1.mono B.out.size))
  clear b1
  have q0 := LK.out.c 0 (v := .slice a n c) rfl
  have q1 := LK.out.c 1 (v := .int .i64 x) rfl
  have q2 := LK.out.c 2 (v := .bool s) rfl
  have q3 := LK.out.c 3 (v := .slice b A.length d) rfl
  have q4 := LK.out.c 4 (v := .slice e D.length f) rfl
  go_wp2_with fail
  (with_reducible refine (toRow_came _ _ _ x s _ _ _ _ _ _ _ K A D huK haK hdK _ rK.out).mono ?_)
  clear q0 q1 q2 q3 q4
  rintro e w2 ⟨a2, c2, b2, d2, g2, f2, m2, rfl, i1, b1⟩
  have t2 : w1.heap.size ≤ w2.heap.size := by have := b1.size; omega
  have rK := hid (rK.out.old b1)
  have LK := hid (LK.out.old b1)
  have B := hid (B.out.trans (b1.mono B.out.size))
  have T0 := hid i1
  clear i1 b1
  go_wp2_with fail
  (with_reducible refine (KS.out _ _ _ _ T0.out.w).mono ?_)
  rintro e w3 ⟨rfl, b1⟩
  have t3 : w2.heap.size ≤ w3.heap.size := by have := b1.size; omega
  have rK := hid (rK.out.old b1)
  have LK := hid (LK.out.old b1)
  have T0 := hid (T0.out.old b1)
  have B := hid (B.out.trans (b1.mono B.out.size))
  clear b1
  have q0 := LK.out.c 0 (v := .slice a n c) rfl
  have q1 := LK.out.c 1 (v := .int .i64 x) rfl
  have q2 := LK.out.c 2 (v := .bool s) rfl
  have q3 := LK.out.c 3 (v := .slice b A.length d) rfl
  have q4 := LK.out.c 4 (v := .slice e D.length f) rfl
  go_wp2_with fail
  (with_reducible refine (toRow_came _ _ _ x s _ _ _ _ _ _ _ K A D huK haK hdK _ rK.out).mono ?_)
  clear q0 q1 q2 q3 q4
  rintro e w4 ⟨a4, c4, b4, d4, g4, f4, m4, rfl, i1, b1⟩
  have t4 : w3.heap.size ≤ w4.heap.size := by have := b1.size; omega
  have rK := hid (rK.out.old b1)
  have LK := hid (LK.out.old b1)
  have B := hid (B.out.trans (b1.mono B.out.size))
  have X0 := hid i1
  clear i1 b1
  have rK := hid (rK.out.old (below_new' (o := .cells #[.slice a4 K.length c4, .int .i64 x, .bool s, .slice b4 A.length d4, .slice g4 D.length f4] 39)))
  have LK := hid (LK.out.old (below_new' (o := .cells #[.slice a4 K.length c4, .int .i64 x, .bool s, .slice b4 A.length d4, .slice g4 D.length f4] 39)))
  have X0 := hid (X0.out.old (below_new' (o := .cells #[.slice a4 K.length c4, .int .i64 x, .bool s, .slice b4 A.length d4, .slice g4 D.length f4] 39)))
  have B := hid (B.out.alloc B.out.size (.cells #[.slice a4 K.length c4, .int .i64 x, .bool s, .slice b4 A.length d4, .slice g4 D.length f4] 39))
  have LX0 := hid (LocA.new (w := w4) (T := 39) (cs := #[.slice a4 K.length c4, .int .i64 x, .bool s, .slice b4 A.length d4, .slice g4 D.length f4]))
  have hs4 : (w4.alloc (.cells #[.slice a4 K.length c4, .int .i64 x, .bool s, .slice b4 A.length d4, .slice g4 D.length f4] 39)).heap.size = w4.heap.size + 1 := by simp
  have q0 := LX0.out.c 0 (v := .slice a4 K.length c4) rfl
  have q1 := LX0.out.c 1 (v := .int .i64 x) rfl
  have q2 := LX0.out.c 2 (v := .bool s) rfl
  have q3 := LX0.out.c 3 (v := .slice b4 A.length d4) rfl
  have q4 := LX0.out.c 4 (v := .slice g4 D.length f4) rfl
  go_wp2_with fail
  (with_reducible refine (KI.out _ _ _ _ X0.out.w).mono ?_)
  clear q0 q1 q2 q3 q4
  rintro e w5 ⟨rfl, b1⟩
  have t5 : w4.heap.size + 1 ≤ w5.heap.size := by have := b1.size; simp at this; omega
  have rK := hid (rK.out.old b1)
  have LK := hid (LK.out.old b1)
  have X0 := hid (X0.out.old b1)
  have LX0 := hid (LX0.out.old b1)
  have B := hid (B.out.trans (b1.mono B.out.size))
  clear b1
  have rK := hid (rK.out.old (Below_drew1 (Below.refl _ _)))
  have LK := hid (LK.out.old (Below_drew1 (Below.refl _ _)))
  have X0 := hid (X0.out.old (Below_drew1 (Below.refl _ _)))
  have LX0 := hid (LX0.out.old (Below_drew1 (Below.refl _ _)))
  have B := hid (Below_drew1 B.out)
  have q0 := LX0.out.c 0 (v := .slice a4 K.length c4) rfl
  have q1 := LX0.out.c 1 (v := .int .i64 x) rfl
  have q2 := LX0.out.c 2 (v := .bool s) rfl
  have q3 := LX0.out.c 3 (v := .slice b4 A.length d4) rfl
  have q4 := LX0.out.c 4 (v := .slice g4 D.length f4) rfl
  have q5 := LK.out.c 0 (v := .slice a n c) rfl
  have q6 := LK.out.c 1 (v := .int .i64 x) rfl
  have q7 := LK.out.c 2 (v := .bool s) rfl
  have q8 := LK.out.c 3 (v := .slice b A.length d) rfl
  have q9 := LK.out.c 4 (v := .slice e D.length f) rfl
  go_wp2_with fail
  go_region_held3 (fun w' => w'.cell? ⟨w4.heap.size, 0, none⟩ = some (.slice a4 K.length c4) ∧ w'.cell? ⟨w4.heap.size, 1, none⟩ = some (.int .i64 x) ∧ w'.cell? ⟨w4.heap.size, 2, none⟩ = some (.bool s) ∧ w'.cell? ⟨w4.heap.size, 3, none⟩ = some (.slice b4 A.length d4) ∧ w'.cell? ⟨w4.heap.size, 4, none⟩ = some (.slice g4 D.length f4) ∧ w'.cell? ⟨w.heap.size, 0, none⟩ = some (.slice a n c) ∧ w'.cell? ⟨w.heap.size, 1, none⟩ = some (.int .i64 x) ∧ w'.cell? ⟨w.heap.size, 2, none⟩ = some (.bool s) ∧ w'.cell? ⟨w.heap.size, 3, none⟩ = some (.slice b A.length d) ∧ w'.cell? ⟨w.heap.size, 4, none⟩ = some (.slice e D.length f)) (first | exact ⟨q0, q1, q2, q3, q4, q5, q6, q7, q8, q9⟩) (first | (go_at_call 16; (with_reducible refine (toRow_came _ _ _ x s _ _ _ _ _ _ _ K A D huK haK hdK _ rK.out).mono ?_); rintro e w6 ⟨a6, c6, b6, d6, g6, f6, m6, rfl, i1, b1⟩; have t6 : w5.heap.size ≤ w6.heap.size := (by have := b1.size; first | exact this | omega | (simp at this; omega)); have rK := hid (rK.out.old b1); have LK := hid (LK.out.old b1); have X0 := hid (X0.out.old b1); have LX0 := hid (LX0.out.old b1); have B := hid (B.out.trans (b1.mono B.out.size)); have q0 := LX0.out.c 0 (v := .slice a4 K.length c4) rfl; have q1 := LX0.out.c 1 (v := .int .i64 x) rfl; have q2 := LX0.out.c 2 (v := .bool s) rfl; have q3 := LX0.out.c 3 (v := .slice b4 A.length d4) rfl; have q4 := LX0.out.c 4 (v := .slice g4 D.length f4) rfl; have q5 := LK.out.c 0 (v := .slice a n c) rfl; have q6 := LK.out.c 1 (v := .int .i64 x) rfl; have q7 := LK.out.c 2 (v := .bool s) rfl; have q8 := LK.out.c 3 (v := .slice b A.length d) rfl; have q9 := LK.out.c 4 (v := .slice e D.length f) rfl; have T0 := hid i1; clear i1 b1) | (go_at_call 19; (with_reducible refine (eqRow_k x s (by omega) (by omega) (by omega) _ X0.out.w T0.out.w).mono ?_); rintro e w7 ⟨rfl, b1⟩; have t7 : w6.heap.size ≤ w7.heap.size := (by have := b1.size; first | exact this | omega | (simp at this; omega)); have rK := hid (rK.out.old b1); have LK := hid (LK.out.old b1); have X0 := hid (X0.out.old b1); have LX0 := hid (LX0.out.old b1); have T0 := hid (T0.out.old b1); have B := hid (B.out.trans (b1.mono B.out.size)); have q0 := LX0.out.c 0 (v := .slice a4 K.length c4) rfl; have q1 := LX0.out.c 1 (v := .int .i64 x) rfl; have q2 := LX0.out.c 2 (v := .bool s) rfl; have q3 := LX0.out.c 3 (v := .slice b4 A.length d4) rfl; have q4 := LX0.out.c 4 (v := .slice g4 D.length f4) rfl; have q5 := LK.out.c 0 (v := .slice a n c) rfl; have q6 := LK.out.c 1 (v := .int .i64 x) rfl; have q7 := LK.out.c 2 (v := .bool s) rfl; have q8 := LK.out.c 3 (v := .slice b A.length d) rfl; have q9 := LK.out.c 4 (v := .slice e D.length f) rfl; clear b1))
  clear q0 q1 q2 q3 q4 q5 q6 q7 q8 q9
  go_wp2
  go_ret
  exact ⟨rfl, B.out⟩
set_option maxRecDepth 100000 in
set_option maxHeartbeats 25600000 in
theorem law_RowTrivial (a : Option Addr) (n c : Nat) (K : List Tq) (x : Int) (s : Bool) (b : Option Addr) (m d : Nat) (A : List Int) (e : Option Addr) (k f : Nat) (D : List Int) (hnK : n ≤ maxLen) (hmK : ∀ f ∈ K, f.A.length ≤ maxLen ∧ f.D.length ≤ maxLen) (hAK : m ≤ maxLen) (hDK : k ≤ maxLen) (w : World) (rK : WCame w w.heap.size a n K b m A e k D) :
    Calls Tryz.prog 8 #[.agg #[.slice a n c, .int .i64 x, .bool s, .slice b m d, .slice e k f]] w (RetB (.bool true) w) := by
  obtain rfl := rK.r.x.1
  obtain rfl := rK.r.y.1
  have BW := below_new' (w := w) (o := .cells #[.slice a n c, .int .i64 x, .bool s, .slice b A.length d, .slice e D.length f] 29)
  have B := hid BW
  have rK := hid (rK.old BW)
  have LK := hid (LocA.new (w := w) (T := 29) (cs := #[.slice a n c, .int .i64 x, .bool s, .slice b A.length d, .slice e D.length f]))
  have hs0 : (w.alloc (.cells #[.slice a n c, .int .i64 x, .bool s, .slice b A.length d, .slice e D.length f] 29)).heap.size = w.heap.size + 1 := by simp
  clear BW
  generalize hW : w.alloc (.cells #[.slice a n c, .int .i64 x, .bool s, .slice b A.length d, .slice e D.length f] 29) = w0 at B rK LK hs0
  have HW := hid hW
  clear hW
  by_cases hsK : (szU K : Int) + (A.length : Int) + (D.length : Int) ≤ 1048576
  case neg =>
    go_enter Tryz.func8, Tryz.ntmps8
    have q0 := LK.out.c 0 (v := .slice a n c) rfl
    have q1 := LK.out.c 1 (v := .int .i64 x) rfl
    have q2 := LK.out.c 2 (v := .bool s) rfl
    have q3 := LK.out.c 3 (v := .slice b A.length d) rfl
    have q4 := LK.out.c 4 (v := .slice e D.length f) rfl
    go_wp2_with fail
    rw [HW.out]
    (with_reducible refine (szRow_no _ _ _ x s _ _ _ _ _ _ _ K (1048576) hnK hmK hAK hDK (by omega) (by omega) (by omega) _ rK.out.t).mono ?_)
    clear q0 q1 q2 q3 q4
    rintro e w1 ⟨rfl, b1⟩
    have t1 : w0.heap.size ≤ w1.heap.size := by have := b1.size; omega
    have rK := hid (rK.out.old b1)
    have LK := hid (LK.out.old b1)
    have B := hid (B.out.trans (b1.mono B.out.size))
    clear b1
    go_wp2
    go_ret
    exact ⟨rfl, B.out⟩
  have hztK := szT_szU K
  have hSK : SmT K := SmT.of (by omega)
  have huK : szU K ≤ 1048576 := by omega
  have htK : szT K ≤ 2097152 := by omega
  have haK : A.length ≤ 1048576 := by omega
  have hdK : D.length ≤ 1048576 := by omega
  have hy0 : ¬ 1048576 - (szU K : Int) - (A.length : Int) - (D.length : Int) < 0 := by omega
  obtain ⟨RR, hRR⟩ : ∃ RR, RR = trivR K x s A D := ⟨_, rfl⟩
  have HRR := hid hRR
  clear hRR
  have KS := hid (fun (W : World) (t0 v0 u0 : Value) (g0 : RwW W t0 v0 u0 K A D) => (by
    have h := spec_RowTrivial x s hSK haK hdK W g0
    rw [← HRR.out] at h
    exact h : Calls Tryz.prog 37 #[.agg #[t0, .int .i64 x, .bool s, v0, u0]] W (RetB (.bool RR) W)))
  have KI := hid (fun (W : World) (t0 v0 u0 : Value) (g0 : RwW W t0 v0 u0 K A D) => (by
    have h := impl_RowTrivial x s hSK haK hdK W g0
    rw [← HRR.out] at h
    exact h : Calls Tryz.prog 38 #[.agg #[t0, .int .i64 x, .bool s, v0, u0]] W (RetB (.bool RR) W)))
  go_enter Tryz.func8, Tryz.ntmps8
  have q0 := LK.out.c 0 (v := .slice a n c) rfl
  have q1 := LK.out.c 1 (v := .int .i64 x) rfl
  have q2 := LK.out.c 2 (v := .bool s) rfl
  have q3 := LK.out.c 3 (v := .slice b A.length d) rfl
  have q4 := LK.out.c 4 (v := .slice e D.length f) rfl
  go_wp2_with fail
  rw [HW.out]
  (with_reducible refine (szRow_yes _ _ _ x s _ _ _ _ _ _ _ K (1048576) (by omega) (by omega) _ rK.out.t).mono ?_)
  clear q0 q1 q2 q3 q4
  rintro e w1 ⟨rfl, b1⟩
  have t1 : w0.heap.size ≤ w1.heap.size := by have := b1.size; omega
  have rK := hid (rK.out.old b1)
  have LK := hid (LK.out.old b1)
  have B := hid (B.out.trans (b1.mono B.out.size))
  clear b1
  have q0 := LK.out.c 0 (v := .slice a n c) rfl
  have q1 := LK.out.c 1 (v := .int .i64 x) rfl
  have q2 := LK.out.c 2 (v := .bool s) rfl
  have q3 := LK.out.c 3 (v := .slice b A.length d) rfl
  have q4 := LK.out.c 4 (v := .slice e D.length f) rfl
  go_wp2_with fail
  (with_reducible refine (toRow_came _ _ _ x s _ _ _ _ _ _ _ K A D huK haK hdK _ rK.out).mono ?_)
  clear q0 q1 q2 q3 q4
  rintro e w2 ⟨a2, c2, b2, d2, g2, f2, m2, rfl, i1, b1⟩
  have t2 : w1.heap.size ≤ w2.heap.size := by have := b1.size; omega
  have rK := hid (rK.out.old b1)
  have LK := hid (LK.out.old b1)
  have B := hid (B.out.trans (b1.mono B.out.size))
  have T0 := hid i1
  clear i1 b1
  go_wp2_with fail
  (with_reducible refine (KS.out _ _ _ _ T0.out.w).mono ?_)
  rintro e w3 ⟨rfl, b1⟩
  have t3 : w2.heap.size ≤ w3.heap.size := by have := b1.size; omega
  have rK := hid (rK.out.old b1)
  have LK := hid (LK.out.old b1)
  have T0 := hid (T0.out.old b1)
  have B := hid (B.out.trans (b1.mono B.out.size))
  clear b1
  have q0 := LK.out.c 0 (v := .slice a n c) rfl
  have q1 := LK.out.c 1 (v := .int .i64 x) rfl
  have q2 := LK.out.c 2 (v := .bool s) rfl
  have q3 := LK.out.c 3 (v := .slice b A.length d) rfl
  have q4 := LK.out.c 4 (v := .slice e D.length f) rfl
  go_wp2_with fail
  (with_reducible refine (toRow_came _ _ _ x s _ _ _ _ _ _ _ K A D huK haK hdK _ rK.out).mono ?_)
  clear q0 q1 q2 q3 q4
  rintro e w4 ⟨a4, c4, b4, d4, g4, f4, m4, rfl, i1, b1⟩
  have t4 : w3.heap.size ≤ w4.heap.size := by have := b1.size; omega
  have rK := hid (rK.out.old b1)
  have LK := hid (LK.out.old b1)
  have B := hid (B.out.trans (b1.mono B.out.size))
  have X0 := hid i1
  clear i1 b1
  have rK := hid (rK.out.old (below_new' (o := .cells #[.slice a4 K.length c4, .int .i64 x, .bool s, .slice b4 A.length d4, .slice g4 D.length f4] 39)))
  have LK := hid (LK.out.old (below_new' (o := .cells #[.slice a4 K.length c4, .int .i64 x, .bool s, .slice b4 A.length d4, .slice g4 D.length f4] 39)))
  have X0 := hid (X0.out.old (below_new' (o := .cells #[.slice a4 K.length c4, .int .i64 x, .bool s, .slice b4 A.length d4, .slice g4 D.length f4] 39)))
  have B := hid (B.out.alloc B.out.size (.cells #[.slice a4 K.length c4, .int .i64 x, .bool s, .slice b4 A.length d4, .slice g4 D.length f4] 39))
  have LX0 := hid (LocA.new (w := w4) (T := 39) (cs := #[.slice a4 K.length c4, .int .i64 x, .bool s, .slice b4 A.length d4, .slice g4 D.length f4]))
  have hs4 : (w4.alloc (.cells #[.slice a4 K.length c4, .int .i64 x, .bool s, .slice b4 A.length d4, .slice g4 D.length f4] 39)).heap.size = w4.heap.size + 1 := by simp
  have q0 := LX0.out.c 0 (v := .slice a4 K.length c4) rfl
  have q1 := LX0.out.c 1 (v := .int .i64 x) rfl
  have q2 := LX0.out.c 2 (v := .bool s) rfl
  have q3 := LX0.out.c 3 (v := .slice b4 A.length d4) rfl
  have q4 := LX0.out.c 4 (v := .slice g4 D.length f4) rfl
  go_wp2_with fail
  (with_reducible refine (KI.out _ _ _ _ X0.out.w).mono ?_)
  clear q0 q1 q2 q3 q4
  rintro e w5 ⟨rfl, b1⟩
  have t5 : w4.heap.size + 1 ≤ w5.heap.size := by have := b1.size; simp at this; omega
  have rK := hid (rK.out.old b1)
  have LK := hid (LK.out.old b1)
  have X0 := hid (X0.out.old b1)
  have LX0 := hid (LX0.out.old b1)
  have B := hid (B.out.trans (b1.mono B.out.size))
  clear b1
  have rK := hid (rK.out.old (Below_drew1 (Below.refl _ _)))
  have LK := hid (LK.out.old (Below_drew1 (Below.refl _ _)))
  have X0 := hid (X0.out.old (Below_drew1 (Below.refl _ _)))
  have LX0 := hid (LX0.out.old (Below_drew1 (Below.refl _ _)))
  have B := hid (Below_drew1 B.out)
  have q0 := LX0.out.c 0 (v := .slice a4 K.length c4) rfl
  have q1 := LX0.out.c 1 (v := .int .i64 x) rfl
  have q2 := LX0.out.c 2 (v := .bool s) rfl
  have q3 := LX0.out.c 3 (v := .slice b4 A.length d4) rfl
  have q4 := LX0.out.c 4 (v := .slice g4 D.length f4) rfl
  have q5 := LK.out.c 0 (v := .slice a n c) rfl
  have q6 := LK.out.c 1 (v := .int .i64 x) rfl
  have q7 := LK.out.c 2 (v := .bool s) rfl
  have q8 := LK.out.c 3 (v := .slice b A.length d) rfl
  have q9 := LK.out.c 4 (v := .slice e D.length f) rfl
  go_wp2_with fail
  go_region_held3 (fun w' => w'.cell? ⟨w4.heap.size, 0, none⟩ = some (.slice a4 K.length c4) ∧ w'.cell? ⟨w4.heap.size, 1, none⟩ = some (.int .i64 x) ∧ w'.cell? ⟨w4.heap.size, 2, none⟩ = some (.bool s) ∧ w'.cell? ⟨w4.heap.size, 3, none⟩ = some (.slice b4 A.length d4) ∧ w'.cell? ⟨w4.heap.size, 4, none⟩ = some (.slice g4 D.length f4) ∧ w'.cell? ⟨w.heap.size, 0, none⟩ = some (.slice a n c) ∧ w'.cell? ⟨w.heap.size, 1, none⟩ = some (.int .i64 x) ∧ w'.cell? ⟨w.heap.size, 2, none⟩ = some (.bool s) ∧ w'.cell? ⟨w.heap.size, 3, none⟩ = some (.slice b A.length d) ∧ w'.cell? ⟨w.heap.size, 4, none⟩ = some (.slice e D.length f)) (first | exact ⟨q0, q1, q2, q3, q4, q5, q6, q7, q8, q9⟩) (first | (go_at_call 16; (with_reducible refine (toRow_came _ _ _ x s _ _ _ _ _ _ _ K A D huK haK hdK _ rK.out).mono ?_); rintro e w6 ⟨a6, c6, b6, d6, g6, f6, m6, rfl, i1, b1⟩; have t6 : w5.heap.size ≤ w6.heap.size := (by have := b1.size; first | exact this | omega | (simp at this; omega)); have rK := hid (rK.out.old b1); have LK := hid (LK.out.old b1); have X0 := hid (X0.out.old b1); have LX0 := hid (LX0.out.old b1); have B := hid (B.out.trans (b1.mono B.out.size)); have q0 := LX0.out.c 0 (v := .slice a4 K.length c4) rfl; have q1 := LX0.out.c 1 (v := .int .i64 x) rfl; have q2 := LX0.out.c 2 (v := .bool s) rfl; have q3 := LX0.out.c 3 (v := .slice b4 A.length d4) rfl; have q4 := LX0.out.c 4 (v := .slice g4 D.length f4) rfl; have q5 := LK.out.c 0 (v := .slice a n c) rfl; have q6 := LK.out.c 1 (v := .int .i64 x) rfl; have q7 := LK.out.c 2 (v := .bool s) rfl; have q8 := LK.out.c 3 (v := .slice b A.length d) rfl; have q9 := LK.out.c 4 (v := .slice e D.length f) rfl; have T0 := hid i1; clear i1 b1) | (go_at_call 19; (with_reducible refine (eqRow_k x s (by omega) (by omega) (by omega) _ X0.out.w T0.out.w).mono ?_); rintro e w7 ⟨rfl, b1⟩; have t7 : w6.heap.size ≤ w7.heap.size := (by have := b1.size; first | exact this | omega | (simp at this; omega)); have rK := hid (rK.out.old b1); have LK := hid (LK.out.old b1); have X0 := hid (X0.out.old b1); have LX0 := hid (LX0.out.old b1); have T0 := hid (T0.out.old b1); have B := hid (B.out.trans (b1.mono B.out.size)); have q0 := LX0.out.c 0 (v := .slice a4 K.length c4) rfl; have q1 := LX0.out.c 1 (v := .int .i64 x) rfl; have q2 := LX0.out.c 2 (v := .bool s) rfl; have q3 := LX0.out.c 3 (v := .slice b4 A.length d4) rfl; have q4 := LX0.out.c 4 (v := .slice g4 D.length f4) rfl; have q5 := LK.out.c 0 (v := .slice a n c) rfl; have q6 := LK.out.c 1 (v := .int .i64 x) rfl; have q7 := LK.out.c 2 (v := .bool s) rfl; have q8 := LK.out.c 3 (v := .slice b A.length d) rfl; have q9 := LK.out.c 4 (v := .slice e D.length f) rfl; clear b1))
  clear q0 q1 q2 q3 q4 q5 q6 q7 q8 q9
  go_wp2
  go_ret
  exact ⟨rfl, B.out⟩
end Go.Proofs.YthkehmnodcmlcaaGreat
