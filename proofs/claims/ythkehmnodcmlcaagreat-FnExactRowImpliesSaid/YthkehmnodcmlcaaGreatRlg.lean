import Derived.Test.YthkehmnodcmlcaaGreatRwf
import Derived.Deep.RegionHeld3
import Derived.Deep.DeepCutAuto
set_option maxRecDepth 100000
set_option maxHeartbeats 25600000
set_option linter.unusedVariables false
set_option linter.unusedSimpArgs false
namespace Go.Proofs.YthkehmnodcmlcaaGreat
open Go.RowKit
open Go.Lib (hid)
theorem law_RowImplies (a : Option Addr) (n c : Nat) (K : List Tq) (x : Int) (s : Bool) (b : Option Addr) (m d : Nat) (A : List Int) (e : Option Addr) (k f : Nat) (D : List Int) (hnK : n ≤ maxLen) (hmK : ∀ f ∈ K, f.A.length ≤ maxLen ∧ f.D.length ≤ maxLen) (hAK : m ≤ maxLen) (hDK : k ≤ maxLen) (a' : Option Addr) (n' c' : Nat) (L : List Tq) (y : Int) (t : Bool) (b' : Option Addr) (m' d' : Nat) (A' : List Int) (e' : Option Addr) (k' f' : Nat) (D' : List Int) (hnL : n' ≤ maxLen) (hmL : ∀ f ∈ L, f.A.length ≤ maxLen ∧ f.D.length ≤ maxLen) (hAL : m' ≤ maxLen) (hDL : k' ≤ maxLen) (w : World) (rK : WCame w w.heap.size a n K b m A e k D) (rL : WCame w w.heap.size a' n' L b' m' A' e' k' D') :
  Calls Tryz.prog 9 #[.agg #[.slice a n c, .int .i64 x, .bool s, .slice b m d, .slice e k f], .agg #[.slice a' n' c', .int .i64 y, .bool t, .slice b' m' d', .slice e' k' f']] w (RetB (.bool true) w) := by
 obtain rfl := rK.r.x.1
 obtain rfl := rK.r.y.1
 obtain rfl := rL.r.x.1
 obtain rfl := rL.r.y.1
 have BW := below_new2 (w := w) (o := .cells #[.slice a n c, .int .i64 x, .bool s, .slice b A.length d, .slice e D.length f] 29) (o' := .cells #[.slice a' n' c', .int .i64 y, .bool t, .slice b' A'.length d', .slice e' D'.length f'] 29)
 have B := hid BW
 have rK := hid (rK.old BW)
 have rL := hid (rL.old BW)
 have LK := hid ((LocA.at (T := 29) (w := w) (b := w.heap.size) (cs := #[.slice a n c, .int .i64 x, .bool s, .slice b A.length d, .slice e D.length f]) rfl).new1 (o := .cells #[.slice a' n' c', .int .i64 y, .bool t, .slice b' A'.length d', .slice e' D'.length f'] 29))
 have LL := hid (LocA.at (T := 29) (w := w.alloc (.cells #[.slice a n c, .int .i64 x, .bool s, .slice b A.length d, .slice e D.length f] 29)) (b := w.heap.size + 1) (cs := #[.slice a' n' c', .int .i64 y, .bool t, .slice b' A'.length d', .slice e' D'.length f']) (by simp))
 have hs0 : ((w.alloc (.cells #[.slice a n c, .int .i64 x, .bool s, .slice b A.length d, .slice e D.length f] 29)).alloc (.cells #[.slice a' n' c', .int .i64 y, .bool t, .slice b' A'.length d', .slice e' D'.length f'] 29)).heap.size = w.heap.size + 1 + 1 := by simp
 clear BW
 generalize hW : (w.alloc (.cells #[.slice a n c, .int .i64 x, .bool s, .slice b A.length d, .slice e D.length f] 29)).alloc (.cells #[.slice a' n' c', .int .i64 y, .bool t, .slice b' A'.length d', .slice e' D'.length f'] 29) = w0 at B rK rL LK LL hs0
 have HW := hid hW
 clear hW
 by_cases hsK : (szU K : Int) + (A.length : Int) + (D.length : Int) ≤ 1048576
 case neg =>
  go_enter Tryz.func9, Tryz.ntmps9
  have q0 := LK.out.c 0 (v := .slice a n c) rfl
  have q1 := LK.out.c 1 (v := .int .i64 x) rfl
  have q2 := LK.out.c 2 (v := .bool s) rfl
  have q3 := LK.out.c 3 (v := .slice b A.length d) rfl
  have q4 := LK.out.c 4 (v := .slice e D.length f) rfl
  go_wp2_with fail
  rw [HW.out]
  (with_reducible refine (szRow_no _ _ _ x s _ _ _ _ _ _ _ K (1048576) hnK hmK hAK hDK (by omega) (by omega) (by omega) _ rK.out.t).mono ?_)
  clear q0 q1 q2 q3 q4
  rintro e w1 ⟨rfl, b1⟩
  have t1 : w0.heap.size ≤ w1.heap.size := by have := b1.size; omega
  have rK := hid (rK.out.old b1)
  have rL := hid (rL.out.old b1)
  have LK := hid (LK.out.old b1)
  have LL := hid (LL.out.old b1)
  have B := hid (B.out.trans (b1.mono B.out.size))
  clear b1
  go_wp2
  go_ret
  exact ⟨rfl, B.out⟩
 by_cases hsL : (szU L : Int) + (A'.length : Int) + (D'.length : Int) ≤ 1048576 - (szU K : Int) - (A.length : Int) - (D.length : Int)
 case neg =>
  go_enter Tryz.func9, Tryz.ntmps9
  have q0 := LK.out.c 0 (v := .slice a n c) rfl
  have q1 := LK.out.c 1 (v := .int .i64 x) rfl
  have q2 := LK.out.c 2 (v := .bool s) rfl
  have q3 := LK.out.c 3 (v := .slice b A.length d) rfl
  have q4 := LK.out.c 4 (v := .slice e D.length f) rfl
  go_wp2_with fail
  rw [HW.out]
  (with_reducible refine (szRow_yes _ _ _ x s _ _ _ _ _ _ _ K (1048576) (by omega) (by omega) _ rK.out.t).mono ?_)
  clear q0 q1 q2 q3 q4
  rintro e w1 ⟨rfl, b1⟩
  have t1 : w0.heap.size ≤ w1.heap.size := by have := b1.size; omega
  have rK := hid (rK.out.old b1)
  have rL := hid (rL.out.old b1)
  have LK := hid (LK.out.old b1)
  have LL := hid (LL.out.old b1)
  have B := hid (B.out.trans (b1.mono B.out.size))
  clear b1
  have q0 := LL.out.c 0 (v := .slice a' n' c') rfl
  have q1 := LL.out.c 1 (v := .int .i64 y) rfl
  have q2 := LL.out.c 2 (v := .bool t) rfl
  have q3 := LL.out.c 3 (v := .slice b' A'.length d') rfl
  have q4 := LL.out.c 4 (v := .slice e' D'.length f') rfl
  go_wp2_with fail
  (with_reducible refine (szRow_no _ _ _ y t _ _ _ _ _ _ _ L (1048576 - (szU K : Int) - (A.length : Int) - (D.length : Int)) hnL hmL hAL hDL (by omega) (by omega) (by omega) _ rL.out.t).mono ?_)
  clear q0 q1 q2 q3 q4
  rintro e w2 ⟨rfl, b1⟩
  have t2 : w1.heap.size ≤ w2.heap.size := by have := b1.size; omega
  have rK := hid (rK.out.old b1)
  have rL := hid (rL.out.old b1)
  have LK := hid (LK.out.old b1)
  have LL := hid (LL.out.old b1)
  have B := hid (B.out.trans (b1.mono B.out.size))
  clear b1
  go_wp2
  go_ret
  exact ⟨rfl, B.out⟩
 have hztK := szT_szU K
 have hSK : SmT K := SmT.of (by omega)
 have huK : szU K ≤ 1048576 := by omega
 have htK : szT K ≤ 2097152 := by omega
 have haK : A.length ≤ 1048576 := by omega
 have hdK : D.length ≤ 1048576 := by omega
 have hztL := szT_szU L
 have hSL : SmT L := SmT.of (by omega)
 have huL : szU L ≤ 1048576 := by omega
 have htL : szT L ≤ 2097152 := by omega
 have haL : A'.length ≤ 1048576 := by omega
 have hdL : D'.length ≤ 1048576 := by omega
 have hy0 : ¬ 1048576 - (szU K : Int) - (A.length : Int) - (D.length : Int) < 0 := by omega
 have hy1 : ¬ 1048576 - (szU K : Int) - (A.length : Int) - (D.length : Int) - (szU L : Int) - (A'.length : Int) - (D'.length : Int) < 0 := by omega
 obtain ⟨RR, hRR⟩ : ∃ RR, RR = impR K x s A D L y t A' D' := ⟨_, rfl⟩
 have HRR := hid hRR
 clear hRR
 have KS := hid (fun (W : World) (t0 v0 u0 : Value) (g0 : RwW W t0 v0 u0 K A D) (t1 v1 u1 : Value) (g1 : RwW W t1 v1 u1 L A' D') => (by
  have h := spec_RowImplies x y s t hSK hSL haK hdK haL hdL W g0 g1
  rw [← HRR.out] at h
  exact h : Calls Tryz.prog 39 #[.agg #[t0, .int .i64 x, .bool s, v0, u0], .agg #[t1, .int .i64 y, .bool t, v1, u1]] W (RetB (.bool RR) W)))
 have KI := hid (fun (W : World) (t0 v0 u0 : Value) (g0 : RwW W t0 v0 u0 K A D) (t1 v1 u1 : Value) (g1 : RwW W t1 v1 u1 L A' D') => (by
  have h := impl_RowImplies x y s t hSK hSL haK hdK haL hdL W g0 g1
  rw [← HRR.out] at h
  exact h : Calls Tryz.prog 40 #[.agg #[t0, .int .i64 x, .bool s, v0, u0], .agg #[t1, .int .i64 y, .bool t, v1, u1]] W (RetB (.bool RR) W)))
 go_enter Tryz.func9, Tryz.ntmps9
 have q0 := LK.out.c 0 (v := .slice a n c) rfl
 have q1 := LK.out.c 1 (v := .int .i64 x) rfl
 have q2 := LK.out.c 2 (v := .bool s) rfl
 have q3 := LK.out.c 3 (v := .slice b A.length d) rfl
 have q4 := LK.out.c 4 (v := .slice e D.length f) rfl
 go_wp2_with fail
 rw [HW.out]
 (with_reducible refine (szRow_yes _ _ _ x s _ _ _ _ _ _ _ K (1048576) (by omega) (by omega) _ rK.out.t).mono ?_)
 clear q0 q1 q2 q3 q4
 rintro e w1 ⟨rfl, b1⟩
 have t1 : w0.heap.size ≤ w1.heap.size := by have := b1.size; omega
 have rK := hid (rK.out.old b1)
 have rL := hid (rL.out.old b1)
 have LK := hid (LK.out.old b1)
 have LL := hid (LL.out.old b1)
 have B := hid (B.out.trans (b1.mono B.out.size))
 clear b1
 have q0 := LL.out.c 0 (v := .slice a' n' c') rfl
 have q1 := LL.out.c 1 (v := .int .i64 y) rfl
 have q2 := LL.out.c 2 (v := .bool t) rfl
 have q3 := LL.out.c 3 (v := .slice b' A'.length d') rfl
 have q4 := LL.out.c 4 (v := .slice e' D'.length f') rfl
 go_wp2_with fail
 (with_reducible refine (szRow_yes _ _ _ y t _ _ _ _ _ _ _ L (1048576 - (szU K : Int) - (A.length : Int) - (D.length : Int)) (by omega) (by omega) _ rL.out.t).mono ?_)
 clear q0 q1 q2 q3 q4
 rintro e w2 ⟨rfl, b1⟩
 have t2 : w1.heap.size ≤ w2.heap.size := by have := b1.size; omega
 have rK := hid (rK.out.old b1)
 have rL := hid (rL.out.old b1)
 have LK := hid (LK.out.old b1)
 have LL := hid (LL.out.old b1)
 have B := hid (B.out.trans (b1.mono B.out.size))
 clear b1
 have rK := hid (rK.out.old (Below_drew1 (Below.refl _ _)))
 have rL := hid (rL.out.old (Below_drew1 (Below.refl _ _)))
 have LK := hid (LK.out.old (Below_drew1 (Below.refl _ _)))
 have LL := hid (LL.out.old (Below_drew1 (Below.refl _ _)))
 have B := hid (Below_drew1 B.out)
 have q0 := LK.out.c 0 (v := .slice a n c) rfl
 have q1 := LK.out.c 1 (v := .int .i64 x) rfl
 have q2 := LK.out.c 2 (v := .bool s) rfl
 have q3 := LK.out.c 3 (v := .slice b A.length d) rfl
 have q4 := LK.out.c 4 (v := .slice e D.length f) rfl
 have q5 := LL.out.c 0 (v := .slice a' n' c') rfl
 have q6 := LL.out.c 1 (v := .int .i64 y) rfl
 have q7 := LL.out.c 2 (v := .bool t) rfl
 have q8 := LL.out.c 3 (v := .slice b' A'.length d') rfl
 have q9 := LL.out.c 4 (v := .slice e' D'.length f') rfl
 go_wp2_with fail
 go_region_held3 (fun w' => w'.cell? ⟨w.heap.size, 0, none⟩ = some (.slice a n c) ∧ w'.cell? ⟨w.heap.size, 1, none⟩ = some (.int .i64 x) ∧ w'.cell? ⟨w.heap.size, 2, none⟩ = some (.bool s) ∧ w'.cell? ⟨w.heap.size, 3, none⟩ = some (.slice b A.length d) ∧ w'.cell? ⟨w.heap.size, 4, none⟩ = some (.slice e D.length f) ∧ w'.cell? ⟨w.heap.size + 1, 0, none⟩ = some (.slice a' n' c') ∧ w'.cell? ⟨w.heap.size + 1, 1, none⟩ = some (.int .i64 y) ∧ w'.cell? ⟨w.heap.size + 1, 2, none⟩ = some (.bool t) ∧ w'.cell? ⟨w.heap.size + 1, 3, none⟩ = some (.slice b' A'.length d') ∧ w'.cell? ⟨w.heap.size + 1, 4, none⟩ = some (.slice e' D'.length f')) (first | exact ⟨q0, q1, q2, q3, q4, q5, q6, q7, q8, q9⟩) (first | (go_at_call 16; (with_reducible refine (toRow_came _ _ _ x s _ _ _ _ _ _ _ K A D huK haK hdK _ rK.out).mono ?_); rintro e w3 ⟨a3, c3, b3, d3, g3, f3, m3, rfl, i1, b1⟩; have t3 : w2.heap.size ≤ w3.heap.size := (by have := b1.size; first | exact this | omega | (simp at this; omega)); have rK := hid (rK.out.old b1); have rL := hid (rL.out.old b1); have LK := hid (LK.out.old b1); have LL := hid (LL.out.old b1); have B := hid (B.out.trans (b1.mono B.out.size)); have q0 := LK.out.c 0 (v := .slice a n c) rfl; have q1 := LK.out.c 1 (v := .int .i64 x) rfl; have q2 := LK.out.c 2 (v := .bool s) rfl; have q3 := LK.out.c 3 (v := .slice b A.length d) rfl; have q4 := LK.out.c 4 (v := .slice e D.length f) rfl; have q5 := LL.out.c 0 (v := .slice a' n' c') rfl; have q6 := LL.out.c 1 (v := .int .i64 y) rfl; have q7 := LL.out.c 2 (v := .bool t) rfl; have q8 := LL.out.c 3 (v := .slice b' A'.length d') rfl; have q9 := LL.out.c 4 (v := .slice e' D'.length f') rfl; have T0 := hid i1; clear i1 b1) | (go_at_call 16; (with_reducible refine (toRow_came _ _ _ y t _ _ _ _ _ _ _ L A' D' huL haL hdL _ rL.out).mono ?_); rintro e w4 ⟨a4, c4, b4, d4, g4, f4, m4, rfl, i1, b1⟩; have t4 : w3.heap.size ≤ w4.heap.size := (by have := b1.size; first | exact this | omega | (simp at this; omega)); have rK := hid (rK.out.old b1); have rL := hid (rL.out.old b1); have LK := hid (LK.out.old b1); have LL := hid (LL.out.old b1); have T0 := hid (T0.out.old b1); have B := hid (B.out.trans (b1.mono B.out.size)); have q0 := LK.out.c 0 (v := .slice a n c) rfl; have q1 := LK.out.c 1 (v := .int .i64 x) rfl; have q2 := LK.out.c 2 (v := .bool s) rfl; have q3 := LK.out.c 3 (v := .slice b A.length d) rfl; have q4 := LK.out.c 4 (v := .slice e D.length f) rfl; have q5 := LL.out.c 0 (v := .slice a' n' c') rfl; have q6 := LL.out.c 1 (v := .int .i64 y) rfl; have q7 := LL.out.c 2 (v := .bool t) rfl; have q8 := LL.out.c 3 (v := .slice b' A'.length d') rfl; have q9 := LL.out.c 4 (v := .slice e' D'.length f') rfl; have T1 := hid i1; clear i1 b1) | (go_at_call 39; (with_reducible refine (KS.out _ _ _ _ T0.out.w _ _ _ T1.out.w).mono ?_); rintro e w5 ⟨rfl, b1⟩; have t5 : w4.heap.size ≤ w5.heap.size := (by have := b1.size; first | exact this | omega | (simp at this; omega)); have rK := hid (rK.out.old b1); have rL := hid (rL.out.old b1); have LK := hid (LK.out.old b1); have LL := hid (LL.out.old b1); have T0 := hid (T0.out.old b1); have T1 := hid (T1.out.old b1); have B := hid (B.out.trans (b1.mono B.out.size)); have q0 := LK.out.c 0 (v := .slice a n c) rfl; have q1 := LK.out.c 1 (v := .int .i64 x) rfl; have q2 := LK.out.c 2 (v := .bool s) rfl; have q3 := LK.out.c 3 (v := .slice b A.length d) rfl; have q4 := LK.out.c 4 (v := .slice e D.length f) rfl; have q5 := LL.out.c 0 (v := .slice a' n' c') rfl; have q6 := LL.out.c 1 (v := .int .i64 y) rfl; have q7 := LL.out.c 2 (v := .bool t) rfl; have q8 := LL.out.c 3 (v := .slice b' A'.length d') rfl; have q9 := LL.out.c 4 (v := .slice e' D'.length f') rfl; clear b1))
 clear q0 q1 q2 q3 q4 q5 q6 q7 q8 q9
 have q0 := LK.out.c 0 (v := .slice a n c) rfl
 have q1 := LK.out.c 1 (v := .int .i64 x) rfl
 have q2 := LK.out.c 2 (v := .bool s) rfl
 have q3 := LK.out.c 3 (v := .slice b A.length d) rfl
 have q4 := LK.out.c 4 (v := .slice e D.length f) rfl
 go_wp2_with fail
 (with_reducible refine (toRow_came _ _ _ x s _ _ _ _ _ _ _ K A D huK haK hdK _ rK.out).mono ?_)
 clear q0 q1 q2 q3 q4
 rintro e w6 ⟨a6, c6, b6, d6, g6, f6, m6, rfl, i1, b1⟩
 have t6 : w5.heap.size ≤ w6.heap.size := by have := b1.size; omega
 have rK := hid (rK.out.old b1)
 have rL := hid (rL.out.old b1)
 have LK := hid (LK.out.old b1)
 have LL := hid (LL.out.old b1)
 have B := hid (B.out.trans (b1.mono B.out.size))
 have X0 := hid i1
 clear i1 b1
 have rK := hid (rK.out.old (below_new' (o := .cells #[.slice a6 K.length c6, .int .i64 x, .bool s, .slice b6 A.length d6, .slice g6 D.length f6] 39)))
 have rL := hid (rL.out.old (below_new' (o := .cells #[.slice a6 K.length c6, .int .i64 x, .bool s, .slice b6 A.length d6, .slice g6 D.length f6] 39)))
 have LK := hid (LK.out.old (below_new' (o := .cells #[.slice a6 K.length c6, .int .i64 x, .bool s, .slice b6 A.length d6, .slice g6 D.length f6] 39)))
 have LL := hid (LL.out.old (below_new' (o := .cells #[.slice a6 K.length c6, .int .i64 x, .bool s, .slice b6 A.length d6, .slice g6 D.length f6] 39)))
 have X0 := hid (X0.out.old (below_new' (o := .cells #[.slice a6 K.length c6, .int .i64 x, .bool s, .slice b6 A.length d6, .slice g6 D.length f6] 39)))
 have B := hid (B.out.alloc B.out.size (.cells #[.slice a6 K.length c6, .int .i64 x, .bool s, .slice b6 A.length d6, .slice g6 D.length f6] 39))
 have LX0 := hid (LocA.new (w := w6) (T := 39) (cs := #[.slice a6 K.length c6, .int .i64 x, .bool s, .slice b6 A.length d6, .slice g6 D.length f6]))
 have hs6 : (w6.alloc (.cells #[.slice a6 K.length c6, .int .i64 x, .bool s, .slice b6 A.length d6, .slice g6 D.length f6] 39)).heap.size = w6.heap.size + 1 := by simp
 have q0 := LL.out.c 0 (v := .slice a' n' c') rfl
 have q1 := LL.out.c 1 (v := .int .i64 y) rfl
 have q2 := LL.out.c 2 (v := .bool t) rfl
 have q3 := LL.out.c 3 (v := .slice b' A'.length d') rfl
 have q4 := LL.out.c 4 (v := .slice e' D'.length f') rfl
 go_wp2_with fail
 (with_reducible refine (toRow_came _ _ _ y t _ _ _ _ _ _ _ L A' D' huL haL hdL _ rL.out).mono ?_)
 clear q0 q1 q2 q3 q4
 rintro e w7 ⟨a7, c7, b7, d7, g7, f7, m7, rfl, i1, b1⟩
 have t7 : w6.heap.size + 1 ≤ w7.heap.size := by have := b1.size; simp at this; omega
 have rK := hid (rK.out.old b1)
 have rL := hid (rL.out.old b1)
 have LK := hid (LK.out.old b1)
 have LL := hid (LL.out.old b1)
 have X0 := hid (X0.out.old b1)
 have LX0 := hid (LX0.out.old b1)
 have B := hid (B.out.trans (b1.mono B.out.size))
 have X1 := hid i1
 clear i1 b1
 have rK := hid (rK.out.old (below_new' (o := .cells #[.slice a7 L.length c7, .int .i64 y, .bool t, .slice b7 A'.length d7, .slice g7 D'.length f7] 39)))
 have rL := hid (rL.out.old (below_new' (o := .cells #[.slice a7 L.length c7, .int .i64 y, .bool t, .slice b7 A'.length d7, .slice g7 D'.length f7] 39)))
 have LK := hid (LK.out.old (below_new' (o := .cells #[.slice a7 L.length c7, .int .i64 y, .bool t, .slice b7 A'.length d7, .slice g7 D'.length f7] 39)))
 have LL := hid (LL.out.old (below_new' (o := .cells #[.slice a7 L.length c7, .int .i64 y, .bool t, .slice b7 A'.length d7, .slice g7 D'.length f7] 39)))
 have X0 := hid (X0.out.old (below_new' (o := .cells #[.slice a7 L.length c7, .int .i64 y, .bool t, .slice b7 A'.length d7, .slice g7 D'.length f7] 39)))
 have LX0 := hid (LX0.out.old (below_new' (o := .cells #[.slice a7 L.length c7, .int .i64 y, .bool t, .slice b7 A'.length d7, .slice g7 D'.length f7] 39)))
 have X1 := hid (X1.out.old (below_new' (o := .cells #[.slice a7 L.length c7, .int .i64 y, .bool t, .slice b7 A'.length d7, .slice g7 D'.length f7] 39)))
 have B := hid (B.out.alloc B.out.size (.cells #[.slice a7 L.length c7, .int .i64 y, .bool t, .slice b7 A'.length d7, .slice g7 D'.length f7] 39))
 have LX1 := hid (LocA.new (w := w7) (T := 39) (cs := #[.slice a7 L.length c7, .int .i64 y, .bool t, .slice b7 A'.length d7, .slice g7 D'.length f7]))
 have hs7 : (w7.alloc (.cells #[.slice a7 L.length c7, .int .i64 y, .bool t, .slice b7 A'.length d7, .slice g7 D'.length f7] 39)).heap.size = w7.heap.size + 1 := by simp
 have q0 := LX0.out.c 0 (v := .slice a6 K.length c6) rfl
 have q1 := LX0.out.c 1 (v := .int .i64 x) rfl
 have q2 := LX0.out.c 2 (v := .bool s) rfl
 have q3 := LX0.out.c 3 (v := .slice b6 A.length d6) rfl
 have q4 := LX0.out.c 4 (v := .slice g6 D.length f6) rfl
 have q5 := LX1.out.c 0 (v := .slice a7 L.length c7) rfl
 have q6 := LX1.out.c 1 (v := .int .i64 y) rfl
 have q7 := LX1.out.c 2 (v := .bool t) rfl
 have q8 := LX1.out.c 3 (v := .slice b7 A'.length d7) rfl
 have q9 := LX1.out.c 4 (v := .slice g7 D'.length f7) rfl
 go_wp2_with fail
 (with_reducible refine (KI.out _ _ _ _ X0.out.w _ _ _ X1.out.w).mono ?_)
 clear q0 q1 q2 q3 q4 q5 q6 q7 q8 q9
 rintro e w8 ⟨rfl, b1⟩
 have t8 : w7.heap.size + 1 ≤ w8.heap.size := by have := b1.size; simp at this; omega
 have rK := hid (rK.out.old b1)
 have rL := hid (rL.out.old b1)
 have LK := hid (LK.out.old b1)
 have LL := hid (LL.out.old b1)
 have X0 := hid (X0.out.old b1)
 have LX0 := hid (LX0.out.old b1)
 have X1 := hid (X1.out.old b1)
 have LX1 := hid (LX1.out.old b1)
 have B := hid (B.out.trans (b1.mono B.out.size))
 clear b1
 have rK := hid (rK.out.old (Below_drew1 (Below.refl _ _)))
 have rL := hid (rL.out.old (Below_drew1 (Below.refl _ _)))
 have LK := hid (LK.out.old (Below_drew1 (Below.refl _ _)))
 have LL := hid (LL.out.old (Below_drew1 (Below.refl _ _)))
 have X0 := hid (X0.out.old (Below_drew1 (Below.refl _ _)))
 have LX0 := hid (LX0.out.old (Below_drew1 (Below.refl _ _)))
 have X1 := hid (X1.out.old (Below_drew1 (Below.refl _ _)))
 have LX1 := hid (LX1.out.old (Below_drew1 (Below.refl _ _)))
 have B := hid (Below_drew1 B.out)
 have q0 := LX0.out.c 0 (v := .slice a6 K.length c6) rfl
 have q1 := LX0.out.c 1 (v := .int .i64 x) rfl
 have q2 := LX0.out.c 2 (v := .bool s) rfl
 have q3 := LX0.out.c 3 (v := .slice b6 A.length d6) rfl
 have q4 := LX0.out.c 4 (v := .slice g6 D.length f6) rfl
 have q5 := LK.out.c 0 (v := .slice a n c) rfl
 have q6 := LK.out.c 1 (v := .int .i64 x) rfl
 have q7 := LK.out.c 2 (v := .bool s) rfl
 have q8 := LK.out.c 3 (v := .slice b A.length d) rfl
 have q9 := LK.out.c 4 (v := .slice e D.length f) rfl
 go_wp2_with fail
 go_region_held3 (fun w' => w'.cell? ⟨w6.heap.size, 0, none⟩ = some (.slice a6 K.length c6) ∧ w'.cell? ⟨w6.heap.size, 1, none⟩ = some (.int .i64 x) ∧ w'.cell? ⟨w6.heap.size, 2, none⟩ = some (.bool s) ∧ w'.cell? ⟨w6.heap.size, 3, none⟩ = some (.slice b6 A.length d6) ∧ w'.cell? ⟨w6.heap.size, 4, none⟩ = some (.slice g6 D.length f6) ∧ w'.cell? ⟨w.heap.size, 0, none⟩ = some (.slice a n c) ∧ w'.cell? ⟨w.heap.size, 1, none⟩ = some (.int .i64 x) ∧ w'.cell? ⟨w.heap.size, 2, none⟩ = some (.bool s) ∧ w'.cell? ⟨w.heap.size, 3, none⟩ = some (.slice b A.length d) ∧ w'.cell? ⟨w.heap.size, 4, none⟩ = some (.slice e D.length f)) (first | exact ⟨q0, q1, q2, q3, q4, q5, q6, q7, q8, q9⟩) (first | (go_at_call 16; (with_reducible refine (toRow_came _ _ _ x s _ _ _ _ _ _ _ K A D huK haK hdK _ rK.out).mono ?_); rintro e w9 ⟨a9, c9, b9, d9, g9, f9, m9, rfl, i1, b1⟩; have t9 : w8.heap.size ≤ w9.heap.size := (by have := b1.size; first | exact this | omega | (simp at this; omega)); have rK := hid (rK.out.old b1); have rL := hid (rL.out.old b1); have LK := hid (LK.out.old b1); have LL := hid (LL.out.old b1); have X0 := hid (X0.out.old b1); have LX0 := hid (LX0.out.old b1); have X1 := hid (X1.out.old b1); have LX1 := hid (LX1.out.old b1); have B := hid (B.out.trans (b1.mono B.out.size)); have q0 := LX0.out.c 0 (v := .slice a6 K.length c6) rfl; have q1 := LX0.out.c 1 (v := .int .i64 x) rfl; have q2 := LX0.out.c 2 (v := .bool s) rfl; have q3 := LX0.out.c 3 (v := .slice b6 A.length d6) rfl; have q4 := LX0.out.c 4 (v := .slice g6 D.length f6) rfl; have q5 := LK.out.c 0 (v := .slice a n c) rfl; have q6 := LK.out.c 1 (v := .int .i64 x) rfl; have q7 := LK.out.c 2 (v := .bool s) rfl; have q8 := LK.out.c 3 (v := .slice b A.length d) rfl; have q9 := LK.out.c 4 (v := .slice e D.length f) rfl; have T0 := hid i1; clear i1 b1) | (go_at_call 19; (with_reducible refine (eqRow_k x s (by omega) (by omega) (by omega) _ X0.out.w T0.out.w).mono ?_); rintro e w10 ⟨rfl, b1⟩; have t10 : w9.heap.size ≤ w10.heap.size := (by have := b1.size; first | exact this | omega | (simp at this; omega)); have rK := hid (rK.out.old b1); have rL := hid (rL.out.old b1); have LK := hid (LK.out.old b1); have LL := hid (LL.out.old b1); have X0 := hid (X0.out.old b1); have LX0 := hid (LX0.out.old b1); have X1 := hid (X1.out.old b1); have LX1 := hid (LX1.out.old b1); have T0 := hid (T0.out.old b1); have B := hid (B.out.trans (b1.mono B.out.size)); have q0 := LX0.out.c 0 (v := .slice a6 K.length c6) rfl; have q1 := LX0.out.c 1 (v := .int .i64 x) rfl; have q2 := LX0.out.c 2 (v := .bool s) rfl; have q3 := LX0.out.c 3 (v := .slice b6 A.length d6) rfl; have q4 := LX0.out.c 4 (v := .slice g6 D.length f6) rfl; have q5 := LK.out.c 0 (v := .slice a n c) rfl; have q6 := LK.out.c 1 (v := .int .i64 x) rfl; have q7 := LK.out.c 2 (v := .bool s) rfl; have q8 := LK.out.c 3 (v := .slice b A.length d) rfl; have q9 := LK.out.c 4 (v := .slice e D.length f) rfl; clear b1))
 clear q0 q1 q2 q3 q4 q5 q6 q7 q8 q9
 have rK := hid (rK.out.old (Below_drew1 (Below.refl _ _)))
 have rL := hid (rL.out.old (Below_drew1 (Below.refl _ _)))
 have LK := hid (LK.out.old (Below_drew1 (Below.refl _ _)))
 have LL := hid (LL.out.old (Below_drew1 (Below.refl _ _)))
 have X0 := hid (X0.out.old (Below_drew1 (Below.refl _ _)))
 have LX0 := hid (LX0.out.old (Below_drew1 (Below.refl _ _)))
 have X1 := hid (X1.out.old (Below_drew1 (Below.refl _ _)))
 have LX1 := hid (LX1.out.old (Below_drew1 (Below.refl _ _)))
 have B := hid (Below_drew1 B.out)
 have q0 := LX1.out.c 0 (v := .slice a7 L.length c7) rfl
 have q1 := LX1.out.c 1 (v := .int .i64 y) rfl
 have q2 := LX1.out.c 2 (v := .bool t) rfl
 have q3 := LX1.out.c 3 (v := .slice b7 A'.length d7) rfl
 have q4 := LX1.out.c 4 (v := .slice g7 D'.length f7) rfl
 have q5 := LL.out.c 0 (v := .slice a' n' c') rfl
 have q6 := LL.out.c 1 (v := .int .i64 y) rfl
 have q7 := LL.out.c 2 (v := .bool t) rfl
 have q8 := LL.out.c 3 (v := .slice b' A'.length d') rfl
 have q9 := LL.out.c 4 (v := .slice e' D'.length f') rfl
 go_wp2_with fail
 go_region_held3 (fun w' => w'.cell? ⟨w7.heap.size, 0, none⟩ = some (.slice a7 L.length c7) ∧ w'.cell? ⟨w7.heap.size, 1, none⟩ = some (.int .i64 y) ∧ w'.cell? ⟨w7.heap.size, 2, none⟩ = some (.bool t) ∧ w'.cell? ⟨w7.heap.size, 3, none⟩ = some (.slice b7 A'.length d7) ∧ w'.cell? ⟨w7.heap.size, 4, none⟩ = some (.slice g7 D'.length f7) ∧ w'.cell? ⟨w.heap.size + 1, 0, none⟩ = some (.slice a' n' c') ∧ w'.cell? ⟨w.heap.size + 1, 1, none⟩ = some (.int .i64 y) ∧ w'.cell? ⟨w.heap.size + 1, 2, none⟩ = some (.bool t) ∧ w'.cell? ⟨w.heap.size + 1, 3, none⟩ = some (.slice b' A'.length d') ∧ w'.cell? ⟨w.heap.size + 1, 4, none⟩ = some (.slice e' D'.length f')) (first | exact ⟨q0, q1, q2, q3, q4, q5, q6, q7, q8, q9⟩) (first | (go_at_call 16; (with_reducible refine (toRow_came _ _ _ y t _ _ _ _ _ _ _ L A' D' huL haL hdL _ rL.out).mono ?_); rintro e w11 ⟨a11, c11, b11, d11, g11, f11, m11, rfl, i1, b1⟩; have t11 : w10.heap.size ≤ w11.heap.size := (by have := b1.size; first | exact this | omega | (simp at this; omega)); have rK := hid (rK.out.old b1); have rL := hid (rL.out.old b1); have LK := hid (LK.out.old b1); have LL := hid (LL.out.old b1); have X0 := hid (X0.out.old b1); have LX0 := hid (LX0.out.old b1); have X1 := hid (X1.out.old b1); have LX1 := hid (LX1.out.old b1); have B := hid (B.out.trans (b1.mono B.out.size)); have q0 := LX1.out.c 0 (v := .slice a7 L.length c7) rfl; have q1 := LX1.out.c 1 (v := .int .i64 y) rfl; have q2 := LX1.out.c 2 (v := .bool t) rfl; have q3 := LX1.out.c 3 (v := .slice b7 A'.length d7) rfl; have q4 := LX1.out.c 4 (v := .slice g7 D'.length f7) rfl; have q5 := LL.out.c 0 (v := .slice a' n' c') rfl; have q6 := LL.out.c 1 (v := .int .i64 y) rfl; have q7 := LL.out.c 2 (v := .bool t) rfl; have q8 := LL.out.c 3 (v := .slice b' A'.length d') rfl; have q9 := LL.out.c 4 (v := .slice e' D'.length f') rfl; have T1 := hid i1; clear i1 b1) | (go_at_call 19; (with_reducible refine (eqRow_k y t (by omega) (by omega) (by omega) _ X1.out.w T1.out.w).mono ?_); rintro e w12 ⟨rfl, b1⟩; have t12 : w11.heap.size ≤ w12.heap.size := (by have := b1.size; first | exact this | omega | (simp at this; omega)); have rK := hid (rK.out.old b1); have rL := hid (rL.out.old b1); have LK := hid (LK.out.old b1); have LL := hid (LL.out.old b1); have X0 := hid (X0.out.old b1); have LX0 := hid (LX0.out.old b1); have X1 := hid (X1.out.old b1); have LX1 := hid (LX1.out.old b1); have T1 := hid (T1.out.old b1); have B := hid (B.out.trans (b1.mono B.out.size)); have q0 := LX1.out.c 0 (v := .slice a7 L.length c7) rfl; have q1 := LX1.out.c 1 (v := .int .i64 y) rfl; have q2 := LX1.out.c 2 (v := .bool t) rfl; have q3 := LX1.out.c 3 (v := .slice b7 A'.length d7) rfl; have q4 := LX1.out.c 4 (v := .slice g7 D'.length f7) rfl; have q5 := LL.out.c 0 (v := .slice a' n' c') rfl; have q6 := LL.out.c 1 (v := .int .i64 y) rfl; have q7 := LL.out.c 2 (v := .bool t) rfl; have q8 := LL.out.c 3 (v := .slice b' A'.length d') rfl; have q9 := LL.out.c 4 (v := .slice e' D'.length f') rfl; clear b1))
 clear q0 q1 q2 q3 q4 q5 q6 q7 q8 q9
 go_wp2
 go_ret
 exact ⟨rfl, B.out⟩
end Go.Proofs.YthkehmnodcmlcaaGreat
