/- The law ModelEqual. -/
import Derived.Test.YteanocjkdehhgaaKjs
import Derived.Deep.RegionHeld3
import Derived.Deep.DeepCutAuto
namespace Go.Proofs.Yteanocjkdehhgaa
open Go.RowKit
open Go.Lib (hid)
set_option linter.unusedVariables false

set_option maxRecDepth 100000 in
set_option maxHeartbeats 25600000 in
theorem law_ModelEqual (a : Option Addr) (n c : Nat) (C : List Cq) (b : Option Addr) (m d : Nat) (K : List Tq) (e : Option Addr) (k f : Nat) (R : List Wq) (hnK : n ≤ maxLen) (hCK : ∀ f ∈ C, okC f) (hbK : m ≤ maxLen) (hmK : ∀ f ∈ K, f.A.length ≤ maxLen ∧ f.D.length ≤ maxLen) (hkK : k ≤ maxLen) (hRK : ∀ f ∈ R, okR f) (a' : Option Addr) (n' c' : Nat) (C' : List Cq) (b' : Option Addr) (m' d' : Nat) (L : List Tq) (e' : Option Addr) (k' f' : Nat) (R' : List Wq) (hnL : n' ≤ maxLen) (hCL : ∀ f ∈ C', okC f) (hbL : m' ≤ maxLen) (hmL : ∀ f ∈ L, f.A.length ≤ maxLen ∧ f.D.length ≤ maxLen) (hkL : k' ≤ maxLen) (hRL : ∀ f ∈ R', okR f) (w : World) (rK : NCame w w.heap.size a n C b m K e k R) (rL : NCame w w.heap.size a' n' C' b' m' L e' k' R') :
    Calls Try.prog 7 #[.agg #[.slice a n c, .slice b m d, .slice e k f], .agg #[.slice a' n' c', .slice b' m' d', .slice e' k' f']] w (RetB (.bool true) w) := by
  have BW := below_new2 (w := w) (o := .cells #[.slice a n c, .slice b m d, .slice e k f] 43) (o' := .cells #[.slice a' n' c', .slice b' m' d', .slice e' k' f'] 43)
  have B := hid BW
  have rK := hid (rK.old BW)
  have rL := hid (rL.old BW)
  have LK := hid ((LocA.at (T := 43) (w := w) (b := w.heap.size) (cs := #[.slice a n c, .slice b m d, .slice e k f]) rfl).new1 (o := .cells #[.slice a' n' c', .slice b' m' d', .slice e' k' f'] 43))
  have LL := hid (LocA.at (T := 43) (w := w.alloc (.cells #[.slice a n c, .slice b m d, .slice e k f] 43)) (b := w.heap.size + 1) (cs := #[.slice a' n' c', .slice b' m' d', .slice e' k' f']) (by simp))
  have hs0 : ((w.alloc (.cells #[.slice a n c, .slice b m d, .slice e k f] 43)).alloc (.cells #[.slice a' n' c', .slice b' m' d', .slice e' k' f'] 43)).heap.size = w.heap.size + 1 + 1 := by simp
  clear BW
  generalize hW : (w.alloc (.cells #[.slice a n c, .slice b m d, .slice e k f] 43)).alloc (.cells #[.slice a' n' c', .slice b' m' d', .slice e' k' f'] 43) = w0 at B rK rL LK LL hs0
  have HW := hid hW
  clear hW
  by_cases hsK : (tot Cq.m C : Int) + (szU K : Int) + (tot Wq.m R : Int) ≤ 1048576
  case neg =>
    go_enter Try.func7, Try.ntmps7
    have q0 := LK.out.c 0 (v := .slice a n c) rfl
    have q1 := LK.out.c 1 (v := .slice b m d) rfl
    have q2 := LK.out.c 2 (v := .slice e k f) rfl
    go_wp2_with fail
    rw [HW.out]
    (with_reducible refine (szModel_no _ _ _ _ _ _ _ _ _ _ C K R (1048576) hnK hCK hbK hmK hkK hRK (by omega) (by omega) (by omega) _ rK.out).mono ?_)
    clear q0 q1 q2
    rintro e w1 ⟨rfl, b1⟩
    have t1 : w0.heap.size ≤ w1.heap.size := by have := b1.size; omega
    have rK := hid (rK.out.old b1)
    have rL := hid (rL.out.old b1)
    have LK := hid (LK.out.old b1)
    have LL := hid (LL.out.old b1)
    have B := hid (B.out.trans (b1.mono B.out.size))
    clear b1
    go_wp2
    go_ret
    exact ⟨rfl, B.out⟩
  by_cases hsL : (tot Cq.m C' : Int) + (szU L : Int) + (tot Wq.m R' : Int) ≤ 1048576 - (tot Cq.m C : Int) - (szU K : Int) - (tot Wq.m R : Int)
  case neg =>
    go_enter Try.func7, Try.ntmps7
    have q0 := LK.out.c 0 (v := .slice a n c) rfl
    have q1 := LK.out.c 1 (v := .slice b m d) rfl
    have q2 := LK.out.c 2 (v := .slice e k f) rfl
    go_wp2_with fail
    rw [HW.out]
    (with_reducible refine (szModel_yes _ _ _ _ _ _ _ _ _ _ C K R (1048576) (by omega) (by omega) _ rK.out).mono ?_)
    clear q0 q1 q2
    rintro e w1 ⟨rfl, b1⟩
    have t1 : w0.heap.size ≤ w1.heap.size := by have := b1.size; omega
    have rK := hid (rK.out.old b1)
    have rL := hid (rL.out.old b1)
    have LK := hid (LK.out.old b1)
    have LL := hid (LL.out.old b1)
    have B := hid (B.out.trans (b1.mono B.out.size))
    clear b1
    have q0 := LL.out.c 0 (v := .slice a' n' c') rfl
    have q1 := LL.out.c 1 (v := .slice b' m' d') rfl
    have q2 := LL.out.c 2 (v := .slice e' k' f') rfl
    go_wp2_with fail
    (with_reducible refine (szModel_no _ _ _ _ _ _ _ _ _ _ C' L R' (1048576 - (tot Cq.m C : Int) - (szU K : Int) - (tot Wq.m R : Int)) hnL hCL hbL hmL hkL hRL (by omega) (by omega) (by omega) _ rL.out).mono ?_)
    clear q0 q1 q2
    rintro e w2 ⟨rfl, b1⟩
    have t2 : w1.heap.size ≤ w2.heap.size := by have := b1.size; omega
    have rK := hid (rK.out.old b1)
    have rL := hid (rL.out.old b1)
    have LK := hid (LK.out.old b1)
    have LL := hid (LL.out.old b1)
    have B := hid (B.out.trans (b1.mono B.out.size))
    clear b1
    go_wp2
    go_ret
    exact ⟨rfl, B.out⟩
  have hMK := szM1_le C K R
  simp only [szM0] at hMK
  have hXK : szM1 C K R ≤ 4194304 := by omega
  have hQK := hXK
  simp only [szM1] at hQK
  have hcK : tot Cq.m C ≤ 1048576 := by omega
  have huK : szU K ≤ 1048576 := by omega
  have hwK : tot Wq.m R ≤ 1048576 := by omega
  have hML := szM1_le C' L R'
  simp only [szM0] at hML
  have hXL : szM1 C' L R' ≤ 4194304 := by omega
  have hQL := hXL
  simp only [szM1] at hQL
  have hcL : tot Cq.m C' ≤ 1048576 := by omega
  have huL : szU L ≤ 1048576 := by omega
  have hwL : tot Wq.m R' ≤ 1048576 := by omega
  have hy0 : ¬ 1048576 - (tot Cq.m C : Int) - (szU K : Int) - (tot Wq.m R : Int) < 0 := by omega
  have hy1 : ¬ 1048576 - (tot Cq.m C : Int) - (szU K : Int) - (tot Wq.m R : Int) - (tot Cq.m C' : Int) - (szU L : Int) - (tot Wq.m R' : Int) < 0 := by omega
  obtain ⟨RR, hRR⟩ : ∃ RR, RR = (eqLs eqCq C C' && eqT K L && eqLs eqWq R R') := ⟨_, rfl⟩
  have HRR := hid hRR
  clear hRR
  have KS := hid (fun (W : World) (x0 y0 z0 : Value) (g0 : MdW W x0 y0 z0 C K R) (x1 y1 z1 : Value) (g1 : MdW W x1 y1 z1 C' L R') => (by
    have h := spec_ModelEqual (SmC.of hcK) (SmC.of hcL) (SmT.of huK) (SmT.of huL) (SmR.of hwK) (SmR.of hwL) W g0 g1
    rw [← HRR.out] at h
    exact h : Calls Try.prog 31 #[.agg #[x0, y0, z0], .agg #[x1, y1, z1]] W (RetB (.bool RR) W)))
  have KI := hid (fun (W : World) (x0 y0 z0 : Value) (g0 : MdW W x0 y0 z0 C K R) (x1 y1 z1 : Value) (g1 : MdW W x1 y1 z1 C' L R') => (by
    have h := impl_ModelEqual (SmC.of hcK) (SmC.of hcL) (SmT.of huK) (SmT.of huL) (SmR.of hwK) (SmR.of hwL) W g0 g1
    rw [← HRR.out] at h
    exact h : Calls Try.prog 32 #[.agg #[x0, y0, z0], .agg #[x1, y1, z1]] W (RetB (.bool RR) W)))
  go_enter Try.func7, Try.ntmps7
  have q0 := LK.out.c 0 (v := .slice a n c) rfl
  have q1 := LK.out.c 1 (v := .slice b m d) rfl
  have q2 := LK.out.c 2 (v := .slice e k f) rfl
  go_wp2_with fail
  rw [HW.out]
  (with_reducible refine (szModel_yes _ _ _ _ _ _ _ _ _ _ C K R (1048576) (by omega) (by omega) _ rK.out).mono ?_)
  clear q0 q1 q2
  rintro e w1 ⟨rfl, b1⟩
  have t1 : w0.heap.size ≤ w1.heap.size := by have := b1.size; omega
  have rK := hid (rK.out.old b1)
  have rL := hid (rL.out.old b1)
  have LK := hid (LK.out.old b1)
  have LL := hid (LL.out.old b1)
  have B := hid (B.out.trans (b1.mono B.out.size))
  clear b1
  have q0 := LL.out.c 0 (v := .slice a' n' c') rfl
  have q1 := LL.out.c 1 (v := .slice b' m' d') rfl
  have q2 := LL.out.c 2 (v := .slice e' k' f') rfl
  go_wp2_with fail
  (with_reducible refine (szModel_yes _ _ _ _ _ _ _ _ _ _ C' L R' (1048576 - (tot Cq.m C : Int) - (szU K : Int) - (tot Wq.m R : Int)) (by omega) (by omega) _ rL.out).mono ?_)
  clear q0 q1 q2
  rintro e w2 ⟨rfl, b1⟩
  have t2 : w1.heap.size ≤ w2.heap.size := by have := b1.size; omega
  have rK := hid (rK.out.old b1)
  have rL := hid (rL.out.old b1)
  have LK := hid (LK.out.old b1)
  have LL := hid (LL.out.old b1)
  have B := hid (B.out.trans (b1.mono B.out.size))
  clear b1
  have rK := hid (rK.out.old (Below_drew1 (Below.refl _ _)))
  have rL := hid (rL.out.old (Below_drew1 (Below.refl _ _)))
  have LK := hid (LK.out.old (Below_drew1 (Below.refl _ _)))
  have LL := hid (LL.out.old (Below_drew1 (Below.refl _ _)))
  have B := hid (Below_drew1 B.out)
  have q0 := LK.out.c 0 (v := .slice a n c) rfl
  have q1 := LK.out.c 1 (v := .slice b m d) rfl
  have q2 := LK.out.c 2 (v := .slice e k f) rfl
  have q3 := LL.out.c 0 (v := .slice a' n' c') rfl
  have q4 := LL.out.c 1 (v := .slice b' m' d') rfl
  have q5 := LL.out.c 2 (v := .slice e' k' f') rfl
  go_wp2_with fail
  go_region_held3 (fun w' => w'.cell? ⟨w.heap.size, 0, none⟩ = some (.slice a n c) ∧ w'.cell? ⟨w.heap.size, 1, none⟩ = some (.slice b m d) ∧ w'.cell? ⟨w.heap.size, 2, none⟩ = some (.slice e k f) ∧ w'.cell? ⟨w.heap.size + 1, 0, none⟩ = some (.slice a' n' c') ∧ w'.cell? ⟨w.heap.size + 1, 1, none⟩ = some (.slice b' m' d') ∧ w'.cell? ⟨w.heap.size + 1, 2, none⟩ = some (.slice e' k' f')) (first | exact ⟨q0, q1, q2, q3, q4, q5⟩) (first | (go_at_call 17; (with_reducible refine (toModel_came _ _ _ _ _ _ _ _ _ _ C K R hcK huK hwK _ rK.out).mono ?_); rintro e w3 ⟨a3, c3, b3, d3, g3, f3, rfl, i1, b1⟩; have t3 : w2.heap.size ≤ w3.heap.size := (by have := b1.size; first | exact this | omega | (simp at this; omega)); have rK := hid (rK.out.old b1); have rL := hid (rL.out.old b1); have LK := hid (LK.out.old b1); have LL := hid (LL.out.old b1); have B := hid (B.out.trans (b1.mono B.out.size)); have q0 := LK.out.c 0 (v := .slice a n c) rfl; have q1 := LK.out.c 1 (v := .slice b m d) rfl; have q2 := LK.out.c 2 (v := .slice e k f) rfl; have q3 := LL.out.c 0 (v := .slice a' n' c') rfl; have q4 := LL.out.c 1 (v := .slice b' m' d') rfl; have q5 := LL.out.c 2 (v := .slice e' k' f') rfl; have T0 := hid i1; clear i1 b1) | (go_at_call 17; (with_reducible refine (toModel_came _ _ _ _ _ _ _ _ _ _ C' L R' hcL huL hwL _ rL.out).mono ?_); rintro e w4 ⟨a4, c4, b4, d4, g4, f4, rfl, i1, b1⟩; have t4 : w3.heap.size ≤ w4.heap.size := (by have := b1.size; first | exact this | omega | (simp at this; omega)); have rK := hid (rK.out.old b1); have rL := hid (rL.out.old b1); have LK := hid (LK.out.old b1); have LL := hid (LL.out.old b1); have T0 := hid (T0.out.old b1); have B := hid (B.out.trans (b1.mono B.out.size)); have q0 := LK.out.c 0 (v := .slice a n c) rfl; have q1 := LK.out.c 1 (v := .slice b m d) rfl; have q2 := LK.out.c 2 (v := .slice e k f) rfl; have q3 := LL.out.c 0 (v := .slice a' n' c') rfl; have q4 := LL.out.c 1 (v := .slice b' m' d') rfl; have q5 := LL.out.c 2 (v := .slice e' k' f') rfl; have T1 := hid i1; clear i1 b1) | (go_at_call 31; (with_reducible refine (KS.out _ _ _ _ T0.out.w _ _ _ T1.out.w).mono ?_); rintro e w5 ⟨rfl, b1⟩; have t5 : w4.heap.size ≤ w5.heap.size := (by have := b1.size; first | exact this | omega | (simp at this; omega)); have rK := hid (rK.out.old b1); have rL := hid (rL.out.old b1); have LK := hid (LK.out.old b1); have LL := hid (LL.out.old b1); have T0 := hid (T0.out.old b1); have T1 := hid (T1.out.old b1); have B := hid (B.out.trans (b1.mono B.out.size)); have q0 := LK.out.c 0 (v := .slice a n c) rfl; have q1 := LK.out.c 1 (v := .slice b m d) rfl; have q2 := LK.out.c 2 (v := .slice e k f) rfl; have q3 := LL.out.c 0 (v := .slice a' n' c') rfl; have q4 := LL.out.c 1 (v := .slice b' m' d') rfl; have q5 := LL.out.c 2 (v := .slice e' k' f') rfl; clear b1))
  clear q0 q1 q2 q3 q4 q5
  have q0 := LK.out.c 0 (v := .slice a n c) rfl
  have q1 := LK.out.c 1 (v := .slice b m d) rfl
  have q2 := LK.out.c 2 (v := .slice e k f) rfl
  go_wp2_with fail
  (with_reducible refine (toModel_came _ _ _ _ _ _ _ _ _ _ C K R hcK huK hwK _ rK.out).mono ?_)
  clear q0 q1 q2
  rintro e w6 ⟨a6, c6, b6, d6, g6, f6, rfl, i1, b1⟩
  have t6 : w5.heap.size ≤ w6.heap.size := by have := b1.size; omega
  have rK := hid (rK.out.old b1)
  have rL := hid (rL.out.old b1)
  have LK := hid (LK.out.old b1)
  have LL := hid (LL.out.old b1)
  have B := hid (B.out.trans (b1.mono B.out.size))
  have X0 := hid i1
  clear i1 b1
  have rK := hid (rK.out.old (below_new' (o := .cells #[.slice a6 C.length c6, .slice b6 K.length d6, .slice g6 R.length f6] 51)))
  have rL := hid (rL.out.old (below_new' (o := .cells #[.slice a6 C.length c6, .slice b6 K.length d6, .slice g6 R.length f6] 51)))
  have LK := hid (LK.out.old (below_new' (o := .cells #[.slice a6 C.length c6, .slice b6 K.length d6, .slice g6 R.length f6] 51)))
  have LL := hid (LL.out.old (below_new' (o := .cells #[.slice a6 C.length c6, .slice b6 K.length d6, .slice g6 R.length f6] 51)))
  have X0 := hid (X0.out.old (below_new' (o := .cells #[.slice a6 C.length c6, .slice b6 K.length d6, .slice g6 R.length f6] 51)))
  have B := hid (B.out.alloc B.out.size (.cells #[.slice a6 C.length c6, .slice b6 K.length d6, .slice g6 R.length f6] 51))
  have LX0 := hid (LocA.new (w := w6) (T := 51) (cs := #[.slice a6 C.length c6, .slice b6 K.length d6, .slice g6 R.length f6]))
  have hs6 : (w6.alloc (.cells #[.slice a6 C.length c6, .slice b6 K.length d6, .slice g6 R.length f6] 51)).heap.size = w6.heap.size + 1 := by simp
  have q0 := LL.out.c 0 (v := .slice a' n' c') rfl
  have q1 := LL.out.c 1 (v := .slice b' m' d') rfl
  have q2 := LL.out.c 2 (v := .slice e' k' f') rfl
  go_wp2_with fail
  (with_reducible refine (toModel_came _ _ _ _ _ _ _ _ _ _ C' L R' hcL huL hwL _ rL.out).mono ?_)
  clear q0 q1 q2
  rintro e w7 ⟨a7, c7, b7, d7, g7, f7, rfl, i1, b1⟩
  have t7 : w6.heap.size + 1 ≤ w7.heap.size := by have := b1.size; simp at this; omega
  have rK := hid (rK.out.old b1)
  have rL := hid (rL.out.old b1)
  have LK := hid (LK.out.old b1)
  have LL := hid (LL.out.old b1)
  have X0 := hid (X0.out.old b1)
  have LX0 := hid (LX0.out.old b1)
  have B := hid (B.out.trans (b1.mono B.out.size))
  have X1 := hid i1
  clear i1 b1
  have rK := hid (rK.out.old (below_new' (o := .cells #[.slice a7 C'.length c7, .slice b7 L.length d7, .slice g7 R'.length f7] 51)))
  have rL := hid (rL.out.old (below_new' (o := .cells #[.slice a7 C'.length c7, .slice b7 L.length d7, .slice g7 R'.length f7] 51)))
  have LK := hid (LK.out.old (below_new' (o := .cells #[.slice a7 C'.length c7, .slice b7 L.length d7, .slice g7 R'.length f7] 51)))
  have LL := hid (LL.out.old (below_new' (o := .cells #[.slice a7 C'.length c7, .slice b7 L.length d7, .slice g7 R'.length f7] 51)))
  have X0 := hid (X0.out.old (below_new' (o := .cells #[.slice a7 C'.length c7, .slice b7 L.length d7, .slice g7 R'.length f7] 51)))
  have LX0 := hid (LX0.out.old (below_new' (o := .cells #[.slice a7 C'.length c7, .slice b7 L.length d7, .slice g7 R'.length f7] 51)))
  have X1 := hid (X1.out.old (below_new' (o := .cells #[.slice a7 C'.length c7, .slice b7 L.length d7, .slice g7 R'.length f7] 51)))
  have B := hid (B.out.alloc B.out.size (.cells #[.slice a7 C'.length c7, .slice b7 L.length d7, .slice g7 R'.length f7] 51))
  have LX1 := hid (LocA.new (w := w7) (T := 51) (cs := #[.slice a7 C'.length c7, .slice b7 L.length d7, .slice g7 R'.length f7]))
  have hs7 : (w7.alloc (.cells #[.slice a7 C'.length c7, .slice b7 L.length d7, .slice g7 R'.length f7] 51)).heap.size = w7.heap.size + 1 := by simp
  have q0 := LX0.out.c 0 (v := .slice a6 C.length c6) rfl
  have q1 := LX0.out.c 1 (v := .slice b6 K.length d6) rfl
  have q2 := LX0.out.c 2 (v := .slice g6 R.length f6) rfl
  have q3 := LX1.out.c 0 (v := .slice a7 C'.length c7) rfl
  have q4 := LX1.out.c 1 (v := .slice b7 L.length d7) rfl
  have q5 := LX1.out.c 2 (v := .slice g7 R'.length f7) rfl
  go_wp2_with fail
  (with_reducible refine (KI.out _ _ _ _ X0.out.w _ _ _ X1.out.w).mono ?_)
  clear q0 q1 q2 q3 q4 q5
  rintro e w8 ⟨rfl, b1⟩
  have t8 : w7.heap.size + 1 ≤ w8.heap.size := by have := b1.size; simp at this; omega
  have rK := hid (rK.out.old b1)
  have rL := hid (rL.out.old b1)
  have LK := hid (LK.out.old b1)
  have LL := hid (LL.out.old b1)
  have X0 := hid (X0.out.old b1)
  have LX0 := hid (LX0.out.old b1)
  have X1 := hid (X1.out.old b1)
  have LX1 := hid (LX1.out.old b1)
  have B := hid (B.out.trans (b1.mono B.out.size))
  clear b1
  have rK := hid (rK.out.old (Below_drew1 (Below.refl _ _)))
  have rL := hid (rL.out.old (Below_drew1 (Below.refl _ _)))
  have LK := hid (LK.out.old (Below_drew1 (Below.refl _ _)))
  have LL := hid (LL.out.old (Below_drew1 (Below.refl _ _)))
  have X0 := hid (X0.out.old (Below_drew1 (Below.refl _ _)))
  have LX0 := hid (LX0.out.old (Below_drew1 (Below.refl _ _)))
  have X1 := hid (X1.out.old (Below_drew1 (Below.refl _ _)))
  have LX1 := hid (LX1.out.old (Below_drew1 (Below.refl _ _)))
  have B := hid (Below_drew1 B.out)
  have q0 := LX0.out.c 0 (v := .slice a6 C.length c6) rfl
  have q1 := LX0.out.c 1 (v := .slice b6 K.length d6) rfl
  have q2 := LX0.out.c 2 (v := .slice g6 R.length f6) rfl
  have q3 := LK.out.c 0 (v := .slice a n c) rfl
  have q4 := LK.out.c 1 (v := .slice b m d) rfl
  have q5 := LK.out.c 2 (v := .slice e k f) rfl
  go_wp2_with fail
  go_region_held3 (fun w' => w'.cell? ⟨w6.heap.size, 0, none⟩ = some (.slice a6 C.length c6) ∧ w'.cell? ⟨w6.heap.size, 1, none⟩ = some (.slice b6 K.length d6) ∧ w'.cell? ⟨w6.heap.size, 2, none⟩ = some (.slice g6 R.length f6) ∧ w'.cell? ⟨w.heap.size, 0, none⟩ = some (.slice a n c) ∧ w'.cell? ⟨w.heap.size, 1, none⟩ = some (.slice b m d) ∧ w'.cell? ⟨w.heap.size, 2, none⟩ = some (.slice e k f)) (first | exact ⟨q0, q1, q2, q3, q4, q5⟩) (first | (go_at_call 17; (with_reducible refine (toModel_came _ _ _ _ _ _ _ _ _ _ C K R hcK huK hwK _ rK.out).mono ?_); rintro e w9 ⟨a9, c9, b9, d9, g9, f9, rfl, i1, b1⟩; have t9 : w8.heap.size ≤ w9.heap.size := (by have := b1.size; first | exact this | omega | (simp at this; omega)); have rK := hid (rK.out.old b1); have rL := hid (rL.out.old b1); have LK := hid (LK.out.old b1); have LL := hid (LL.out.old b1); have X0 := hid (X0.out.old b1); have LX0 := hid (LX0.out.old b1); have X1 := hid (X1.out.old b1); have LX1 := hid (LX1.out.old b1); have B := hid (B.out.trans (b1.mono B.out.size)); have q0 := LX0.out.c 0 (v := .slice a6 C.length c6) rfl; have q1 := LX0.out.c 1 (v := .slice b6 K.length d6) rfl; have q2 := LX0.out.c 2 (v := .slice g6 R.length f6) rfl; have q3 := LK.out.c 0 (v := .slice a n c) rfl; have q4 := LK.out.c 1 (v := .slice b m d) rfl; have q5 := LK.out.c 2 (v := .slice e k f) rfl; have T0 := hid i1; clear i1 b1) | (go_at_call 20; (with_reducible refine (eqModel_k hXK _ X0.out.w T0.out.w).mono ?_); rintro e w10 ⟨rfl, b1⟩; have t10 : w9.heap.size ≤ w10.heap.size := (by have := b1.size; first | exact this | omega | (simp at this; omega)); have rK := hid (rK.out.old b1); have rL := hid (rL.out.old b1); have LK := hid (LK.out.old b1); have LL := hid (LL.out.old b1); have X0 := hid (X0.out.old b1); have LX0 := hid (LX0.out.old b1); have X1 := hid (X1.out.old b1); have LX1 := hid (LX1.out.old b1); have T0 := hid (T0.out.old b1); have B := hid (B.out.trans (b1.mono B.out.size)); have q0 := LX0.out.c 0 (v := .slice a6 C.length c6) rfl; have q1 := LX0.out.c 1 (v := .slice b6 K.length d6) rfl; have q2 := LX0.out.c 2 (v := .slice g6 R.length f6) rfl; have q3 := LK.out.c 0 (v := .slice a n c) rfl; have q4 := LK.out.c 1 (v := .slice b m d) rfl; have q5 := LK.out.c 2 (v := .slice e k f) rfl; clear b1))
  clear q0 q1 q2 q3 q4 q5
  have rK := hid (rK.out.old (Below_drew1 (Below.refl _ _)))
  have rL := hid (rL.out.old (Below_drew1 (Below.refl _ _)))
  have LK := hid (LK.out.old (Below_drew1 (Below.refl _ _)))
  have LL := hid (LL.out.old (Below_drew1 (Below.refl _ _)))
  have X0 := hid (X0.out.old (Below_drew1 (Below.refl _ _)))
  have LX0 := hid (LX0.out.old (Below_drew1 (Below.refl _ _)))
  have X1 := hid (X1.out.old (Below_drew1 (Below.refl _ _)))
  have LX1 := hid (LX1.out.old (Below_drew1 (Below.refl _ _)))
  have B := hid (Below_drew1 B.out)
  have q0 := LX1.out.c 0 (v := .slice a7 C'.length c7) rfl
  have q1 := LX1.out.c 1 (v := .slice b7 L.length d7) rfl
  have q2 := LX1.out.c 2 (v := .slice g7 R'.length f7) rfl
  have q3 := LL.out.c 0 (v := .slice a' n' c') rfl
  have q4 := LL.out.c 1 (v := .slice b' m' d') rfl
  have q5 := LL.out.c 2 (v := .slice e' k' f') rfl
  go_wp2_with fail
  go_region_held3 (fun w' => w'.cell? ⟨w7.heap.size, 0, none⟩ = some (.slice a7 C'.length c7) ∧ w'.cell? ⟨w7.heap.size, 1, none⟩ = some (.slice b7 L.length d7) ∧ w'.cell? ⟨w7.heap.size, 2, none⟩ = some (.slice g7 R'.length f7) ∧ w'.cell? ⟨w.heap.size + 1, 0, none⟩ = some (.slice a' n' c') ∧ w'.cell? ⟨w.heap.size + 1, 1, none⟩ = some (.slice b' m' d') ∧ w'.cell? ⟨w.heap.size + 1, 2, none⟩ = some (.slice e' k' f')) (first | exact ⟨q0, q1, q2, q3, q4, q5⟩) (first | (go_at_call 17; (with_reducible refine (toModel_came _ _ _ _ _ _ _ _ _ _ C' L R' hcL huL hwL _ rL.out).mono ?_); rintro e w11 ⟨a11, c11, b11, d11, g11, f11, rfl, i1, b1⟩; have t11 : w10.heap.size ≤ w11.heap.size := (by have := b1.size; first | exact this | omega | (simp at this; omega)); have rK := hid (rK.out.old b1); have rL := hid (rL.out.old b1); have LK := hid (LK.out.old b1); have LL := hid (LL.out.old b1); have X0 := hid (X0.out.old b1); have LX0 := hid (LX0.out.old b1); have X1 := hid (X1.out.old b1); have LX1 := hid (LX1.out.old b1); have B := hid (B.out.trans (b1.mono B.out.size)); have q0 := LX1.out.c 0 (v := .slice a7 C'.length c7) rfl; have q1 := LX1.out.c 1 (v := .slice b7 L.length d7) rfl; have q2 := LX1.out.c 2 (v := .slice g7 R'.length f7) rfl; have q3 := LL.out.c 0 (v := .slice a' n' c') rfl; have q4 := LL.out.c 1 (v := .slice b' m' d') rfl; have q5 := LL.out.c 2 (v := .slice e' k' f') rfl; have T1 := hid i1; clear i1 b1) | (go_at_call 20; (with_reducible refine (eqModel_k hXL _ X1.out.w T1.out.w).mono ?_); rintro e w12 ⟨rfl, b1⟩; have t12 : w11.heap.size ≤ w12.heap.size := (by have := b1.size; first | exact this | omega | (simp at this; omega)); have rK := hid (rK.out.old b1); have rL := hid (rL.out.old b1); have LK := hid (LK.out.old b1); have LL := hid (LL.out.old b1); have X0 := hid (X0.out.old b1); have LX0 := hid (LX0.out.old b1); have X1 := hid (X1.out.old b1); have LX1 := hid (LX1.out.old b1); have T1 := hid (T1.out.old b1); have B := hid (B.out.trans (b1.mono B.out.size)); have q0 := LX1.out.c 0 (v := .slice a7 C'.length c7) rfl; have q1 := LX1.out.c 1 (v := .slice b7 L.length d7) rfl; have q2 := LX1.out.c 2 (v := .slice g7 R'.length f7) rfl; have q3 := LL.out.c 0 (v := .slice a' n' c') rfl; have q4 := LL.out.c 1 (v := .slice b' m' d') rfl; have q5 := LL.out.c 2 (v := .slice e' k' f') rfl; clear b1))
  clear q0 q1 q2 q3 q4 q5
  go_wp2
  go_ret
  exact ⟨rfl, B.out⟩
end Go.Proofs.Yteanocjkdehhgaa
