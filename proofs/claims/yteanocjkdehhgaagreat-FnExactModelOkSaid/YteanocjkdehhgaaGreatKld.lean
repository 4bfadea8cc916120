import Derived.Test.YteanocjkdehhgaaGreatKos
import Derived.Deep.RegionHeld3
import Derived.Deep.DeepCutAuto
set_option maxRecDepth 100000
set_option maxHeartbeats 25600000
set_option linter.unusedVariables false
set_option linter.unusedSimpArgs false
namespace Go.Proofs.YteanocjkdehhgaaGreat
open Go.RowKit
open Go.Lib (hid)
theorem law_ModelOk (a : Option Addr) (n c : Nat) (C : List Cq) (b : Option Addr) (m d : Nat) (K : List Tq) (e : Option Addr) (k f : Nat) (R : List Wq) (hnK : n ≤ maxLen) (hCK : ∀ f ∈ C, okC f) (hbK : m ≤ maxLen) (hmK : ∀ f ∈ K, f.A.length ≤ maxLen ∧ f.D.length ≤ maxLen) (hkK : k ≤ maxLen) (hRK : ∀ f ∈ R, okR f) (w : World) (rK : NCame w w.heap.size a n C b m K e k R) :
  Calls Tryz.prog 3 #[.agg #[.slice a n c, .slice b m d, .slice e k f]] w (RetB (.bool true) w) := by
 have BW := below_new' (w := w) (o := .cells #[.slice a n c, .slice b m d, .slice e k f] 26)
 have B := hid BW
 have rK := hid (rK.old BW)
 have LK := hid (LocA.new (w := w) (T := 26) (cs := #[.slice a n c, .slice b m d, .slice e k f]))
 have hs0 : (w.alloc (.cells #[.slice a n c, .slice b m d, .slice e k f] 26)).heap.size = w.heap.size + 1 := by simp
 clear BW
 generalize hW : w.alloc (.cells #[.slice a n c, .slice b m d, .slice e k f] 26) = w0 at B rK LK hs0
 have HW := hid hW
 clear hW
 by_cases hsK : (tot Cq.m C : Int) + (szU K : Int) + (tot Wq.m R : Int) ≤ 1048576
 case neg =>
  go_enter Tryz.func3, Tryz.ntmps3
  have q0 := LK.out.c 0 (v := .slice a n c) rfl
  have q1 := LK.out.c 1 (v := .slice b m d) rfl
  have q2 := LK.out.c 2 (v := .slice e k f) rfl
  go_wp2_with fail
  rw [HW.out]
  (with_reducible refine (szModel_no _ _ _ _ _ _ _ _ _ _ C K R (1048576) hnK hCK hbK hmK hkK hRK (by omega) (by omega) (by omega) _ rK.out).mono ?_)
  clear q0 q1 q2
  rintro e w1 ⟨rfl, b1⟩
  have t1 : w0.heap.size ≤ w1.heap.size := by have := b1.size; omega
  have rK := hid (rK.out.old b1)
  have LK := hid (LK.out.old b1)
  have B := hid (B.out.trans (b1.mono B.out.size))
  clear b1
  go_wp2
  go_ret
  exact ⟨rfl, B.out⟩
 have hMK := szM1_le C K R
 simp only [szM0] at hMK
 have hXK : szM1 C K R ≤ 4194304 := by omega
 have hQK := hXK
 simp only [szM1] at hQK
 have hcK : tot Cq.m C ≤ 1048576 := by omega
 have huK : szU K ≤ 1048576 := by omega
 have hwK : tot Wq.m R ≤ 1048576 := by omega
 have hy0 : ¬ 1048576 - (tot Cq.m C : Int) - (szU K : Int) - (tot Wq.m R : Int) < 0 := by omega
 obtain ⟨RR, hRR⟩ : ∃ RR, RR = mdOk C K R := ⟨_, rfl⟩
 have HRR := hid hRR
 clear hRR
 have KS := hid (fun (W : World) (x0 y0 z0 : Value) (g0 : MdW W x0 y0 z0 C K R) => (by
  have h := spec_ModelOk (SmC.of hcK) (fun q hq => by have := tot_mem Cq.m hq; simp only [Cq.m] at this; omega) (SmT.of huK) (SmR.of hwK) W g0
  rw [← HRR.out] at h
  exact h : Calls Tryz.prog 14 #[.agg #[x0, y0, z0]] W (RetB (.bool RR) W)))
 have KI := hid (fun (W : World) (x0 y0 z0 : Value) (g0 : MdW W x0 y0 z0 C K R) => (by
  have h := impl_ModelOk (SmC.of hcK) (fun q hq => by have := tot_mem Cq.m hq; simp only [Cq.m] at this; omega) (SmT.of huK) (SmR.of hwK) W g0
  rw [← HRR.out] at h
  exact h : Calls Tryz.prog 16 #[.agg #[x0, y0, z0]] W (RetB (.bool RR) W)))
 go_enter Tryz.func3, Tryz.ntmps3
 have q0 := LK.out.c 0 (v := .slice a n c) rfl
 have q1 := LK.out.c 1 (v := .slice b m d) rfl
 have q2 := LK.out.c 2 (v := .slice e k f) rfl
 go_wp2_with fail
 rw [HW.out]
 (with_reducible refine (szModel_yes _ _ _ _ _ _ _ _ _ _ C K R (1048576) (by omega) (by omega) _ rK.out).mono ?_)
 clear q0 q1 q2
 rintro e w1 ⟨rfl, b1⟩
 have t1 : w0.heap.size ≤ w1.heap.size := by have := b1.size; omega
 have rK := hid (rK.out.old b1)
 have LK := hid (LK.out.old b1)
 have B := hid (B.out.trans (b1.mono B.out.size))
 clear b1
 have q0 := LK.out.c 0 (v := .slice a n c) rfl
 have q1 := LK.out.c 1 (v := .slice b m d) rfl
 have q2 := LK.out.c 2 (v := .slice e k f) rfl
 go_wp2_with fail
 (with_reducible refine (toModel_came _ _ _ _ _ _ _ _ _ _ C K R hcK huK hwK _ rK.out).mono ?_)
 clear q0 q1 q2
 rintro e w2 ⟨a2, c2, b2, d2, g2, f2, rfl, i1, b1⟩
 have t2 : w1.heap.size ≤ w2.heap.size := by have := b1.size; omega
 have rK := hid (rK.out.old b1)
 have LK := hid (LK.out.old b1)
 have B := hid (B.out.trans (b1.mono B.out.size))
 have T0 := hid i1
 clear i1 b1
 go_wp2_with fail
 (with_reducible refine (KS.out _ _ _ _ T0.out.w).mono ?_)
 rintro e w3 ⟨rfl, b1⟩
 have t3 : w2.heap.size ≤ w3.heap.size := by have := b1.size; omega
 have rK := hid (rK.out.old b1)
 have LK := hid (LK.out.old b1)
 have T0 := hid (T0.out.old b1)
 have B := hid (B.out.trans (b1.mono B.out.size))
 clear b1
 have q0 := LK.out.c 0 (v := .slice a n c) rfl
 have q1 := LK.out.c 1 (v := .slice b m d) rfl
 have q2 := LK.out.c 2 (v := .slice e k f) rfl
 go_wp2_with fail
 (with_reducible refine (toModel_came _ _ _ _ _ _ _ _ _ _ C K R hcK huK hwK _ rK.out).mono ?_)
 clear q0 q1 q2
 rintro e w4 ⟨a4, c4, b4, d4, g4, f4, rfl, i1, b1⟩
 have t4 : w3.heap.size ≤ w4.heap.size := by have := b1.size; omega
 have rK := hid (rK.out.old b1)
 have LK := hid (LK.out.old b1)
 have B := hid (B.out.trans (b1.mono B.out.size))
 have X0 := hid i1
 clear i1 b1
 have rK := hid (rK.out.old (below_new' (o := .cells #[.slice a4 C.length c4, .slice b4 K.length d4, .slice g4 R.length f4] 33)))
 have LK := hid (LK.out.old (below_new' (o := .cells #[.slice a4 C.length c4, .slice b4 K.length d4, .slice g4 R.length f4] 33)))
 have X0 := hid (X0.out.old (below_new' (o := .cells #[.slice a4 C.length c4, .slice b4 K.length d4, .slice g4 R.length f4] 33)))
 have B := hid (B.out.alloc B.out.size (.cells #[.slice a4 C.length c4, .slice b4 K.length d4, .slice g4 R.length f4] 33))
 have LX0 := hid (LocA.new (w := w4) (T := 33) (cs := #[.slice a4 C.length c4, .slice b4 K.length d4, .slice g4 R.length f4]))
 have hs4 : (w4.alloc (.cells #[.slice a4 C.length c4, .slice b4 K.length d4, .slice g4 R.length f4] 33)).heap.size = w4.heap.size + 1 := by simp
 have q0 := LX0.out.c 0 (v := .slice a4 C.length c4) rfl
 have q1 := LX0.out.c 1 (v := .slice b4 K.length d4) rfl
 have q2 := LX0.out.c 2 (v := .slice g4 R.length f4) rfl
 go_wp2_with fail
 (with_reducible refine (KI.out _ _ _ _ X0.out.w).mono ?_)
 clear q0 q1 q2
 rintro e w5 ⟨rfl, b1⟩
 have t5 : w4.heap.size + 1 ≤ w5.heap.size := by have := b1.size; simp at this; omega
 have rK := hid (rK.out.old b1)
 have LK := hid (LK.out.old b1)
 have X0 := hid (X0.out.old b1)
 have LX0 := hid (LX0.out.old b1)
 have B := hid (B.out.trans (b1.mono B.out.size))
 clear b1
 have rK := hid (rK.out.old (Below_drew1 (Below.refl _ _)))
 have LK := hid (LK.out.old (Below_drew1 (Below.refl _ _)))
 have X0 := hid (X0.out.old (Below_drew1 (Below.refl _ _)))
 have LX0 := hid (LX0.out.old (Below_drew1 (Below.refl _ _)))
 have B := hid (Below_drew1 B.out)
 have q0 := LX0.out.c 0 (v := .slice a4 C.length c4) rfl
 have q1 := LX0.out.c 1 (v := .slice b4 K.length d4) rfl
 have q2 := LX0.out.c 2 (v := .slice g4 R.length f4) rfl
 have q3 := LK.out.c 0 (v := .slice a n c) rfl
 have q4 := LK.out.c 1 (v := .slice b m d) rfl
 have q5 := LK.out.c 2 (v := .slice e k f) rfl
 go_wp2_with fail
 go_region_held3 (fun w' => w'.cell? ⟨w4.heap.size, 0, none⟩ = some (.slice a4 C.length c4) ∧ w'.cell? ⟨w4.heap.size, 1, none⟩ = some (.slice b4 K.length d4) ∧ w'.cell? ⟨w4.heap.size, 2, none⟩ = some (.slice g4 R.length f4) ∧ w'.cell? ⟨w.heap.size, 0, none⟩ = some (.slice a n c) ∧ w'.cell? ⟨w.heap.size, 1, none⟩ = some (.slice b m d) ∧ w'.cell? ⟨w.heap.size, 2, none⟩ = some (.slice e k f)) (first | exact ⟨q0, q1, q2, q3, q4, q5⟩) (first | (go_at_call 15; (with_reducible refine (toModel_came _ _ _ _ _ _ _ _ _ _ C K R hcK huK hwK _ rK.out).mono ?_); rintro e w6 ⟨a6, c6, b6, d6, g6, f6, rfl, i1, b1⟩; have t6 : w5.heap.size ≤ w6.heap.size := (by have := b1.size; first | exact this | omega | (simp at this; omega)); have rK := hid (rK.out.old b1); have LK := hid (LK.out.old b1); have X0 := hid (X0.out.old b1); have LX0 := hid (LX0.out.old b1); have B := hid (B.out.trans (b1.mono B.out.size)); have q0 := LX0.out.c 0 (v := .slice a4 C.length c4) rfl; have q1 := LX0.out.c 1 (v := .slice b4 K.length d4) rfl; have q2 := LX0.out.c 2 (v := .slice g4 R.length f4) rfl; have q3 := LK.out.c 0 (v := .slice a n c) rfl; have q4 := LK.out.c 1 (v := .slice b m d) rfl; have q5 := LK.out.c 2 (v := .slice e k f) rfl; have T0 := hid i1; clear i1 b1) | (go_at_call 17; (with_reducible refine (eqModel_k hXK _ X0.out.w T0.out.w).mono ?_); rintro e w7 ⟨rfl, b1⟩; have t7 : w6.heap.size ≤ w7.heap.size := (by have := b1.size; first | exact this | omega | (simp at this; omega)); have rK := hid (rK.out.old b1); have LK := hid (LK.out.old b1); have X0 := hid (X0.out.old b1); have LX0 := hid (LX0.out.old b1); have T0 := hid (T0.out.old b1); have B := hid (B.out.trans (b1.mono B.out.size)); have q0 := LX0.out.c 0 (v := .slice a4 C.length c4) rfl; have q1 := LX0.out.c 1 (v := .slice b4 K.length d4) rfl; have q2 := LX0.out.c 2 (v := .slice g4 R.length f4) rfl; have q3 := LK.out.c 0 (v := .slice a n c) rfl; have q4 := LK.out.c 1 (v := .slice b m d) rfl; have q5 := LK.out.c 2 (v := .slice e k f) rfl; clear b1))
 clear q0 q1 q2 q3 q4 q5
 go_wp2
 go_ret
 exact ⟨rfl, B.out⟩
end Go.Proofs.YteanocjkdehhgaaGreat
