/- The law HasUpper. -/
import Derived.Test.YteanocjkdehhgaaKh
import Derived.Deep.RegionHeld3
import Derived.Deep.DeepCutAuto
namespace Go.Proofs.Yteanocjkdehhgaa
open Go.RowKit
open Go.Lib (hid)
set_option linter.unusedVariables false

set_option maxRecDepth 100000 in
set_option maxHeartbeats 25600000 in
theorem law_HasUpper (nm : ByteArray) (s : Bool) (a : Option Addr) (n c : Nat) (A : List Int) (b : Option Addr) (m d : Nat) (D : List Int) (z : Bool) (e : Option Addr) (k f : Nat) (F : List Int) (g : Option Addr) (l i : Nat) (G : List Int) (t : Bool) (hnK : nm.size ≤ maxLen) (h1K : n ≤ maxLen) (h2K : m ≤ maxLen) (h3K : k ≤ maxLen) (h4K : l ≤ maxLen) (w : World) (rK : ClCame w w.heap.size a n A b m D e k F g l G) :
    Calls Try.prog 3 #[.agg #[.string nm, .bool s, .slice a n c, .slice b m d, .bool z, .slice e k f, .slice g l i, .bool t]] w (RetB (.bool true) w) := by
  obtain rfl := rK.l.x.1
  obtain rfl := rK.l.y.1
  obtain rfl := rK.h.x.1
  obtain rfl := rK.h.y.1
  have BW := below_new' (w := w) (o := .cells #[.string nm, .bool s, .slice a A.length c, .slice b D.length d, .bool z, .slice e F.length f, .slice g G.length i, .bool t] 28)
  have B := hid BW
  have rK := hid (rK.old BW)
  have LK := hid (LocA.new (w := w) (T := 28) (cs := #[.string nm, .bool s, .slice a A.length c, .slice b D.length d, .bool z, .slice e F.length f, .slice g G.length i, .bool t]))
  have hs0 : (w.alloc (.cells #[.string nm, .bool s, .slice a A.length c, .slice b D.length d, .bool z, .slice e F.length f, .slice g G.length i, .bool t] 28)).heap.size = w.heap.size + 1 := by simp
  clear BW
  generalize hW : w.alloc (.cells #[.string nm, .bool s, .slice a A.length c, .slice b D.length d, .bool z, .slice e F.length f, .slice g G.length i, .bool t] 28) = w0 at B rK LK hs0
  have HW := hid hW
  clear hW
  by_cases hsK : (nm.size : Int) + (A.length : Int) + (D.length : Int) + (F.length : Int) + (G.length : Int) ≤ 1048576
  case neg =>
    go_enter Try.func3, Try.ntmps3
    have q0 := LK.out.c 0 (v := .string nm) rfl
    have q1 := LK.out.c 1 (v := .bool s) rfl
    have q2 := LK.out.c 2 (v := .slice a A.length c) rfl
    have q3 := LK.out.c 3 (v := .slice b D.length d) rfl
    have q4 := LK.out.c 4 (v := .bool z) rfl
    have q5 := LK.out.c 5 (v := .slice e F.length f) rfl
    have q6 := LK.out.c 6 (v := .slice g G.length i) rfl
    have q7 := LK.out.c 7 (v := .bool t) rfl
    go_wp2_with fail
    rw [HW.out]
    (with_reducible refine (szCol_no nm s _ _ _ _ _ _ z _ _ _ _ _ _ t (1048576) hnK h1K h2K h3K h4K (by omega) (by omega) (by omega) _).mono ?_)
    clear q0 q1 q2 q3 q4 q5 q6 q7
    rintro e w1 ⟨rfl, b1⟩
    have t1 : w0.heap.size ≤ w1.heap.size := by have := b1.size; omega
    have rK := hid (rK.out.old b1)
    have LK := hid (LK.out.old b1)
    have B := hid (B.out.trans (b1.mono B.out.size))
    clear b1
    go_wp2
    go_ret
    exact ⟨rfl, B.out⟩
  have haK : A.length ≤ 1048576 := by omega
  have hdK : D.length ≤ 1048576 := by omega
  have hfK : F.length ≤ 1048576 := by omega
  have hgK : G.length ≤ 1048576 := by omega
  have hy0 : ¬ 1048576 - (nm.size : Int) - (A.length : Int) - (D.length : Int) - (F.length : Int) - (G.length : Int) < 0 := by omega
  obtain ⟨RR, hRR⟩ : ∃ RR, RR = hasU z F G := ⟨_, rfl⟩
  have HRR := hid hRR
  clear hRR
  have KS := hid (fun (W : World) (v0 u0 x0 y0 : Value) (g0 : ClW W v0 u0 x0 y0 A D F G) => (by
    have h := spec_HasUpper nm s z t hfK hgK W g0
    rw [← HRR.out] at h
    exact h : Calls Try.prog 11 #[.agg #[.string nm, .bool s, v0, u0, .bool z, x0, y0, .bool t]] W (RetB (.bool RR) W)))
  have KI := hid (fun (W : World) (v0 u0 x0 y0 : Value) (g0 : ClW W v0 u0 x0 y0 A D F G) => (by
    have h := impl_HasUpper nm s z t hfK hgK W g0
    rw [← HRR.out] at h
    exact h : Calls Try.prog 13 #[.agg #[.string nm, .bool s, v0, u0, .bool z, x0, y0, .bool t]] W (RetB (.bool RR) W)))
  go_enter Try.func3, Try.ntmps3
  have q0 := LK.out.c 0 (v := .string nm) rfl
  have q1 := LK.out.c 1 (v := .bool s) rfl
  have q2 := LK.out.c 2 (v := .slice a A.length c) rfl
  have q3 := LK.out.c 3 (v := .slice b D.length d) rfl
  have q4 := LK.out.c 4 (v := .bool z) rfl
  have q5 := LK.out.c 5 (v := .slice e F.length f) rfl
  have q6 := LK.out.c 6 (v := .slice g G.length i) rfl
  have q7 := LK.out.c 7 (v := .bool t) rfl
  go_wp2_with fail
  rw [HW.out]
  (with_reducible refine (szCol_yes nm s _ _ _ _ _ _ z _ _ _ _ _ _ t (1048576) (by omega) (by omega) _).mono ?_)
  clear q0 q1 q2 q3 q4 q5 q6 q7
  rintro e w1 ⟨rfl, b1⟩
  have t1 : w0.heap.size ≤ w1.heap.size := by have := b1.size; omega
  have rK := hid (rK.out.old b1)
  have LK := hid (LK.out.old b1)
  have B := hid (B.out.trans (b1.mono B.out.size))
  clear b1
  have q0 := LK.out.c 0 (v := .string nm) rfl
  have q1 := LK.out.c 1 (v := .bool s) rfl
  have q2 := LK.out.c 2 (v := .slice a A.length c) rfl
  have q3 := LK.out.c 3 (v := .slice b D.length d) rfl
  have q4 := LK.out.c 4 (v := .bool z) rfl
  have q5 := LK.out.c 5 (v := .slice e F.length f) rfl
  have q6 := LK.out.c 6 (v := .slice g G.length i) rfl
  have q7 := LK.out.c 7 (v := .bool t) rfl
  go_wp2_with fail
  (with_reducible refine (toCol_came nm s _ _ _ _ _ _ z _ _ _ _ _ _ t _ A D F G (by omega) (by omega) (by omega) (by omega) _ rK.out).mono ?_)
  clear q0 q1 q2 q3 q4 q5 q6 q7
  rintro e w2 ⟨a2, c2, b2, d2, e2, f2, g2, i2, m2, rfl, i1, l1, l2, b1⟩
  have t2 : w1.heap.size ≤ w2.heap.size := by have := b1.size; omega
  have rK := hid (rK.out.old b1)
  have LK := hid (LK.out.old b1)
  have B := hid (B.out.trans (b1.mono B.out.size))
  have T0 := hid i1
  clear i1 b1
  go_wp2_with fail
  (with_reducible refine (KS.out _ _ _ _ _ T0.out.w).mono ?_)
  rintro e w3 ⟨rfl, b1⟩
  have t3 : w2.heap.size ≤ w3.heap.size := by have := b1.size; omega
  have rK := hid (rK.out.old b1)
  have LK := hid (LK.out.old b1)
  have T0 := hid (T0.out.old b1)
  have B := hid (B.out.trans (b1.mono B.out.size))
  clear b1
  have q0 := LK.out.c 0 (v := .string nm) rfl
  have q1 := LK.out.c 1 (v := .bool s) rfl
  have q2 := LK.out.c 2 (v := .slice a A.length c) rfl
  have q3 := LK.out.c 3 (v := .slice b D.length d) rfl
  have q4 := LK.out.c 4 (v := .bool z) rfl
  have q5 := LK.out.c 5 (v := .slice e F.length f) rfl
  have q6 := LK.out.c 6 (v := .slice g G.length i) rfl
  have q7 := LK.out.c 7 (v := .bool t) rfl
  go_wp2_with fail
  (with_reducible refine (toCol_came nm s _ _ _ _ _ _ z _ _ _ _ _ _ t _ A D F G (by omega) (by omega) (by omega) (by omega) _ rK.out).mono ?_)
  clear q0 q1 q2 q3 q4 q5 q6 q7
  rintro e w4 ⟨a4, c4, b4, d4, e4, f4, g4, i4, m4, rfl, i1, l1, l2, b1⟩
  have t4 : w3.heap.size ≤ w4.heap.size := by have := b1.size; omega
  have rK := hid (rK.out.old b1)
  have LK := hid (LK.out.old b1)
  have B := hid (B.out.trans (b1.mono B.out.size))
  have X0 := hid i1
  clear i1 b1
  have rK := hid (rK.out.old (below_new' (o := .cells #[.string nm, .bool s, .slice a4 A.length c4, .slice b4 D.length d4, .bool z, .slice e4 F.length f4, .slice g4 G.length i4, .bool t] 35)))
  have LK := hid (LK.out.old (below_new' (o := .cells #[.string nm, .bool s, .slice a4 A.length c4, .slice b4 D.length d4, .bool z, .slice e4 F.length f4, .slice g4 G.length i4, .bool t] 35)))
  have X0 := hid (X0.out.old (below_new' (o := .cells #[.string nm, .bool s, .slice a4 A.length c4, .slice b4 D.length d4, .bool z, .slice e4 F.length f4, .slice g4 G.length i4, .bool t] 35)))
  have B := hid (B.out.alloc B.out.size (.cells #[.string nm, .bool s, .slice a4 A.length c4, .slice b4 D.length d4, .bool z, .slice e4 F.length f4, .slice g4 G.length i4, .bool t] 35))
  have LX0 := hid (LocA.new (w := w4) (T := 35) (cs := #[.string nm, .bool s, .slice a4 A.length c4, .slice b4 D.length d4, .bool z, .slice e4 F.length f4, .slice g4 G.length i4, .bool t]))
  have hs4 : (w4.alloc (.cells #[.string nm, .bool s, .slice a4 A.length c4, .slice b4 D.length d4, .bool z, .slice e4 F.length f4, .slice g4 G.length i4, .bool t] 35)).heap.size = w4.heap.size + 1 := by simp
  have q0 := LX0.out.c 0 (v := .string nm) rfl
  have q1 := LX0.out.c 1 (v := .bool s) rfl
  have q2 := LX0.out.c 2 (v := .slice a4 A.length c4) rfl
  have q3 := LX0.out.c 3 (v := .slice b4 D.length d4) rfl
  have q4 := LX0.out.c 4 (v := .bool z) rfl
  have q5 := LX0.out.c 5 (v := .slice e4 F.length f4) rfl
  have q6 := LX0.out.c 6 (v := .slice g4 G.length i4) rfl
  have q7 := LX0.out.c 7 (v := .bool t) rfl
  go_wp2_with fail
  (with_reducible refine (KI.out _ _ _ _ _ X0.out.w).mono ?_)
  clear q0 q1 q2 q3 q4 q5 q6 q7
  rintro e w5 ⟨rfl, b1⟩
  have t5 : w4.heap.size + 1 ≤ w5.heap.size := by have := b1.size; simp at this; omega
  have rK := hid (rK.out.old b1)
  have LK := hid (LK.out.old b1)
  have X0 := hid (X0.out.old b1)
  have LX0 := hid (LX0.out.old b1)
  have B := hid (B.out.trans (b1.mono B.out.size))
  clear b1
  have rK := hid (rK.out.old (Below_drew1 (Below.refl _ _)))
  have LK := hid (LK.out.old (Below_drew1 (Below.refl _ _)))
  have X0 := hid (X0.out.old (Below_drew1 (Below.refl _ _)))
  have LX0 := hid (LX0.out.old (Below_drew1 (Below.refl _ _)))
  have B := hid (Below_drew1 B.out)
  have q0 := LX0.out.c 0 (v := .string nm) rfl
  have q1 := LX0.out.c 1 (v := .bool s) rfl
  have q2 := LX0.out.c 2 (v := .slice a4 A.length c4) rfl
  have q3 := LX0.out.c 3 (v := .slice b4 D.length d4) rfl
  have q4 := LX0.out.c 4 (v := .bool z) rfl
  have q5 := LX0.out.c 5 (v := .slice e4 F.length f4) rfl
  have q6 := LX0.out.c 6 (v := .slice g4 G.length i4) rfl
  have q7 := LX0.out.c 7 (v := .bool t) rfl
  have q8 := LK.out.c 0 (v := .string nm) rfl
  have q9 := LK.out.c 1 (v := .bool s) rfl
  have q10 := LK.out.c 2 (v := .slice a A.length c) rfl
  have q11 := LK.out.c 3 (v := .slice b D.length d) rfl
  have q12 := LK.out.c 4 (v := .bool z) rfl
  have q13 := LK.out.c 5 (v := .slice e F.length f) rfl
  have q14 := LK.out.c 6 (v := .slice g G.length i) rfl
  have q15 := LK.out.c 7 (v := .bool t) rfl
  go_wp2_with fail
  go_region_held3 (fun w' => w'.cell? ⟨w4.heap.size, 0, none⟩ = some (.string nm) ∧ w'.cell? ⟨w4.heap.size, 1, none⟩ = some (.bool s) ∧ w'.cell? ⟨w4.heap.size, 2, none⟩ = some (.slice a4 A.length c4) ∧ w'.cell? ⟨w4.heap.size, 3, none⟩ = some (.slice b4 D.length d4) ∧ w'.cell? ⟨w4.heap.size, 4, none⟩ = some (.bool z) ∧ w'.cell? ⟨w4.heap.size, 5, none⟩ = some (.slice e4 F.length f4) ∧ w'.cell? ⟨w4.heap.size, 6, none⟩ = some (.slice g4 G.length i4) ∧ w'.cell? ⟨w4.heap.size, 7, none⟩ = some (.bool t) ∧ w'.cell? ⟨w.heap.size, 0, none⟩ = some (.string nm) ∧ w'.cell? ⟨w.heap.size, 1, none⟩ = some (.bool s) ∧ w'.cell? ⟨w.heap.size, 2, none⟩ = some (.slice a A.length c) ∧ w'.cell? ⟨w.heap.size, 3, none⟩ = some (.slice b D.length d) ∧ w'.cell? ⟨w.heap.size, 4, none⟩ = some (.bool z) ∧ w'.cell? ⟨w.heap.size, 5, none⟩ = some (.slice e F.length f) ∧ w'.cell? ⟨w.heap.size, 6, none⟩ = some (.slice g G.length i) ∧ w'.cell? ⟨w.heap.size, 7, none⟩ = some (.bool t)) (first | exact ⟨q0, q1, q2, q3, q4, q5, q6, q7, q8, q9, q10, q11, q12, q13, q14, q15⟩) (first | (go_at_call 12; (with_reducible refine (toCol_came nm s _ _ _ _ _ _ z _ _ _ _ _ _ t _ A D F G (by omega) (by omega) (by omega) (by omega) _ rK.out).mono ?_); rintro e w6 ⟨a6, c6, b6, d6, e6, f6, g6, i6, m6, rfl, i1, l1, l2, b1⟩; have t6 : w5.heap.size ≤ w6.heap.size := (by have := b1.size; first | exact this | omega | (simp at this; omega)); have rK := hid (rK.out.old b1); have LK := hid (LK.out.old b1); have X0 := hid (X0.out.old b1); have LX0 := hid (LX0.out.old b1); have B := hid (B.out.trans (b1.mono B.out.size)); have q0 := LX0.out.c 0 (v := .string nm) rfl; have q1 := LX0.out.c 1 (v := .bool s) rfl; have q2 := LX0.out.c 2 (v := .slice a4 A.length c4) rfl; have q3 := LX0.out.c 3 (v := .slice b4 D.length d4) rfl; have q4 := LX0.out.c 4 (v := .bool z) rfl; have q5 := LX0.out.c 5 (v := .slice e4 F.length f4) rfl; have q6 := LX0.out.c 6 (v := .slice g4 G.length i4) rfl; have q7 := LX0.out.c 7 (v := .bool t) rfl; have q8 := LK.out.c 0 (v := .string nm) rfl; have q9 := LK.out.c 1 (v := .bool s) rfl; have q10 := LK.out.c 2 (v := .slice a A.length c) rfl; have q11 := LK.out.c 3 (v := .slice b D.length d) rfl; have q12 := LK.out.c 4 (v := .bool z) rfl; have q13 := LK.out.c 5 (v := .slice e F.length f) rfl; have q14 := LK.out.c 6 (v := .slice g G.length i) rfl; have q15 := LK.out.c 7 (v := .bool t) rfl; have T0 := hid i1; clear i1 b1) | (go_at_call 14; (with_reducible refine (eqCol_k nm s z t (by omega) (by omega) (by omega) (by omega) _ X0.out.w T0.out.w).mono ?_); rintro e w7 ⟨rfl, b1⟩; have t7 : w6.heap.size ≤ w7.heap.size := (by have := b1.size; first | exact this | omega | (simp at this; omega)); have rK := hid (rK.out.old b1); have LK := hid (LK.out.old b1); have X0 := hid (X0.out.old b1); have LX0 := hid (LX0.out.old b1); have T0 := hid (T0.out.old b1); have B := hid (B.out.trans (b1.mono B.out.size)); have q0 := LX0.out.c 0 (v := .string nm) rfl; have q1 := LX0.out.c 1 (v := .bool s) rfl; have q2 := LX0.out.c 2 (v := .slice a4 A.length c4) rfl; have q3 := LX0.out.c 3 (v := .slice b4 D.length d4) rfl; have q4 := LX0.out.c 4 (v := .bool z) rfl; have q5 := LX0.out.c 5 (v := .slice e4 F.length f4) rfl; have q6 := LX0.out.c 6 (v := .slice g4 G.length i4) rfl; have q7 := LX0.out.c 7 (v := .bool t) rfl; have q8 := LK.out.c 0 (v := .string nm) rfl; have q9 := LK.out.c 1 (v := .bool s) rfl; have q10 := LK.out.c 2 (v := .slice a A.length c) rfl; have q11 := LK.out.c 3 (v := .slice b D.length d) rfl; have q12 := LK.out.c 4 (v := .bool z) rfl; have q13 := LK.out.c 5 (v := .slice e F.length f) rfl; have q14 := LK.out.c 6 (v := .slice g G.length i) rfl; have q15 := LK.out.c 7 (v := .bool t) rfl; clear b1))
  clear q0 q1 q2 q3 q4 q5 q6 q7 q8 q9 q10 q11 q12 q13 q14 q15
  go_wp2
  go_ret
  exact ⟨rfl, B.out⟩
end Go.Proofs.Yteanocjkdehhgaa
