/- The law BoundRows. -/
import Derived.Test.YteanocjkdehhgaaKs
import Derived.Deep.RegionHeld3
import Derived.Deep.DeepCutAuto
namespace Go.Proofs.Yteanocjkdehhgaa
open Go.RowKit
open Go.Lib (hid)
set_option linter.unusedVariables false

theorem gzl1_len : (gzl 1).length = 1 := by
  unfold gzl
  rw [show ((1 : Int).natAbs : Int) = 1 from rfl, capped_of (by decide)]
  simp [rep]
theorem bndQ_n (c x : Int) (s : Bool) (A D : List Int) : (bndQ c x s A D).n ≤ 6 + A.length + D.length := by
  have h1 : (tqo c (some ((1 : Int) : Rat))).A.length = 1 := by rw [tqo_A, show qn (some ((1 : Int) : Rat)) = 1 from rfl, gzl1_len]
  have h2 : (tqo c (some ((1 : Int) : Rat))).D.length = 1 := by rw [tqo_D, show qd (some ((1 : Int) : Rat)) = 1 from rfl, gzl1_len]
  simp only [Wq.n, bndQ, szT, Tq.n, h1, h2]; omega
theorem bndQ_t (c x : Int) (s : Bool) (A D : List Int) : szT (bndQ c x s A D).K ≤ 4194304 := by
  have h1 : (tqo c (some ((1 : Int) : Rat))).A.length = 1 := by rw [tqo_A, show qn (some ((1 : Int) : Rat)) = 1 from rfl, gzl1_len]
  have h2 : (tqo c (some ((1 : Int) : Rat))).D.length = 1 := by rw [tqo_D, show qd (some ((1 : Int) : Rat)) = 1 from rfl, gzl1_len]
  simp only [bndQ, szT, Tq.n, h1, h2]; omega
theorem lowR_n : ∀ (C : List Cq) (i : Nat), tot Wq.n (lowR C i) ≤ 6 * tot Cq.m C
  | [], _ => Nat.zero_le _
  | p :: C, i => by
    have h1 := lowR_n C (i + 1)
    have h2 := bndQ_n i 2 p.s p.A p.D
    simp only [lowR, tot, Cq.m]; omega
theorem upR_n : ∀ (C : List Cq) (i : Nat), tot Wq.n (upR C i) ≤ 6 * tot Cq.m C
  | [], _ => Nat.zero_le _
  | p :: C, i => by
    have h1 := upR_n C (i + 1)
    have h2 := bndQ_n i 1 p.z p.F p.G
    have h3 : tot Wq.n (upQ p i) ≤ 6 + p.F.length + p.G.length := by
      unfold upQ
      split
      · simp only [tot]; omega
      · simp only [tot]; omega
    simp only [upR, tot_append, tot, Cq.m]; omega
theorem bndR_n (C : List Cq) : tot Wq.n (bndR C) ≤ 12 * tot Cq.m C := by
  have h1 := lowR_n C 0
  have h2 := upR_n C 0
  rw [bndR, tot_append]; omega
theorem lowR_t : ∀ (C : List Cq) (i : Nat), ∀ q ∈ lowR C i, szT q.K ≤ 4194304
  | [], _, q, hq => (by cases hq)
  | p :: C, i, q, hq => by
    simp only [lowR, List.mem_cons] at hq
    rcases hq with rfl | hq
    · exact bndQ_t _ _ _ _ _
    · exact lowR_t C (i + 1) q hq
theorem upR_t : ∀ (C : List Cq) (i : Nat), ∀ q ∈ upR C i, szT q.K ≤ 4194304
  | [], _, q, hq => (by cases hq)
  | p :: C, i, q, hq => by
    rw [upR, List.mem_append] at hq
    rcases hq with hq | hq
    · unfold upQ at hq
      split at hq
      · rw [List.mem_singleton.1 hq]; exact bndQ_t _ _ _ _ _
      · cases hq
    · exact upR_t C (i + 1) q hq
theorem bndR_t (C : List Cq) : ∀ q ∈ bndR C, szT q.K ≤ 4194304 := fun q hq => (List.mem_append.1 hq).elim (lowR_t C 0 q) (upR_t C 0 q)
set_option maxRecDepth 100000 in
set_option maxHeartbeats 25600000 in
theorem law_BoundRows (a : Option Addr) (n c : Nat) (C : List Cq) (b : Option Addr) (m d : Nat) (K : List Tq) (e : Option Addr) (k f : Nat) (R : List Wq) (hnK : n ≤ maxLen) (hCK : ∀ f ∈ C, okC f) (hbK : m ≤ maxLen) (hmK : ∀ f ∈ K, f.A.length ≤ maxLen ∧ f.D.length ≤ maxLen) (hkK : k ≤ maxLen) (hRK : ∀ f ∈ R, okR f) (w : World) (rK : NCame w w.heap.size a n C b m K e k R) :
    Calls Try.prog 5 #[.agg #[.slice a n c, .slice b m d, .slice e k f]] w (RetB (.bool true) w) := by
  have BW := below_new' (w := w) (o := .cells #[.slice a n c, .slice b m d, .slice e k f] 43)
  have B := hid BW
  have rK := hid (rK.old BW)
  have LK := hid (LocA.new (w := w) (T := 43) (cs := #[.slice a n c, .slice b m d, .slice e k f]))
  have hs0 : (w.alloc (.cells #[.slice a n c, .slice b m d, .slice e k f] 43)).heap.size = w.heap.size + 1 := by simp
  clear BW
  generalize hW : w.alloc (.cells #[.slice a n c, .slice b m d, .slice e k f] 43) = w0 at B rK LK hs0
  have HW := hid hW
  clear hW
  by_cases hsK : (tot Cq.m C : Int) + (szU K : Int) + (tot Wq.m R : Int) ≤ 1048576
  case neg =>
    go_enter Try.func5, Try.ntmps5
    have q0 := LK.out.c 0 (v := .slice a n c) rfl
    have q1 := LK.out.c 1 (v := .slice b m d) rfl
    have q2 := LK.out.c 2 (v := .slice e k f) rfl
    go_wp2_with fail
    rw [HW.out]
    (with_reducible refine (szModel_no _ _ _ _ _ _ _ _ _ _ C K R (1048576) hnK hCK hbK hmK hkK hRK (by omega) (by omega) (by omega) _ rK.out).mono ?_)
    clear q0 q1 q2
    rintro e w1 ⟨rfl, b1⟩
    have t1 : w0.heap.size ≤ w1.heap.size := by have := b1.size; omega
    have rK := hid (rK.out.old b1)
    have LK := hid (LK.out.old b1)
    have B := hid (B.out.trans (b1.mono B.out.size))
    clear b1
    go_wp2
    go_ret
    exact ⟨rfl, B.out⟩
  have hMK := szM1_le C K R
  simp only [szM0] at hMK
  have hXK : szM1 C K R ≤ 4194304 := by omega
  have hQK := hXK
  simp only [szM1] at hQK
  have hcK : tot Cq.m C ≤ 1048576 := by omega
  have huK : szU K ≤ 1048576 := by omega
  have hwK : tot Wq.m R ≤ 1048576 := by omega
  have hy0 : ¬ 1048576 - (tot Cq.m C : Int) - (szU K : Int) - (tot Wq.m R : Int) < 0 := by omega
  obtain ⟨RR, hRR⟩ : ∃ RR : List Wq, RR = bndR C := ⟨_, rfl⟩
  have hr1 : tot Wq.n RR ≤ 12582912 := by have := bndR_n C; rw [hRR]; omega
  have hr3 : ∀ q ∈ RR, szT q.K ≤ 4194304 := by rw [hRR]; exact bndR_t C
  have HRR := hid hRR
  clear hRR
  have KS := hid (fun (W : World) (x0 y0 z0 : Value) (g0 : MdW W x0 y0 z0 C K R) => (by
    have h := spec_BoundRows (by have := tot_len Cq.m1 C; omega) (SmC.of hcK).1 W g0
    rw [← HRR.out] at h
    exact h : Calls Try.prog 24 #[.agg #[x0, y0, z0]] W (RSR RR W)))
  have KI := hid (fun (W : World) (x0 y0 z0 : Value) (g0 : MdW W x0 y0 z0 C K R) => (by
    have h := impl_BoundRows (by have := tot_len Cq.m1 C; omega) (SmC.of hcK).1 W g0
    rw [← HRR.out] at h
    exact h : Calls Try.prog 25 #[.agg #[x0, y0, z0]] W (RMR RR W)))
  go_enter Try.func5, Try.ntmps5
  have q0 := LK.out.c 0 (v := .slice a n c) rfl
  have q1 := LK.out.c 1 (v := .slice b m d) rfl
  have q2 := LK.out.c 2 (v := .slice e k f) rfl
  go_wp2_with fail
  rw [HW.out]
  (with_reducible refine (szModel_yes _ _ _ _ _ _ _ _ _ _ C K R (1048576) (by omega) (by omega) _ rK.out).mono ?_)
  clear q0 q1 q2
  rintro e w1 ⟨rfl, b1⟩
  have t1 : w0.heap.size ≤ w1.heap.size := by have := b1.size; omega
  have rK := hid (rK.out.old b1)
  have LK := hid (LK.out.old b1)
  have B := hid (B.out.trans (b1.mono B.out.size))
  clear b1
  have q0 := LK.out.c 0 (v := .slice a n c) rfl
  have q1 := LK.out.c 1 (v := .slice b m d) rfl
  have q2 := LK.out.c 2 (v := .slice e k f) rfl
  go_wp2_with fail
  (with_reducible refine (toModel_came _ _ _ _ _ _ _ _ _ _ C K R hcK huK hwK _ rK.out).mono ?_)
  clear q0 q1 q2
  rintro e w2 ⟨a2, c2, b2, d2, g2, f2, rfl, i1, b1⟩
  have t2 : w1.heap.size ≤ w2.heap.size := by have := b1.size; omega
  have rK := hid (rK.out.old b1)
  have LK := hid (LK.out.old b1)
  have B := hid (B.out.trans (b1.mono B.out.size))
  have T0 := hid i1
  clear i1 b1
  go_wp2_with fail
  (with_reducible refine (KS.out _ _ _ _ T0.out.w).mono ?_)
  rintro e w3 ⟨a3, c3, rfl, i1, b1⟩
  have t3 : w2.heap.size ≤ w3.heap.size := by have := b1.size; omega
  have rK := hid (rK.out.old b1)
  have LK := hid (LK.out.old b1)
  have T0 := hid (T0.out.old b1)
  have B := hid (B.out.trans (b1.mono B.out.size))
  have W0 := hid (i1)
  clear i1 b1
  have q0 := LK.out.c 0 (v := .slice a n c) rfl
  have q1 := LK.out.c 1 (v := .slice b m d) rfl
  have q2 := LK.out.c 2 (v := .slice e k f) rfl
  go_wp2_with fail
  (with_reducible refine (toModel_came _ _ _ _ _ _ _ _ _ _ C K R hcK huK hwK _ rK.out).mono ?_)
  clear q0 q1 q2
  rintro e w4 ⟨a4, c4, b4, d4, g4, f4, rfl, i1, b1⟩
  have t4 : w3.heap.size ≤ w4.heap.size := by have := b1.size; omega
  have rK := hid (rK.out.old b1)
  have LK := hid (LK.out.old b1)
  have W0 := hid (W0.out.old b1)
  have B := hid (B.out.trans (b1.mono B.out.size))
  have X0 := hid i1
  clear i1 b1
  have rK := hid (rK.out.old (below_new' (o := .cells #[.slice a4 C.length c4, .slice b4 K.length d4, .slice g4 R.length f4] 51)))
  have LK := hid (LK.out.old (below_new' (o := .cells #[.slice a4 C.length c4, .slice b4 K.length d4, .slice g4 R.length f4] 51)))
  have W0 := hid (W0.out.old (below_new' (o := .cells #[.slice a4 C.length c4, .slice b4 K.length d4, .slice g4 R.length f4] 51)))
  have X0 := hid (X0.out.old (below_new' (o := .cells #[.slice a4 C.length c4, .slice b4 K.length d4, .slice g4 R.length f4] 51)))
  have B := hid (B.out.alloc B.out.size (.cells #[.slice a4 C.length c4, .slice b4 K.length d4, .slice g4 R.length f4] 51))
  have LX0 := hid (LocA.new (w := w4) (T := 51) (cs := #[.slice a4 C.length c4, .slice b4 K.length d4, .slice g4 R.length f4]))
  have hs4 : (w4.alloc (.cells #[.slice a4 C.length c4, .slice b4 K.length d4, .slice g4 R.length f4] 51)).heap.size = w4.heap.size + 1 := by simp
  have q0 := LX0.out.c 0 (v := .slice a4 C.length c4) rfl
  have q1 := LX0.out.c 1 (v := .slice b4 K.length d4) rfl
  have q2 := LX0.out.c 2 (v := .slice g4 R.length f4) rfl
  go_wp2_with fail
  (with_reducible refine (KI.out _ _ _ _ X0.out.w).mono ?_)
  clear q0 q1 q2
  rintro e w5 ⟨a5, c5, rfl, i1, b1⟩
  have t5 : w4.heap.size + 1 ≤ w5.heap.size := by have := b1.size; simp at this; omega
  have rK := hid (rK.out.old b1)
  have LK := hid (LK.out.old b1)
  have W0 := hid (W0.out.old b1)
  have X0 := hid (X0.out.old b1)
  have LX0 := hid (LX0.out.old b1)
  have B := hid (B.out.trans (b1.mono B.out.size))
  have G0 := hid ((show RMO _ _ RR _ _ from ⟨i1, Nat.le_refl _⟩))
  clear i1 b1
  go_wp2_with fail
  (with_reducible refine (eqRowS_k (by omega) hr3 _ G0.out.r W0.out.r).mono ?_)
  rintro e w6 ⟨rfl, b1⟩
  have t6 : w5.heap.size ≤ w6.heap.size := by have := b1.size; omega
  have rK := hid (rK.out.old b1)
  have LK := hid (LK.out.old b1)
  have W0 := hid (W0.out.old b1)
  have X0 := hid (X0.out.old b1)
  have LX0 := hid (LX0.out.old b1)
  have G0 := hid (G0.out.old b1)
  have B := hid (B.out.trans (b1.mono B.out.size))
  clear b1
  have rK := hid (rK.out.old (Below_drew1 (Below.refl _ _)))
  have LK := hid (LK.out.old (Below_drew1 (Below.refl _ _)))
  have W0 := hid (W0.out.old (Below_drew1 (Below.refl _ _)))
  have X0 := hid (X0.out.old (Below_drew1 (Below.refl _ _)))
  have LX0 := hid (LX0.out.old (Below_drew1 (Below.refl _ _)))
  have G0 := hid (G0.out.old (Below_drew1 (Below.refl _ _)))
  have B := hid (Below_drew1 B.out)
  have q0 := LX0.out.c 0 (v := .slice a4 C.length c4) rfl
  have q1 := LX0.out.c 1 (v := .slice b4 K.length d4) rfl
  have q2 := LX0.out.c 2 (v := .slice g4 R.length f4) rfl
  have q3 := LK.out.c 0 (v := .slice a n c) rfl
  have q4 := LK.out.c 1 (v := .slice b m d) rfl
  have q5 := LK.out.c 2 (v := .slice e k f) rfl
  go_wp2_with fail
  go_region_held3 (fun w' => w'.cell? ⟨w4.heap.size, 0, none⟩ = some (.slice a4 C.length c4) ∧ w'.cell? ⟨w4.heap.size, 1, none⟩ = some (.slice b4 K.length d4) ∧ w'.cell? ⟨w4.heap.size, 2, none⟩ = some (.slice g4 R.length f4) ∧ w'.cell? ⟨w.heap.size, 0, none⟩ = some (.slice a n c) ∧ w'.cell? ⟨w.heap.size, 1, none⟩ = some (.slice b m d) ∧ w'.cell? ⟨w.heap.size, 2, none⟩ = some (.slice e k f)) (first | exact ⟨q0, q1, q2, q3, q4, q5⟩) (first | (go_at_call 17; (with_reducible refine (toModel_came _ _ _ _ _ _ _ _ _ _ C K R hcK huK hwK _ rK.out).mono ?_); rintro e w7 ⟨a7, c7, b7, d7, g7, f7, rfl, i1, b1⟩; have t7 : w6.heap.size ≤ w7.heap.size := (by have := b1.size; first | exact this | omega | (simp at this; omega)); have rK := hid (rK.out.old b1); have LK := hid (LK.out.old b1); have W0 := hid (W0.out.old b1); have X0 := hid (X0.out.old b1); have LX0 := hid (LX0.out.old b1); have G0 := hid (G0.out.old b1); have B := hid (B.out.trans (b1.mono B.out.size)); have q0 := LX0.out.c 0 (v := .slice a4 C.length c4) rfl; have q1 := LX0.out.c 1 (v := .slice b4 K.length d4) rfl; have q2 := LX0.out.c 2 (v := .slice g4 R.length f4) rfl; have q3 := LK.out.c 0 (v := .slice a n c) rfl; have q4 := LK.out.c 1 (v := .slice b m d) rfl; have q5 := LK.out.c 2 (v := .slice e k f) rfl; have T0 := hid i1; clear i1 b1) | (go_at_call 20; (with_reducible refine (eqModel_k hXK _ X0.out.w T0.out.w).mono ?_); rintro e w8 ⟨rfl, b1⟩; have t8 : w7.heap.size ≤ w8.heap.size := (by have := b1.size; first | exact this | omega | (simp at this; omega)); have rK := hid (rK.out.old b1); have LK := hid (LK.out.old b1); have W0 := hid (W0.out.old b1); have X0 := hid (X0.out.old b1); have LX0 := hid (LX0.out.old b1); have G0 := hid (G0.out.old b1); have T0 := hid (T0.out.old b1); have B := hid (B.out.trans (b1.mono B.out.size)); have q0 := LX0.out.c 0 (v := .slice a4 C.length c4) rfl; have q1 := LX0.out.c 1 (v := .slice b4 K.length d4) rfl; have q2 := LX0.out.c 2 (v := .slice g4 R.length f4) rfl; have q3 := LK.out.c 0 (v := .slice a n c) rfl; have q4 := LK.out.c 1 (v := .slice b m d) rfl; have q5 := LK.out.c 2 (v := .slice e k f) rfl; clear b1))
  clear q0 q1 q2 q3 q4 q5
  have q0 := LX0.out.c 0 (v := .slice a4 C.length c4) rfl
  have q1 := LX0.out.c 1 (v := .slice b4 K.length d4) rfl
  have q2 := LX0.out.c 2 (v := .slice g4 R.length f4) rfl
  go_wp2_with fail
  (with_reducible refine (markModel_o (m := 1) hXK (by omega) (by omega) _ X0.out).mono ?_)
  clear q0 q1 q2
  rintro e w9 ⟨rfl, o1, b1⟩
  have t9 : w8.heap.size ≤ w9.heap.size := by have := b1.size; omega
  have X0 := hid o1
  have rK := hid (rK.out.onlyG b1 (by omega))
  have LK := hid (LK.out.onlyG b1 (by omega))
  have W0 := hid (W0.out.onlyG b1 (by omega))
  have LX0 := hid (LX0.out.onlyG b1 (by omega))
  have G0 := hid (G0.out.onlyG b1 (by omega))
  have B := hid (in_onlyR B.out b1 (by omega))
  clear o1 b1
  have hm0 : ¬ 1 + (tot Cq.nm C : Int) + (szT K : Int) + (tot Wq.n R : Int) < 0 := by omega
  go_wp2_with fail
  (with_reducible refine (eqRowS_k (by omega) hr3 _ G0.out.r W0.out.r).mono ?_)
  rintro e w10 ⟨rfl, b1⟩
  have t10 : w9.heap.size ≤ w10.heap.size := by have := b1.size; omega
  have rK := hid (rK.out.old b1)
  have LK := hid (LK.out.old b1)
  have W0 := hid (W0.out.old b1)
  have X0 := hid (X0.out.old b1)
  have LX0 := hid (LX0.out.old b1)
  have G0 := hid (G0.out.old b1)
  have B := hid (B.out.trans (b1.mono B.out.size))
  clear b1
  go_wp2_with fail
  (with_reducible refine (markRowS_o (m := 1) (by omega) (by omega) (by omega) _ G0.out).mono ?_)
  rintro e w11 ⟨rfl, o1, b1⟩
  have t11 : w10.heap.size ≤ w11.heap.size := by have := b1.size; omega
  have G0 := hid o1
  have rK := hid (rK.out.onlyG b1 (by omega))
  have LK := hid (LK.out.onlyG b1 (by omega))
  have W0 := hid (W0.out.onlyG b1 (by omega))
  have B := hid (in_onlyR B.out b1 (by omega))
  clear o1 b1
  have hq0 : ¬ 1 + (tot Wq.n RR : Int) < 0 := by omega
  go_wp2_with fail
  (with_reducible refine (heldRowS_o (m := 1) (by omega) (by omega) (by omega) _ G0.out).mono ?_)
  rintro e w12 ⟨rfl, b1⟩
  have t12 : w11.heap.size ≤ w12.heap.size := by have := b1.size; omega
  have rK := hid (rK.out.old b1)
  have LK := hid (LK.out.old b1)
  have W0 := hid (W0.out.old b1)
  have G0 := hid (G0.out.old b1)
  have B := hid (B.out.trans (b1.mono B.out.size))
  clear b1
  have q0 := LK.out.c 0 (v := .slice a n c) rfl
  have q1 := LK.out.c 1 (v := .slice b m d) rfl
  have q2 := LK.out.c 2 (v := .slice e k f) rfl
  go_wp2_with fail
  (with_reducible refine (toModel_came _ _ _ _ _ _ _ _ _ _ C K R hcK huK hwK _ rK.out).mono ?_)
  clear q0 q1 q2
  rintro e w13 ⟨a13, c13, b13, d13, g13, f13, rfl, i1, b1⟩
  have t13 : w12.heap.size ≤ w13.heap.size := by have := b1.size; omega
  have rK := hid (rK.out.old b1)
  have LK := hid (LK.out.old b1)
  have W0 := hid (W0.out.old b1)
  have G0 := hid (G0.out.old b1)
  have B := hid (B.out.trans (b1.mono B.out.size))
  have T0 := hid i1
  clear i1 b1
  go_wp2_with fail
  (with_reducible refine (KI.out _ _ _ _ T0.out.w).mono ?_)
  rintro e w14 ⟨a14, c14, rfl, i1, b1⟩
  have t14 : w13.heap.size ≤ w14.heap.size := by have := b1.size; omega
  have rK := hid (rK.out.old b1)
  have LK := hid (LK.out.old b1)
  have W0 := hid (W0.out.old b1)
  have G0 := hid (G0.out.old b1)
  have T0 := hid (T0.out.old b1)
  have B := hid (B.out.trans (b1.mono B.out.size))
  have H0 := hid ((show RMO _ _ RR _ _ from ⟨i1, Nat.le_refl _⟩))
  clear i1 b1
  go_wp2_with fail
  (with_reducible refine (eqRowS_k (by omega) hr3 _ H0.out.r W0.out.r).mono ?_)
  rintro e w15 ⟨rfl, b1⟩
  have t15 : w14.heap.size ≤ w15.heap.size := by have := b1.size; omega
  have rK := hid (rK.out.old b1)
  have LK := hid (LK.out.old b1)
  have W0 := hid (W0.out.old b1)
  have G0 := hid (G0.out.old b1)
  have H0 := hid (H0.out.old b1)
  have B := hid (B.out.trans (b1.mono B.out.size))
  clear b1
  go_wp2_with fail
  (with_reducible refine (heldRowS_o (m := 1) (by omega) (by omega) (by omega) _ G0.out).mono ?_)
  rintro e w16 ⟨rfl, b1⟩
  have t16 : w15.heap.size ≤ w16.heap.size := by have := b1.size; omega
  have rK := hid (rK.out.old b1)
  have LK := hid (LK.out.old b1)
  have W0 := hid (W0.out.old b1)
  have G0 := hid (G0.out.old b1)
  have H0 := hid (H0.out.old b1)
  have B := hid (B.out.trans (b1.mono B.out.size))
  clear b1
  go_wp2
  go_ret
  exact ⟨rfl, B.out⟩
end Go.Proofs.Yteanocjkdehhgaa
