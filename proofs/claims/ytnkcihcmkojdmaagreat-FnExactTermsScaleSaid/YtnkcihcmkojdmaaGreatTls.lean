/- The law TermsScale. -/
import Derived.Test.YtnkcihcmkojdmaaGreatTsi
import Derived.Test.YtnkcihcmkojdmaaGreatTss
import Derived.Deep.RegionHeld3
import Derived.Deep.DeepCutAuto
namespace Go.Proofs.YtnkcihcmkojdmaaGreat
open Go.RowKit
open Go.Lib (hid)
set_option linter.unusedVariables false

set_option maxRecDepth 100000 in
set_option maxHeartbeats 25600000 in
theorem law_TermsScale (a : Option Addr) (n c : Nat) (K : List Tq) (hnK : n ≤ maxLen) (hmK : ∀ f ∈ K, f.A.length ≤ maxLen ∧ f.D.length ≤ maxLen) (s : Bool) (ba : Option Addr) (m1 da : Nat) (A : List Int) (ea : Option Addr) (k1 fa : Nat) (D : List Int) (hm1 : m1 ≤ maxLen) (hk1 : k1 ≤ maxLen) (w : World) (rK : TCame w w.heap.size a n K) (rA : RowI w ba m1 A) (rD : RowI w ea k1 D) :
    Calls Tryz.prog 5 #[.slice a n c, .agg #[.bool s, .slice ba m1 da, .slice ea k1 fa]] w (RetB (.bool true) w) := by
  obtain rfl := rA.1
  obtain rfl := rD.1
  have BW := below_new' (w := w) (o := .cells #[.bool s, .slice ba A.length da, .slice ea D.length fa] 54)
  have B := hid BW
  have rR := hid (CameR.old ⟨Came.of rA, Came.of rD⟩ BW)
  have rK := hid (rK.old BW)
  have LR := hid (LocA.new (w := w) (T := 54) (cs := #[.bool s, .slice ba A.length da, .slice ea D.length fa]))
  have hs0 : (w.alloc (.cells #[.bool s, .slice ba A.length da, .slice ea D.length fa] 54)).heap.size = w.heap.size + 1 := by simp
  clear BW rA rD
  generalize hW : w.alloc (.cells #[.bool s, .slice ba A.length da, .slice ea D.length fa] 54) = w0 at B rR rK LR hs0
  have HW := hid hW
  clear hW
  by_cases hsK : (szU K : Int) ≤ 1048576
  case neg =>
    go_enter Tryz.func5, Tryz.ntmps5
    go_wp2_with fail
    rw [HW.out]
    (with_reducible refine (szTermS_no _ _ _ _ K 1048576 hnK hmK (by omega) (by omega) (by omega) _ rK.out).mono ?_)
    rintro e w1 ⟨rfl, b1⟩
    have t1 : w0.heap.size ≤ w1.heap.size := by have := b1.size; omega
    have rK := hid (rK.out.old b1)
    have rR := hid (rR.out.old b1)
    have LR := hid (LR.out.old b1)
    have B := hid (B.out.trans (b1.mono B.out.size))
    clear b1
    go_wp2
    go_ret
    exact ⟨rfl, B.out⟩
  by_cases hsR : (A.length : Int) + (D.length : Int) ≤ 1048576 - (szU K : Int)
  case neg =>
    go_enter Tryz.func5, Tryz.ntmps5
    go_wp2_with fail
    rw [HW.out]
    (with_reducible refine (szTermS_yes _ _ _ _ K 1048576 (by omega) (by omega) _ rK.out).mono ?_)
    rintro e w1 ⟨rfl, b1⟩
    have t1 : w0.heap.size ≤ w1.heap.size := by have := b1.size; omega
    have rK := hid (rK.out.old b1)
    have rR := hid (rR.out.old b1)
    have LR := hid (LR.out.old b1)
    have B := hid (B.out.trans (b1.mono B.out.size))
    clear b1
    have q0 := LR.out.c 0 (v := .bool s) rfl
    have q1 := LR.out.c 1 (v := .slice ba A.length da) rfl
    have q2 := LR.out.c 2 (v := .slice ea D.length fa) rfl
    go_wp2_with fail
    (with_reducible refine (szRat_no s ba A.length da ea D.length fa (1048576 - (szU K : Int)) hm1 hk1 (by omega) (by omega) (by omega) _).mono ?_)
    clear q0 q1 q2
    rintro e w2 ⟨rfl, b1⟩
    have t2 : w1.heap.size ≤ w2.heap.size := by have := b1.size; omega
    have rK := hid (rK.out.old b1)
    have rR := hid (rR.out.old b1)
    have LR := hid (LR.out.old b1)
    have B := hid (B.out.trans (b1.mono B.out.size))
    clear b1
    go_wp2
    go_ret
    exact ⟨rfl, B.out⟩
  have hzt := szT_szU K
  obtain ⟨oo, hoo⟩ : ∃ oo, oo = rval s A D := ⟨_, rfl⟩
  obtain ⟨RR, hRR⟩ : ∃ RR, RR = scaleT K oo := ⟨_, rfl⟩
  have hrs : szT RR ≤ 2000 := by rw [hRR]; exact scaleT_sz
  have HRR := hid hRR
  have HOO := hid hoo
  clear hRR hoo
  have hSK : SmT K := SmT.of (by omega)
  have hla : A.length ≤ 1048576 := by omega
  have hld : D.length ≤ 1048576 := by omega
  have hy : ¬ 1048576 - (szU K : Int) - (A.length : Int) - (D.length : Int) < 0 := by omega
  have hy1 : ¬ 1048576 - (szU K : Int) < 0 := by omega
  have KS := hid (fun (W : World) (v : Option Addr) (n c : Nat) (lo hi : Nat) (p : Bool) (u1 u2 : Value) (l2 h2 : Nat) (hv : TK p W (.slice v n c) K lo hi) (hr : ROb W u1 u2 A D l2 h2) => (by
    obtain ⟨x1, x2, x3, x4, rfl, rfl⟩ := hr.form
    have h := spec_TermsScale hSK W hv ⟨A, D, hr.rl hla hld, HOO.out.symm⟩
    rw [← HRR.out] at h
    exact h : Calls Tryz.prog 30 #[.slice v n c, .agg #[.bool s, u1, u2]] W (TerR false RR W)))
  have KI := hid (fun (W : World) (v : Option Addr) (n c : Nat) (lo hi : Nat) (p : Bool) (u1 u2 : Value) (l2 h2 : Nat) (hv : TK p W (.slice v n c) K lo hi) (hr : ROb W u1 u2 A D l2 h2) => (by
    obtain ⟨x1, x2, x3, x4, rfl, rfl⟩ := hr.form
    have h := impl_TermsScale hSK W hv ⟨A, D, hr.rl hla hld, HOO.out.symm⟩
    rw [← HRR.out] at h
    exact h : Calls Tryz.prog 32 #[.slice v n c, .agg #[.bool s, u1, u2]] W (TerR true RR W)))
  go_enter Tryz.func5, Tryz.ntmps5
  go_wp2_with fail
  rw [HW.out]
  (with_reducible refine (szTermS_yes _ _ _ _ K 1048576 (by omega) (by omega) _ rK.out).mono ?_)
  rintro e w1 ⟨rfl, b1⟩
  have t1 : w0.heap.size ≤ w1.heap.size := by have := b1.size; omega
  have rK := hid (rK.out.old b1)
  have rR := hid (rR.out.old b1)
  have LR := hid (LR.out.old b1)
  have B := hid (B.out.trans (b1.mono B.out.size))
  clear b1
  have q0 := LR.out.c 0 (v := .bool s) rfl
  have q1 := LR.out.c 1 (v := .slice ba A.length da) rfl
  have q2 := LR.out.c 2 (v := .slice ea D.length fa) rfl
  go_wp2_with fail
  (with_reducible refine (szRat_yes s ba A.length da ea D.length fa (1048576 - (szU K : Int)) (by omega) (by omega) _).mono ?_)
  clear q0 q1 q2
  rintro e w2 ⟨rfl, b1⟩
  have t2 : w1.heap.size ≤ w2.heap.size := by have := b1.size; omega
  have rK := hid (rK.out.old b1)
  have rR := hid (rR.out.old b1)
  have LR := hid (LR.out.old b1)
  have B := hid (B.out.trans (b1.mono B.out.size))
  clear b1
  have rK := hid (rK.out.old (Below_drew1 (Below.refl _ _)))
  have rR := hid (rR.out.old (Below_drew1 (Below.refl _ _)))
  have LR := hid (LR.out.old (Below_drew1 (Below.refl _ _)))
  have B := hid (Below_drew1 B.out)
  have q0 := LR.out.c 0 (v := .bool s) rfl
  have q1 := LR.out.c 1 (v := .slice ba A.length da) rfl
  have q2 := LR.out.c 2 (v := .slice ea D.length fa) rfl
  go_wp2_with fail
  go_region_held3 (fun w' => w'.cell? ⟨w.heap.size, 0, none⟩ = some (.bool s) ∧ w'.cell? ⟨w.heap.size, 1, none⟩ = some (.slice ba A.length da) ∧ w'.cell? ⟨w.heap.size, 2, none⟩ = some (.slice ea D.length fa)) (first | exact ⟨q0, q1, q2⟩) (first | (go_at_call 24; (with_reducible refine (toTermS_came _ _ _ _ K (by omega) _ rK.out).mono ?_); rintro e w3 ⟨a3, n3, c3, rfl, i1, b1⟩; have t3 : w2.heap.size ≤ w3.heap.size := (by have := b1.size; first | exact this | omega | (simp at this; omega)); have rK := hid (rK.out.old b1); have rR := hid (rR.out.old b1); have LR := hid (LR.out.old b1); have B := hid (B.out.trans (b1.mono B.out.size)); have q0 := LR.out.c 0 (v := .bool s) rfl; have q1 := LR.out.c 1 (v := .slice ba A.length da) rfl; have q2 := LR.out.c 2 (v := .slice ea D.length fa) rfl; have TK := hid i1; clear i1; clear b1) | (go_at_call 31; (with_reducible refine (toRat_came _ _ _ _ _ _ _ _ _ _ (by omega) (by omega) _ rR.out).mono ?_); rintro e w4 ⟨v4, u4, rfl, i1, b1⟩; have t4 : w3.heap.size ≤ w4.heap.size := (by have := b1.size; first | exact this | omega | (simp at this; omega)); have rK := hid (rK.out.old b1); have rR := hid (rR.out.old b1); have LR := hid (LR.out.old b1); have TK := hid (TK.out.old b1); have B := hid (B.out.trans (b1.mono B.out.size)); have q0 := LR.out.c 0 (v := .bool s) rfl; have q1 := LR.out.c 1 (v := .slice ba A.length da) rfl; have q2 := LR.out.c 2 (v := .slice ea D.length fa) rfl; have TR0 := hid i1; clear i1; obtain ⟨x4, y4, z4, p4, rfl, rfl⟩ := TR0.out.form; clear b1) | (go_at_call 30; (with_reducible refine (KS.out _ _ _ _ _ _ _ _ _ _ _ TK.out TR0.out).mono ?_); rintro e w5 ⟨a5, n5, c5, rfl, i1, b1⟩; have t5 : w4.heap.size ≤ w5.heap.size := (by have := b1.size; first | exact this | omega | (simp at this; omega)); have rK := hid (rK.out.old b1); have rR := hid (rR.out.old b1); have LR := hid (LR.out.old b1); have TK := hid (TK.out.old b1); have TR0 := hid (TR0.out.old b1); have B := hid (B.out.trans (b1.mono B.out.size)); have q0 := LR.out.c 0 (v := .bool s) rfl; have q1 := LR.out.c 1 (v := .slice ba A.length da) rfl; have q2 := LR.out.c 2 (v := .slice ea D.length fa) rfl; have W0 := hid i1; clear i1; clear b1))
  clear q0 q1 q2
  go_wp2_with fail
  (with_reducible refine (toTermS_came _ _ _ _ K (by omega) _ rK.out).mono ?_)
  rintro e w6 ⟨a6, n6, c6, rfl, i1, b1⟩
  have t6 : w5.heap.size ≤ w6.heap.size := by have := b1.size; omega
  have rK := hid (rK.out.old b1)
  have rR := hid (rR.out.old b1)
  have LR := hid (LR.out.old b1)
  have W0 := hid (W0.out.old b1)
  have B := hid (B.out.trans (b1.mono B.out.size))
  have X0 := hid i1
  clear i1 b1
  have q0 := LR.out.c 0 (v := .bool s) rfl
  have q1 := LR.out.c 1 (v := .slice ba A.length da) rfl
  have q2 := LR.out.c 2 (v := .slice ea D.length fa) rfl
  go_wp2_with fail
  (with_reducible refine (toRat_came _ _ _ _ _ _ _ _ _ _ (by omega) (by omega) _ rR.out).mono ?_)
  clear q0 q1 q2
  rintro e w7 ⟨v7, u7, rfl, i1, b1⟩
  have t7 : w6.heap.size ≤ w7.heap.size := by have := b1.size; omega
  have rK := hid (rK.out.old b1)
  have rR := hid (rR.out.old b1)
  have LR := hid (LR.out.old b1)
  have W0 := hid (W0.out.old b1)
  have X0 := hid (X0.out.old b1)
  have B := hid (B.out.trans (b1.mono B.out.size))
  have X1 := hid i1
  obtain ⟨x7, y7, z7, p7, rfl, rfl⟩ := i1.form
  clear i1 b1
  have rK := hid (rK.out.old (below_new' (o := .cells #[.bool s, .slice x7 A.length y7, .slice z7 D.length p7] 30)))
  have rR := hid (rR.out.old (below_new' (o := .cells #[.bool s, .slice x7 A.length y7, .slice z7 D.length p7] 30)))
  have LR := hid (LR.out.old (below_new' (o := .cells #[.bool s, .slice x7 A.length y7, .slice z7 D.length p7] 30)))
  have W0 := hid (W0.out.old (below_new' (o := .cells #[.bool s, .slice x7 A.length y7, .slice z7 D.length p7] 30)))
  have X0 := hid (X0.out.old (below_new' (o := .cells #[.bool s, .slice x7 A.length y7, .slice z7 D.length p7] 30)))
  have X1 := hid (X1.out.old (below_new' (o := .cells #[.bool s, .slice x7 A.length y7, .slice z7 D.length p7] 30)))
  have B := hid (B.out.alloc B.out.size (.cells #[.bool s, .slice x7 A.length y7, .slice z7 D.length p7] 30))
  have LX := hid (LocA.new (w := w7) (T := 30) (cs := #[.bool s, .slice x7 A.length y7, .slice z7 D.length p7]))
  have hsx : (w7.alloc (.cells #[.bool s, .slice x7 A.length y7, .slice z7 D.length p7] 30)).heap.size = w7.heap.size + 1 := by simp
  have q0 := LX.out.c 0 (v := .bool s) rfl
  have q1 := LX.out.c 1 (v := .slice x7 A.length y7) rfl
  have q2 := LX.out.c 2 (v := .slice z7 D.length p7) rfl
  go_wp2_with fail
  (with_reducible refine (KI.out _ _ _ _ _ _ _ _ _ _ _ X0.out X1.out).mono ?_)
  clear q0 q1 q2
  rintro e w8 ⟨a8, n8, c8, rfl, i1, b1⟩
  have t8 : w7.heap.size + 1 ≤ w8.heap.size := by have := b1.size; simp at this; omega
  have rK := hid (rK.out.old b1)
  have rR := hid (rR.out.old b1)
  have LR := hid (LR.out.old b1)
  have W0 := hid (W0.out.old b1)
  have X0 := hid (X0.out.old b1)
  have X1 := hid (X1.out.old b1)
  have LX := hid (LX.out.old b1)
  have B := hid (B.out.trans (b1.mono B.out.size))
  have G0 := hid i1
  clear i1 b1
  go_wp2_with fail
  (with_reducible refine (eqTermS_k (by omega) _ G0.out W0.out).mono ?_)
  rintro e w9 ⟨rfl, b1⟩
  have t9 : w8.heap.size ≤ w9.heap.size := by have := b1.size; omega
  have rK := hid (rK.out.old b1)
  have rR := hid (rR.out.old b1)
  have LR := hid (LR.out.old b1)
  have W0 := hid (W0.out.old b1)
  have X0 := hid (X0.out.old b1)
  have X1 := hid (X1.out.old b1)
  have LX := hid (LX.out.old b1)
  have G0 := hid (G0.out.old b1)
  have B := hid (B.out.trans (b1.mono B.out.size))
  clear b1
  go_wp2_with fail
  (with_reducible refine (toTermS_came _ _ _ _ K (by omega) _ rK.out).mono ?_)
  rintro e w10 ⟨a10, n10, c10, rfl, i1, b1⟩
  have t10 : w9.heap.size ≤ w10.heap.size := by have := b1.size; omega
  have rK := hid (rK.out.old b1)
  have rR := hid (rR.out.old b1)
  have LR := hid (LR.out.old b1)
  have W0 := hid (W0.out.old b1)
  have X0 := hid (X0.out.old b1)
  have X1 := hid (X1.out.old b1)
  have LX := hid (LX.out.old b1)
  have G0 := hid (G0.out.old b1)
  have B := hid (B.out.trans (b1.mono B.out.size))
  have TK := hid i1
  clear i1 b1
  go_wp2_with fail
  (with_reducible refine (eqTermS_k (by omega) _ X0.out TK.out).mono ?_)
  rintro e w11 ⟨rfl, b1⟩
  have t11 : w10.heap.size ≤ w11.heap.size := by have := b1.size; omega
  have rK := hid (rK.out.old b1)
  have rR := hid (rR.out.old b1)
  have LR := hid (LR.out.old b1)
  have W0 := hid (W0.out.old b1)
  have X0 := hid (X0.out.old b1)
  have X1 := hid (X1.out.old b1)
  have LX := hid (LX.out.old b1)
  have G0 := hid (G0.out.old b1)
  have TK := hid (TK.out.old b1)
  have B := hid (B.out.trans (b1.mono B.out.size))
  clear b1
  have rK := hid (rK.out.old (Below_drew1 (Below.refl _ _)))
  have rR := hid (rR.out.old (Below_drew1 (Below.refl _ _)))
  have LR := hid (LR.out.old (Below_drew1 (Below.refl _ _)))
  have W0 := hid (W0.out.old (Below_drew1 (Below.refl _ _)))
  have X0 := hid (X0.out.old (Below_drew1 (Below.refl _ _)))
  have X1 := hid (X1.out.old (Below_drew1 (Below.refl _ _)))
  have LX := hid (LX.out.old (Below_drew1 (Below.refl _ _)))
  have G0 := hid (G0.out.old (Below_drew1 (Below.refl _ _)))
  have B := hid (Below_drew1 B.out)
  have q0 := LX.out.c 0 (v := .bool s) rfl
  have q1 := LX.out.c 1 (v := .slice x7 A.length y7) rfl
  have q2 := LX.out.c 2 (v := .slice z7 D.length p7) rfl
  have q3 := LR.out.c 0 (v := .bool s) rfl
  have q4 := LR.out.c 1 (v := .slice ba A.length da) rfl
  have q5 := LR.out.c 2 (v := .slice ea D.length fa) rfl
  go_wp2_with fail
  go_region_held3 (fun w' => w'.cell? ⟨w7.heap.size, 0, none⟩ = some (.bool s) ∧ w'.cell? ⟨w7.heap.size, 1, none⟩ = some (.slice x7 A.length y7) ∧ w'.cell? ⟨w7.heap.size, 2, none⟩ = some (.slice z7 D.length p7) ∧ w'.cell? ⟨w.heap.size, 0, none⟩ = some (.bool s) ∧ w'.cell? ⟨w.heap.size, 1, none⟩ = some (.slice ba A.length da) ∧ w'.cell? ⟨w.heap.size, 2, none⟩ = some (.slice ea D.length fa)) (first | exact ⟨q0, q1, q2, q3, q4, q5⟩) (first | (go_at_call 31; (with_reducible refine (toRat_came _ _ _ _ _ _ _ _ _ _ (by omega) (by omega) _ rR.out).mono ?_); rintro e w12 ⟨v12, u12, rfl, i1, b1⟩; have t12 : w11.heap.size ≤ w12.heap.size := (by have := b1.size; first | exact this | omega | (simp at this; omega)); have rK := hid (rK.out.old b1); have rR := hid (rR.out.old b1); have LR := hid (LR.out.old b1); have W0 := hid (W0.out.old b1); have X0 := hid (X0.out.old b1); have X1 := hid (X1.out.old b1); have LX := hid (LX.out.old b1); have G0 := hid (G0.out.old b1); have B := hid (B.out.trans (b1.mono B.out.size)); have q0 := LX.out.c 0 (v := .bool s) rfl; have q1 := LX.out.c 1 (v := .slice x7 A.length y7) rfl; have q2 := LX.out.c 2 (v := .slice z7 D.length p7) rfl; have q3 := LR.out.c 0 (v := .bool s) rfl; have q4 := LR.out.c 1 (v := .slice ba A.length da) rfl; have q5 := LR.out.c 2 (v := .slice ea D.length fa) rfl; have TR0 := hid i1; clear i1; obtain ⟨x12, y12, z12, p12, rfl, rfl⟩ := TR0.out.form; clear b1) | (go_at_call 33; (with_reducible refine (eqRat_w _ _ _ _ _ A D _ _ _ _ (by omega) (by omega) _ X1.out.w TR0.out.w).mono ?_); rintro e w13 ⟨rfl, b1⟩; have t13 : w12.heap.size ≤ w13.heap.size := (by have := b1.size; first | exact this | omega | (simp at this; omega)); have rK := hid (rK.out.old b1); have rR := hid (rR.out.old b1); have LR := hid (LR.out.old b1); have W0 := hid (W0.out.old b1); have X0 := hid (X0.out.old b1); have X1 := hid (X1.out.old b1); have LX := hid (LX.out.old b1); have G0 := hid (G0.out.old b1); have TR0 := hid (TR0.out.old b1); have B := hid (B.out.trans (b1.mono B.out.size)); have q0 := LX.out.c 0 (v := .bool s) rfl; have q1 := LX.out.c 1 (v := .slice x7 A.length y7) rfl; have q2 := LX.out.c 2 (v := .slice z7 D.length p7) rfl; have q3 := LR.out.c 0 (v := .bool s) rfl; have q4 := LR.out.c 1 (v := .slice ba A.length da) rfl; have q5 := LR.out.c 2 (v := .slice ea D.length fa) rfl; clear b1))
  clear q0 q1 q2 q3 q4 q5
  go_wp2_with fail
  (with_reducible refine (markTermS_k (m := 1) (by omega) (by omega) (by omega) _ X0.out).mono ?_)
  rintro e w14 ⟨rfl, o1, b1⟩
  have t14 : w13.heap.size ≤ w14.heap.size := by have := b1.size; omega
  have X0 := hid o1
  have rK := hid (rK.out.onlyG b1 (by omega))
  have rR := hid (rR.out.onlyG b1 (by omega))
  have LR := hid (LR.out.onlyG b1 (by omega))
  have W0 := hid (W0.out.onlyG b1 (by omega))
  have X1 := hid (X1.out.onlyG b1 (by omega))
  have LX := hid (LX.out.onlyG b1 (by omega))
  have G0 := hid (G0.out.onlyG b1 (by omega))
  have B := hid (in_onlyG B.out b1 (by omega))
  clear o1 b1
  have q0 := LX.out.c 0 (v := .bool s) rfl
  have q1 := LX.out.c 1 (v := .slice x7 A.length y7) rfl
  have q2 := LX.out.c 2 (v := .slice z7 D.length p7) rfl
  go_wp2_with fail
  (with_reducible refine (markRat_obj s _ _ A D (1 + (szT K : Int)) _ _ (by omega) (by omega) (by omega) (by omega) _ X1.out).mono ?_)
  clear q0 q1 q2
  rintro e w15 ⟨rfl, o1, b1⟩
  have t15 : w14.heap.size ≤ w15.heap.size := by have := b1.size; omega
  have X1 := hid o1
  have rK := hid (rK.out.onlyG b1 (by omega))
  have rR := hid (rR.out.onlyG b1 (by omega))
  have LR := hid (LR.out.onlyG b1 (by omega))
  have W0 := hid (W0.out.onlyG b1 (by omega))
  have X0 := hid (X0.out.onlyG b1 (by omega))
  have LX := hid (LX.out.onlyG b1 (by omega))
  have G0 := hid (G0.out.onlyG b1 (by omega))
  have B := hid (in_onlyG B.out b1 (by omega))
  clear o1 b1
  have hm0 : ¬ 1 + (szT K : Int) + (A.length : Int) + (D.length : Int) < 0 := by omega
  go_wp2_with fail
  (with_reducible refine (eqTermS_k (by omega) _ G0.out W0.out).mono ?_)
  rintro e w16 ⟨rfl, b1⟩
  have t16 : w15.heap.size ≤ w16.heap.size := by have := b1.size; omega
  have rK := hid (rK.out.old b1)
  have rR := hid (rR.out.old b1)
  have LR := hid (LR.out.old b1)
  have W0 := hid (W0.out.old b1)
  have X0 := hid (X0.out.old b1)
  have X1 := hid (X1.out.old b1)
  have LX := hid (LX.out.old b1)
  have G0 := hid (G0.out.old b1)
  have B := hid (B.out.trans (b1.mono B.out.size))
  clear b1
  go_wp2_with fail
  (with_reducible refine (markTermS_k (m := 1) (by omega) (by omega) (by omega) _ G0.out).mono ?_)
  rintro e w17 ⟨rfl, o1, b1⟩
  have t17 : w16.heap.size ≤ w17.heap.size := by have := b1.size; omega
  have G0 := hid o1
  have rK := hid (rK.out.onlyG b1 (by omega))
  have rR := hid (rR.out.onlyG b1 (by omega))
  have LR := hid (LR.out.onlyG b1 (by omega))
  have W0 := hid (W0.out.onlyG b1 (by omega))
  have B := hid (in_onlyG B.out b1 (by omega))
  clear o1 b1
  have hq0 : ¬ 1 + (szT RR : Int) < 0 := by omega
  go_wp2_with fail
  (with_reducible refine (heldTermS_k (m := 1) (by omega) (by omega) (by omega) _ G0.out).mono ?_)
  rintro e w18 ⟨rfl, b1⟩
  have t18 : w17.heap.size ≤ w18.heap.size := by have := b1.size; omega
  have rK := hid (rK.out.old b1)
  have rR := hid (rR.out.old b1)
  have LR := hid (LR.out.old b1)
  have W0 := hid (W0.out.old b1)
  have G0 := hid (G0.out.old b1)
  have B := hid (B.out.trans (b1.mono B.out.size))
  clear b1
  have rK := hid (rK.out.old (Below_drew1 (Below.refl _ _)))
  have rR := hid (rR.out.old (Below_drew1 (Below.refl _ _)))
  have LR := hid (LR.out.old (Below_drew1 (Below.refl _ _)))
  have W0 := hid (W0.out.old (Below_drew1 (Below.refl _ _)))
  have G0 := hid (G0.out.old (Below_drew1 (Below.refl _ _)))
  have B := hid (Below_drew1 B.out)
  have q0 := LR.out.c 0 (v := .bool s) rfl
  have q1 := LR.out.c 1 (v := .slice ba A.length da) rfl
  have q2 := LR.out.c 2 (v := .slice ea D.length fa) rfl
  go_wp2_with fail
  go_region_held3 (fun w' => w'.cell? ⟨w.heap.size, 0, none⟩ = some (.bool s) ∧ w'.cell? ⟨w.heap.size, 1, none⟩ = some (.slice ba A.length da) ∧ w'.cell? ⟨w.heap.size, 2, none⟩ = some (.slice ea D.length fa)) (first | exact ⟨q0, q1, q2⟩) (first | (go_at_call 24; (with_reducible refine (toTermS_came _ _ _ _ K (by omega) _ rK.out).mono ?_); rintro e w19 ⟨a19, n19, c19, rfl, i1, b1⟩; have t19 : w18.heap.size ≤ w19.heap.size := (by have := b1.size; first | exact this | omega | (simp at this; omega)); have rK := hid (rK.out.old b1); have rR := hid (rR.out.old b1); have LR := hid (LR.out.old b1); have W0 := hid (W0.out.old b1); have G0 := hid (G0.out.old b1); have B := hid (B.out.trans (b1.mono B.out.size)); have q0 := LR.out.c 0 (v := .bool s) rfl; have q1 := LR.out.c 1 (v := .slice ba A.length da) rfl; have q2 := LR.out.c 2 (v := .slice ea D.length fa) rfl; have TK := hid i1; clear i1; clear b1) | (go_at_call 31; (with_reducible refine (toRat_came _ _ _ _ _ _ _ _ _ _ (by omega) (by omega) _ rR.out).mono ?_); rintro e w20 ⟨v20, u20, rfl, i1, b1⟩; have t20 : w19.heap.size ≤ w20.heap.size := (by have := b1.size; first | exact this | omega | (simp at this; omega)); have rK := hid (rK.out.old b1); have rR := hid (rR.out.old b1); have LR := hid (LR.out.old b1); have W0 := hid (W0.out.old b1); have G0 := hid (G0.out.old b1); have TK := hid (TK.out.old b1); have B := hid (B.out.trans (b1.mono B.out.size)); have q0 := LR.out.c 0 (v := .bool s) rfl; have q1 := LR.out.c 1 (v := .slice ba A.length da) rfl; have q2 := LR.out.c 2 (v := .slice ea D.length fa) rfl; have TR0 := hid i1; clear i1; obtain ⟨x20, y20, z20, p20, rfl, rfl⟩ := TR0.out.form; clear b1) | (go_at_call 32; (with_reducible refine (KI.out _ _ _ _ _ _ _ _ _ _ _ TK.out TR0.out).mono ?_); rintro e w21 ⟨a21, n21, c21, rfl, i1, b1⟩; have t21 : w20.heap.size ≤ w21.heap.size := (by have := b1.size; first | exact this | omega | (simp at this; omega)); have rK := hid (rK.out.old b1); have rR := hid (rR.out.old b1); have LR := hid (LR.out.old b1); have W0 := hid (W0.out.old b1); have G0 := hid (G0.out.old b1); have TK := hid (TK.out.old b1); have TR0 := hid (TR0.out.old b1); have B := hid (B.out.trans (b1.mono B.out.size)); have q0 := LR.out.c 0 (v := .bool s) rfl; have q1 := LR.out.c 1 (v := .slice ba A.length da) rfl; have q2 := LR.out.c 2 (v := .slice ea D.length fa) rfl; have H0 := hid i1; clear i1; clear b1))
  clear q0 q1 q2
  go_wp2_with fail
  (with_reducible refine (eqTermS_k (by omega) _ H0.out W0.out).mono ?_)
  rintro e w22 ⟨rfl, b1⟩
  have t22 : w21.heap.size ≤ w22.heap.size := by have := b1.size; omega
  have rK := hid (rK.out.old b1)
  have rR := hid (rR.out.old b1)
  have LR := hid (LR.out.old b1)
  have W0 := hid (W0.out.old b1)
  have G0 := hid (G0.out.old b1)
  have H0 := hid (H0.out.old b1)
  have B := hid (B.out.trans (b1.mono B.out.size))
  clear b1
  go_wp2_with fail
  (with_reducible refine (heldTermS_k (m := 1) (by omega) (by omega) (by omega) _ G0.out).mono ?_)
  rintro e w23 ⟨rfl, b1⟩
  have t23 : w22.heap.size ≤ w23.heap.size := by have := b1.size; omega
  have rK := hid (rK.out.old b1)
  have rR := hid (rR.out.old b1)
  have LR := hid (LR.out.old b1)
  have W0 := hid (W0.out.old b1)
  have G0 := hid (G0.out.old b1)
  have H0 := hid (H0.out.old b1)
  have B := hid (B.out.trans (b1.mono B.out.size))
  clear b1
  go_wp2
  go_ret
  exact ⟨rfl, B.out⟩
end Go.Proofs.YtnkcihcmkojdmaaGreat
