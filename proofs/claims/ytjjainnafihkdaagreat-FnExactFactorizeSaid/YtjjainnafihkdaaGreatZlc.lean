import Derived.Test.YtjjainnafihkdaaGreatZf
import Derived.Deep.RegionHeld3
import Derived.Deep.DeepCutAuto
set_option maxRecDepth 100000
set_option maxHeartbeats 25600000
set_option linter.unusedVariables false
set_option linter.unusedSimpArgs false
namespace Go.Proofs.YtjjainnafihkdaaGreat
open Go.RowKit
open Go.Lib (hid)
theorem law_Factorize (a : Option Addr) (n c : Nat) (M : List (List Fq)) (hnM : n ≤ maxLen) (hmM : MLen M) (w : World) (rM : MCame w w.heap.size a n M) :
  Calls Tryz.prog 3 #[.slice a n c] w (RetB (.bool true) w) := by
 have B := hid (Below.refl w.heap.size w)
 have rM := hid rM
 by_cases hsM : (M.length : Int) + (szM M : Int) ≤ 1048576
 case neg =>
  go_enter Tryz.func3, Tryz.ntmps3
  obtain ⟨w0, hw0⟩ : ∃ w0, w0 = w := ⟨_, rfl⟩
  rw [← hw0] at B rM ⊢
  clear hw0
  go_wp2_with fail
  (with_reducible refine (szRatSS_no _ _ _ _ M (1048576) hnM hmM (by omega) (by omega) (by omega) _ rM.out).mono ?_)
  rintro e w1 ⟨rfl, b1⟩
  have t1 : w0.heap.size ≤ w1.heap.size := b1.size
  have rM := hid (rM.out.old b1)
  have B := hid (B.out.trans (b1.mono B.out.size))
  clear b1
  go_wp2
  go_ret
  exact ⟨rfl, B.out⟩
 have hSM : Sm2 M := Sm2.of (by omega)
 have hslM : szM M ≤ 1048576 := by omega
 have hllM : M.length ≤ 1048576 := by omega
 obtain ⟨RR, hRR⟩ : ∃ RR, RR = invF M := ⟨_, rfl⟩
 have hrs : RR.length ≤ 40 ∧ szM RR ≤ 78400 := by rw [hRR]; exact invF_sz M
 have hrs1 := hrs.1
 have hrs2 := hrs.2
 clear hrs
 have HRR := hid hRR
 clear hRR
 obtain ⟨RB, hRB⟩ : ∃ RB, RB = invB M := ⟨_, rfl⟩
 have HRB := hid hRB
 clear hRB
 go_enter Tryz.func3, Tryz.ntmps3
 obtain ⟨w0, hw0⟩ : ∃ w0, w0 = w := ⟨_, rfl⟩
 rw [← hw0] at B rM ⊢
 clear hw0
 go_wp2_with fail
 (with_reducible refine (szRatSS_yes _ _ _ _ M (1048576) (by omega) (by omega) _ rM.out).mono ?_)
 rintro e w1 ⟨rfl, b1⟩
 have t1 : w0.heap.size ≤ w1.heap.size := b1.size
 have rM := hid (rM.out.old b1)
 have B := hid (B.out.trans (b1.mono B.out.size))
 clear b1
 go_wp2_with fail
 (with_reducible refine (toRatSS_came _ _ _ _ M (by omega) _ rM.out).mono ?_)
 rintro e w2 ⟨a2, n2, c2, rfl, i1, b1⟩
 have t2 : w1.heap.size ≤ w2.heap.size := b1.size
 have rM := hid (rM.out.old b1)
 have B := hid (B.out.trans (b1.mono B.out.size))
 have TM := hid i1
 clear i1 b1
 have KR := hid (spec_Factorize (c := c2) hSM w2 TM.out.mw)
 rw [← HRR.out, ← HRB.out] at KR
 go_wp2_with fail
 (with_reducible refine (KR.out).mono ?_)
 rintro e w3 ⟨a3, n3, c3, rfl, i1, b1⟩
 have t3 : w2.heap.size ≤ w3.heap.size := b1.size
 have rM := hid (rM.out.old b1)
 have TM := hid (TM.out.old b1)
 have B := hid (B.out.trans (b1.mono B.out.size))
 have W0 := hid i1
 clear i1 b1
 have b1 := below_new' (w := w3) (o := .cells #[.slice a3 n3 c3, .slice none 0 0] 27)
 have LCW0 := hid (LocA.at (T := 27) (w := w3) (b := w3.heap.size) (cs := #[.slice a3 n3 c3, .slice none 0 0]) rfl)
 obtain ⟨w4, hw4⟩ : ∃ x, x = w3.alloc (.cells #[.slice a3 n3 c3, .slice none 0 0] 27) := ⟨_, rfl⟩
 have HW4 := hid hw4
 rw [← hw4] at b1 LCW0
 have s4 : w4.heap.size = w3.heap.size + 1 := by rw [hw4]; simp
 clear hw4
 have t4 : w3.heap.size ≤ w4.heap.size := b1.size
 have rM := hid (rM.out.old b1)
 have TM := hid (TM.out.old b1)
 have W0 := hid (W0.out.old b1)
 have B := hid (B.out.trans (b1.mono B.out.size))
 clear b1
 clear KR
 go_wp2_with fail
 rw [← HW4.out]
 (with_reducible refine (toRatSS_came _ _ _ _ M (by omega) _ rM.out).mono ?_)
 rintro e w5 ⟨a5, n5, c5, rfl, i1, b1⟩
 have t5 : w4.heap.size ≤ w5.heap.size := b1.size
 have rM := hid (rM.out.old b1)
 have W0 := hid (W0.out.old b1)
 have LCW0 := hid (LCW0.out.old b1)
 have B := hid (B.out.trans (b1.mono B.out.size))
 have XM := hid i1
 clear i1 b1
 have KR := hid (impl_Factorize (c := c5) hSM w5 XM.out.mw)
 rw [← HRR.out, ← HRB.out] at KR
 go_wp2_with fail
 (with_reducible refine (KR.out).mono ?_)
 rintro e w6 ⟨a6, n6, c6, rfl, i1, b1⟩
 have t6 : w5.heap.size ≤ w6.heap.size := b1.size
 have rM := hid (rM.out.old b1)
 have W0 := hid (W0.out.old b1)
 have LCW0 := hid (LCW0.out.old b1)
 have XM := hid (XM.out.old b1)
 have B := hid (B.out.trans (b1.mono B.out.size))
 have G0 := hid i1
 clear i1 b1
 have b1 := below_new' (w := w6) (o := .cells #[.slice a6 n6 c6, .slice none 0 0] 27)
 have LCG0 := hid (LocA.at (T := 27) (w := w6) (b := w6.heap.size) (cs := #[.slice a6 n6 c6, .slice none 0 0]) rfl)
 obtain ⟨w7, hw7⟩ : ∃ x, x = w6.alloc (.cells #[.slice a6 n6 c6, .slice none 0 0] 27) := ⟨_, rfl⟩
 have HW7 := hid hw7
 rw [← hw7] at b1 LCG0
 have s7 : w7.heap.size = w6.heap.size + 1 := by rw [hw7]; simp
 clear hw7
 have t7 : w6.heap.size ≤ w7.heap.size := b1.size
 have rM := hid (rM.out.old b1)
 have W0 := hid (W0.out.old b1)
 have LCW0 := hid (LCW0.out.old b1)
 have XM := hid (XM.out.old b1)
 have G0 := hid (G0.out.old b1)
 have B := hid (B.out.trans (b1.mono B.out.size))
 clear b1
 clear KR
 have qq0 := LCW0.out.c 0 rfl
 have qq1 := LCW0.out.c 1 rfl
 rw [HW7.out] at qq0 qq1
 go_wp2_with fail
 rw [← HW7.out]
 (with_reducible refine (eqFactor_nil (by omega) (by omega) _ G0.out.mw W0.out.mw).mono ?_)
 rintro e w8 ⟨rfl, b1⟩
 clear qq0 qq1
 have t8 : w7.heap.size ≤ w8.heap.size := b1.size
 have rM := hid (rM.out.old b1)
 have W0 := hid (W0.out.old b1)
 have LCW0 := hid (LCW0.out.old b1)
 have XM := hid (XM.out.old b1)
 have G0 := hid (G0.out.old b1)
 have LCG0 := hid (LCG0.out.old b1)
 have B := hid (B.out.trans (b1.mono B.out.size))
 clear b1
 go_wp2_with fail
 (with_reducible refine (toRatSS_came _ _ _ _ M (by omega) _ rM.out).mono ?_)
 rintro e w9 ⟨a9, n9, c9, rfl, i1, b1⟩
 have t9 : w8.heap.size ≤ w9.heap.size := b1.size
 have rM := hid (rM.out.old b1)
 have W0 := hid (W0.out.old b1)
 have LCW0 := hid (LCW0.out.old b1)
 have XM := hid (XM.out.old b1)
 have G0 := hid (G0.out.old b1)
 have LCG0 := hid (LCG0.out.old b1)
 have B := hid (B.out.trans (b1.mono B.out.size))
 have TM := hid i1
 clear i1 b1
 go_wp2_with fail
 (with_reducible refine (eqRatSS_w (by omega) (by omega) _ XM.out.mw TM.out.mw).mono ?_)
 rintro e w10 ⟨rfl, b1⟩
 have t10 : w9.heap.size ≤ w10.heap.size := b1.size
 have rM := hid (rM.out.old b1)
 have W0 := hid (W0.out.old b1)
 have LCW0 := hid (LCW0.out.old b1)
 have XM := hid (XM.out.old b1)
 have G0 := hid (G0.out.old b1)
 have LCG0 := hid (LCG0.out.old b1)
 have TM := hid (TM.out.old b1)
 have B := hid (B.out.trans (b1.mono B.out.size))
 clear b1
 go_wp2_with fail
 (with_reducible refine (markRatSS_k (m := 1) (by omega) (by omega) (by omega) (by omega) _ XM.out).mono ?_)
 rintro e w11 ⟨rfl, o1, b1⟩
 have t11 : w10.heap.size ≤ w11.heap.size := b1.size
 have XM := hid o1
 have rM := hid (rM.out.onlyG b1 (by omega))
 have W0 := hid (W0.out.onlyG b1 (by omega))
 have LCW0 := hid (LCW0.out.onlyG b1 (by omega))
 have G0 := hid (G0.out.onlyG b1 (by omega))
 have LCG0 := hid (LCG0.out.onlyG b1 (by omega))
 have B := hid (in_onlyG B.out b1 (by omega))
 clear o1 b1
 have hm0 : ¬ 1 + (szM M : Int) < 0 := by omega
 have qq0 := LCG0.out.c 0 rfl
 have qq1 := LCG0.out.c 1 rfl
 have qq2 := LCW0.out.c 0 rfl
 have qq3 := LCW0.out.c 1 rfl
 go_wp2_with fail
 (with_reducible refine (eqFactor_nil (by omega) (by omega) _ G0.out.mw W0.out.mw).mono ?_)
 rintro e w12 ⟨rfl, b1⟩
 clear qq0 qq1 qq2 qq3
 have t12 : w11.heap.size ≤ w12.heap.size := b1.size
 have rM := hid (rM.out.old b1)
 have W0 := hid (W0.out.old b1)
 have LCW0 := hid (LCW0.out.old b1)
 have XM := hid (XM.out.old b1)
 have G0 := hid (G0.out.old b1)
 have LCG0 := hid (LCG0.out.old b1)
 have B := hid (B.out.trans (b1.mono B.out.size))
 clear b1
 have qq0 := LCG0.out.c 0 rfl
 have qq1 := LCG0.out.c 1 rfl
 go_wp2_with fail
 (with_reducible refine (markFactor_nil (m := 1) (by omega) (by omega) (by omega) (by omega) _ (by omega) G0.out).mono ?_)
 rintro e w13 ⟨rfl, o1, b1⟩
 clear qq0 qq1
 have t13 : w12.heap.size ≤ w13.heap.size := b1.size
 have G0 := hid o1
 have rM := hid (rM.out.onlyG b1 (by omega))
 have W0 := hid (W0.out.onlyG b1 (by omega))
 have LCW0 := hid (LCW0.out.onlyG b1 (by omega))
 have LCG0 := hid (LCG0.out.onlyG b1 (by omega))
 have B := hid (in_onlyG B.out b1 (by omega))
 clear o1 b1
 have hq0 : ¬ 1 + (szM RR : Int) < 0 := by omega
 have qq0 := LCG0.out.c 0 rfl
 have qq1 := LCG0.out.c 1 rfl
 go_wp2_with fail
 (with_reducible refine (heldFactor_nil (m := 1) (by omega) (by omega) (by omega) (by omega) _ G0.out.mw).mono ?_)
 rintro e w14 ⟨rfl, b1⟩
 clear qq0 qq1
 have t14 : w13.heap.size ≤ w14.heap.size := b1.size
 have rM := hid (rM.out.old b1)
 have W0 := hid (W0.out.old b1)
 have LCW0 := hid (LCW0.out.old b1)
 have G0 := hid (G0.out.old b1)
 have LCG0 := hid (LCG0.out.old b1)
 have B := hid (B.out.trans (b1.mono B.out.size))
 clear b1
 go_wp2_with fail
 (with_reducible refine (toRatSS_came _ _ _ _ M (by omega) _ rM.out).mono ?_)
 rintro e w15 ⟨a15, n15, c15, rfl, i1, b1⟩
 have t15 : w14.heap.size ≤ w15.heap.size := b1.size
 have rM := hid (rM.out.old b1)
 have W0 := hid (W0.out.old b1)
 have LCW0 := hid (LCW0.out.old b1)
 have G0 := hid (G0.out.old b1)
 have LCG0 := hid (LCG0.out.old b1)
 have B := hid (B.out.trans (b1.mono B.out.size))
 have YM := hid i1
 clear i1 b1
 have KR := hid (impl_Factorize (c := c15) hSM w15 YM.out.mw)
 rw [← HRR.out, ← HRB.out] at KR
 go_wp2_with fail
 (with_reducible refine (KR.out).mono ?_)
 rintro e w16 ⟨a16, n16, c16, rfl, i1, b1⟩
 have t16 : w15.heap.size ≤ w16.heap.size := b1.size
 have rM := hid (rM.out.old b1)
 have W0 := hid (W0.out.old b1)
 have LCW0 := hid (LCW0.out.old b1)
 have G0 := hid (G0.out.old b1)
 have LCG0 := hid (LCG0.out.old b1)
 have YM := hid (YM.out.old b1)
 have B := hid (B.out.trans (b1.mono B.out.size))
 have H0 := hid i1
 clear i1 b1
 have b1 := below_new' (w := w16) (o := .cells #[.slice a16 n16 c16, .slice none 0 0] 27)
 have LCH0 := hid (LocA.at (T := 27) (w := w16) (b := w16.heap.size) (cs := #[.slice a16 n16 c16, .slice none 0 0]) rfl)
 obtain ⟨w17, hw17⟩ : ∃ x, x = w16.alloc (.cells #[.slice a16 n16 c16, .slice none 0 0] 27) := ⟨_, rfl⟩
 have HW17 := hid hw17
 rw [← hw17] at b1 LCH0
 have s17 : w17.heap.size = w16.heap.size + 1 := by rw [hw17]; simp
 clear hw17
 have t17 : w16.heap.size ≤ w17.heap.size := b1.size
 have rM := hid (rM.out.old b1)
 have W0 := hid (W0.out.old b1)
 have LCW0 := hid (LCW0.out.old b1)
 have G0 := hid (G0.out.old b1)
 have LCG0 := hid (LCG0.out.old b1)
 have YM := hid (YM.out.old b1)
 have H0 := hid (H0.out.old b1)
 have B := hid (B.out.trans (b1.mono B.out.size))
 clear b1
 clear KR
 have qq0 := LCW0.out.c 0 rfl
 have qq1 := LCW0.out.c 1 rfl
 rw [HW17.out] at qq0 qq1
 go_wp2_with fail
 rw [← HW17.out]
 (with_reducible refine (eqFactor_nil (by omega) (by omega) _ H0.out.mw W0.out.mw).mono ?_)
 rintro e w18 ⟨rfl, b1⟩
 clear qq0 qq1
 have t18 : w17.heap.size ≤ w18.heap.size := b1.size
 have rM := hid (rM.out.old b1)
 have W0 := hid (W0.out.old b1)
 have LCW0 := hid (LCW0.out.old b1)
 have G0 := hid (G0.out.old b1)
 have LCG0 := hid (LCG0.out.old b1)
 have H0 := hid (H0.out.old b1)
 have LCH0 := hid (LCH0.out.old b1)
 have B := hid (B.out.trans (b1.mono B.out.size))
 clear b1
 have qq0 := LCG0.out.c 0 rfl
 have qq1 := LCG0.out.c 1 rfl
 go_wp2_with fail
 (with_reducible refine (heldFactor_nil (m := 1) (by omega) (by omega) (by omega) (by omega) _ G0.out.mw).mono ?_)
 rintro e w19 ⟨rfl, b1⟩
 clear qq0 qq1
 have t19 : w18.heap.size ≤ w19.heap.size := b1.size
 have rM := hid (rM.out.old b1)
 have W0 := hid (W0.out.old b1)
 have LCW0 := hid (LCW0.out.old b1)
 have G0 := hid (G0.out.old b1)
 have LCG0 := hid (LCG0.out.old b1)
 have H0 := hid (H0.out.old b1)
 have LCH0 := hid (LCH0.out.old b1)
 have B := hid (B.out.trans (b1.mono B.out.size))
 clear b1
 go_wp2
 go_ret
 exact ⟨rfl, B.out⟩
end Go.Proofs.YtjjainnafihkdaaGreat
