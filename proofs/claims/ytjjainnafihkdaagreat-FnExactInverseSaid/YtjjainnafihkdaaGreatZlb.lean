import Derived.Test.YtjjainnafihkdaaGreatZv
import Derived.Test.YtjjainnafihkdaaGreatZr
import Derived.Deep.RegionHeld3
import Derived.Deep.DeepCutAuto
set_option maxRecDepth 100000
set_option maxHeartbeats 25600000
set_option linter.unusedVariables false
set_option linter.unusedSimpArgs false
namespace Go.Proofs.YtjjainnafihkdaaGreat
open Go.RowKit
open Go.Lib (hid)
theorem law_Inverse (a : Option Addr) (n c : Nat) (M : List (List Fq)) (hnM : n ≤ maxLen) (hmM : MLen M) (w : World) (rM : MCame w w.heap.size a n M) :
  Calls Tryz.prog 9 #[.slice a n c] w (RetB (.bool true) w) := by
 have B := hid (Below.refl w.heap.size w)
 have rM := hid rM
 by_cases hsM : (M.length : Int) + (szM M : Int) ≤ 1048576
 case neg =>
  go_enter Tryz.func9, Tryz.ntmps9
  obtain ⟨w0, hw0⟩ : ∃ w0, w0 = w := ⟨_, rfl⟩
  rw [← hw0] at B rM ⊢
  clear hw0
  go_wp2_with fail
  (with_reducible refine (szRatSS_no _ _ _ _ M (1048576) hnM hmM (by omega) (by omega) (by omega) _ rM.out).mono ?_)
  rintro e w1 ⟨rfl, b1⟩
  have t1 : w0.heap.size ≤ w1.heap.size := b1.size
  have rM := hid (rM.out.old b1)
  have B := hid (B.out.trans (b1.mono B.out.size))
  clear b1
  go_wp2
  go_ret
  exact ⟨rfl, B.out⟩
 have hSM : Sm2 M := Sm2.of (by omega)
 have hslM : szM M ≤ 1048576 := by omega
 have hllM : M.length ≤ 1048576 := by omega
 obtain ⟨RR, hRR⟩ : ∃ RR, RR = invF M := ⟨_, rfl⟩
 have hrs : RR.length ≤ 40 ∧ szM RR ≤ 78400 := by rw [hRR]; exact invF_sz M
 have hrs1 := hrs.1
 have hrs2 := hrs.2
 clear hrs
 have HRR := hid hRR
 clear hRR
 obtain ⟨RB, hRB⟩ : ∃ RB, RB = invB M := ⟨_, rfl⟩
 have HRB := hid hRB
 clear hRB
 go_enter Tryz.func9, Tryz.ntmps9
 obtain ⟨w0, hw0⟩ : ∃ w0, w0 = w := ⟨_, rfl⟩
 rw [← hw0] at B rM ⊢
 clear hw0
 go_wp2_with fail
 (with_reducible refine (szRatSS_yes _ _ _ _ M (1048576) (by omega) (by omega) _ rM.out).mono ?_)
 rintro e w1 ⟨rfl, b1⟩
 have t1 : w0.heap.size ≤ w1.heap.size := b1.size
 have rM := hid (rM.out.old b1)
 have B := hid (B.out.trans (b1.mono B.out.size))
 clear b1
 go_wp2_with fail
 (with_reducible refine (toRatSS_came _ _ _ _ M (by omega) _ rM.out).mono ?_)
 rintro e w2 ⟨a2, n2, c2, rfl, i1, b1⟩
 have t2 : w1.heap.size ≤ w2.heap.size := b1.size
 have rM := hid (rM.out.old b1)
 have B := hid (B.out.trans (b1.mono B.out.size))
 have TM := hid i1
 clear i1 b1
 have KR := hid (spec_Inverse (c := c2) hSM w2 TM.out.mw)
 rw [← HRR.out, ← HRB.out] at KR
 go_wp2_with fail
 (with_reducible refine (KR.out).mono ?_)
 rintro e w3 ⟨a3, n3, c3, rfl, i1, b1⟩
 have t3 : w2.heap.size ≤ w3.heap.size := b1.size
 have rM := hid (rM.out.old b1)
 have TM := hid (TM.out.old b1)
 have B := hid (B.out.trans (b1.mono B.out.size))
 have W0 := hid i1
 clear i1 b1
 clear KR
 go_wp2_with fail
 (with_reducible refine (toRatSS_came _ _ _ _ M (by omega) _ rM.out).mono ?_)
 rintro e w4 ⟨a4, n4, c4, rfl, i1, b1⟩
 have t4 : w3.heap.size ≤ w4.heap.size := b1.size
 have rM := hid (rM.out.old b1)
 have W0 := hid (W0.out.old b1)
 have B := hid (B.out.trans (b1.mono B.out.size))
 have XM := hid i1
 clear i1 b1
 have KR := hid (impl_Inverse (c := c4) hSM w4 XM.out.mw)
 rw [← HRR.out, ← HRB.out] at KR
 go_wp2_with fail
 (with_reducible refine (KR.out).mono ?_)
 rintro e w5 ⟨a5, n5, c5, rfl, i1, b1⟩
 have t5 : w4.heap.size ≤ w5.heap.size := b1.size
 have rM := hid (rM.out.old b1)
 have W0 := hid (W0.out.old b1)
 have XM := hid (XM.out.old b1)
 have B := hid (B.out.trans (b1.mono B.out.size))
 have G0 := hid i1
 clear i1 b1
 clear KR
 go_wp2_with fail
 (with_reducible refine (eqRatSS_w (by omega) (by omega) _ G0.out.mw W0.out.mw).mono ?_)
 rintro e w6 ⟨rfl, b1⟩
 have t6 : w5.heap.size ≤ w6.heap.size := b1.size
 have rM := hid (rM.out.old b1)
 have W0 := hid (W0.out.old b1)
 have XM := hid (XM.out.old b1)
 have G0 := hid (G0.out.old b1)
 have B := hid (B.out.trans (b1.mono B.out.size))
 clear b1
 go_wp2_with fail
 (with_reducible refine (toRatSS_came _ _ _ _ M (by omega) _ rM.out).mono ?_)
 rintro e w7 ⟨a7, n7, c7, rfl, i1, b1⟩
 have t7 : w6.heap.size ≤ w7.heap.size := b1.size
 have rM := hid (rM.out.old b1)
 have W0 := hid (W0.out.old b1)
 have XM := hid (XM.out.old b1)
 have G0 := hid (G0.out.old b1)
 have B := hid (B.out.trans (b1.mono B.out.size))
 have TM := hid i1
 clear i1 b1
 go_wp2_with fail
 (with_reducible refine (eqRatSS_w (by omega) (by omega) _ XM.out.mw TM.out.mw).mono ?_)
 rintro e w8 ⟨rfl, b1⟩
 have t8 : w7.heap.size ≤ w8.heap.size := b1.size
 have rM := hid (rM.out.old b1)
 have W0 := hid (W0.out.old b1)
 have XM := hid (XM.out.old b1)
 have G0 := hid (G0.out.old b1)
 have TM := hid (TM.out.old b1)
 have B := hid (B.out.trans (b1.mono B.out.size))
 clear b1
 go_wp2_with fail
 (with_reducible refine (markRatSS_k (m := 1) (by omega) (by omega) (by omega) (by omega) _ XM.out).mono ?_)
 rintro e w9 ⟨rfl, o1, b1⟩
 have t9 : w8.heap.size ≤ w9.heap.size := b1.size
 have XM := hid o1
 have rM := hid (rM.out.onlyG b1 (by omega))
 have W0 := hid (W0.out.onlyG b1 (by omega))
 have G0 := hid (G0.out.onlyG b1 (by omega))
 have B := hid (in_onlyG B.out b1 (by omega))
 clear o1 b1
 have hm0 : ¬ 1 + (szM M : Int) < 0 := by omega
 go_wp2_with fail
 (with_reducible refine (eqRatSS_w (by omega) (by omega) _ G0.out.mw W0.out.mw).mono ?_)
 rintro e w10 ⟨rfl, b1⟩
 have t10 : w9.heap.size ≤ w10.heap.size := b1.size
 have rM := hid (rM.out.old b1)
 have W0 := hid (W0.out.old b1)
 have XM := hid (XM.out.old b1)
 have G0 := hid (G0.out.old b1)
 have B := hid (B.out.trans (b1.mono B.out.size))
 clear b1
 go_wp2_with fail
 (with_reducible refine (markRatSS_a (m := 1) (by omega) (by omega) (by omega) (by omega) _ G0.out).mono ?_)
 rintro e w11 ⟨rfl, o1, b1⟩
 have t11 : w10.heap.size ≤ w11.heap.size := b1.size
 have G0 := hid o1
 have rM := hid (rM.out.onlyG b1 (by omega))
 have W0 := hid (W0.out.onlyG b1 (by omega))
 have B := hid (in_onlyG B.out b1 (by omega))
 clear o1 b1
 have hq0 : ¬ 1 + (szM RR : Int) < 0 := by omega
 go_wp2_with fail
 (with_reducible refine (heldRatSS_w (m := 1) (by omega) (by omega) (by omega) (by omega) _ G0.out.mw).mono ?_)
 rintro e w12 ⟨rfl, b1⟩
 have t12 : w11.heap.size ≤ w12.heap.size := b1.size
 have rM := hid (rM.out.old b1)
 have W0 := hid (W0.out.old b1)
 have G0 := hid (G0.out.old b1)
 have B := hid (B.out.trans (b1.mono B.out.size))
 clear b1
 go_wp2_with fail
 (with_reducible refine (toRatSS_came _ _ _ _ M (by omega) _ rM.out).mono ?_)
 rintro e w13 ⟨a13, n13, c13, rfl, i1, b1⟩
 have t13 : w12.heap.size ≤ w13.heap.size := b1.size
 have rM := hid (rM.out.old b1)
 have W0 := hid (W0.out.old b1)
 have G0 := hid (G0.out.old b1)
 have B := hid (B.out.trans (b1.mono B.out.size))
 have YM := hid i1
 clear i1 b1
 have KR := hid (impl_Inverse (c := c13) hSM w13 YM.out.mw)
 rw [← HRR.out, ← HRB.out] at KR
 go_wp2_with fail
 (with_reducible refine (KR.out).mono ?_)
 rintro e w14 ⟨a14, n14, c14, rfl, i1, b1⟩
 have t14 : w13.heap.size ≤ w14.heap.size := b1.size
 have rM := hid (rM.out.old b1)
 have W0 := hid (W0.out.old b1)
 have G0 := hid (G0.out.old b1)
 have YM := hid (YM.out.old b1)
 have B := hid (B.out.trans (b1.mono B.out.size))
 have H0 := hid i1
 clear i1 b1
 clear KR
 go_wp2_with fail
 (with_reducible refine (eqRatSS_w (by omega) (by omega) _ H0.out.mw W0.out.mw).mono ?_)
 rintro e w15 ⟨rfl, b1⟩
 have t15 : w14.heap.size ≤ w15.heap.size := b1.size
 have rM := hid (rM.out.old b1)
 have W0 := hid (W0.out.old b1)
 have G0 := hid (G0.out.old b1)
 have H0 := hid (H0.out.old b1)
 have B := hid (B.out.trans (b1.mono B.out.size))
 clear b1
 go_wp2_with fail
 (with_reducible refine (heldRatSS_w (m := 1) (by omega) (by omega) (by omega) (by omega) _ G0.out.mw).mono ?_)
 rintro e w16 ⟨rfl, b1⟩
 have t16 : w15.heap.size ≤ w16.heap.size := b1.size
 have rM := hid (rM.out.old b1)
 have W0 := hid (W0.out.old b1)
 have G0 := hid (G0.out.old b1)
 have H0 := hid (H0.out.old b1)
 have B := hid (B.out.trans (b1.mono B.out.size))
 clear b1
 go_wp2
 go_ret
 exact ⟨rfl, B.out⟩
end Go.Proofs.YtjjainnafihkdaaGreat
