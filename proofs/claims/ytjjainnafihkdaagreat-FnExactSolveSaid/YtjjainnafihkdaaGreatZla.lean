import Derived.Test.YtjjainnafihkdaaGreatSol
import Derived.Test.YtjjainnafihkdaaGreatZt
import Derived.Test.YtjjainnafihkdaaGreatZu
import Derived.Deep.RegionHeld3
import Derived.Deep.DeepCutAuto
set_option maxRecDepth 100000
set_option maxHeartbeats 25600000
set_option linter.unusedVariables false
set_option linter.unusedSimpArgs false
namespace Go.Proofs.YtjjainnafihkdaaGreat
open Go.RowKit
open Go.Lib (hid)
theorem law_Solve (a : Option Addr) (n c : Nat) (M : List (List Fq)) (hnM : n ≤ maxLen) (hmM : MLen M) (av : Option Addr) (nv cv : Nat) (V : List Fq) (hnV : nv ≤ maxLen) (hmV : ∀ f ∈ V, f.A.length ≤ maxLen ∧ f.D.length ≤ maxLen) (w : World) (rM : MCame w w.heap.size a n M) (rV : VCame w w.heap.size av nv V) :
  Calls Tryz.prog 8 #[.slice a n c, .slice av nv cv] w (RetB (.bool true) w) := by
 have B := hid (Below.refl w.heap.size w)
 have rM := hid rM
 have rV := hid rV
 by_cases hsM : (M.length : Int) + (szM M : Int) ≤ 1048576
 case neg =>
  go_enter Tryz.func8, Tryz.ntmps8
  obtain ⟨w0, hw0⟩ : ∃ w0, w0 = w := ⟨_, rfl⟩
  rw [← hw0] at B rM rV ⊢
  clear hw0
  go_wp2_with fail
  (with_reducible refine (szRatSS_no _ _ _ _ M (1048576) hnM hmM (by omega) (by omega) (by omega) _ rM.out).mono ?_)
  rintro e w1 ⟨rfl, b1⟩
  have t1 : w0.heap.size ≤ w1.heap.size := b1.size
  have rM := hid (rM.out.old b1)
  have rV := hid (rV.out.old b1)
  have B := hid (B.out.trans (b1.mono B.out.size))
  clear b1
  go_wp2
  go_ret
  exact ⟨rfl, B.out⟩
 by_cases hsV : (szK V : Int) ≤ 1048576 - (M.length : Int) - (szM M : Int)
 case neg =>
  go_enter Tryz.func8, Tryz.ntmps8
  obtain ⟨w0, hw0⟩ : ∃ w0, w0 = w := ⟨_, rfl⟩
  rw [← hw0] at B rM rV ⊢
  clear hw0
  go_wp2_with fail
  (with_reducible refine (szRatSS_yes _ _ _ _ M (1048576) (by omega) (by omega) _ rM.out).mono ?_)
  rintro e w1 ⟨rfl, b1⟩
  have t1 : w0.heap.size ≤ w1.heap.size := b1.size
  have rM := hid (rM.out.old b1)
  have rV := hid (rV.out.old b1)
  have B := hid (B.out.trans (b1.mono B.out.size))
  clear b1
  go_wp2_with fail
  (with_reducible refine (szRatS_no _ _ _ _ V (1048576 - (M.length : Int) - (szM M : Int)) hnV hmV (by omega) (by omega) (by omega) _ rV.out).mono ?_)
  rintro e w2 ⟨rfl, b1⟩
  have t2 : w1.heap.size ≤ w2.heap.size := b1.size
  have rM := hid (rM.out.old b1)
  have rV := hid (rV.out.old b1)
  have B := hid (B.out.trans (b1.mono B.out.size))
  clear b1
  go_wp2
  go_ret
  exact ⟨rfl, B.out⟩
 have hSM : Sm2 M := Sm2.of (by omega)
 have hslM : szM M ≤ 1048576 := by omega
 have hllM : M.length ≤ 1048576 := by omega
 have hSV : Sm V := Sm.of (by omega)
 have hslV : szK V ≤ 1048576 := by omega
 have hwM : ∀ K ∈ M, K.length ≤ 1048575 := fun K hK => by
  have h1 := szM_mem hK
  have h2 := szK_len K
  have h3 := List.length_pos_of_mem hK
  omega
 have HWM := hid hwM
 clear hwM
 obtain ⟨RR, hRR⟩ : ∃ RR, RR = solV M V := ⟨_, rfl⟩
 have hrs : szK RR ≤ 2000 := by rw [hRR]; exact solV_sz M V
 have HRR := hid hRR
 clear hRR
 obtain ⟨RB, hRB⟩ : ∃ RB, RB = solB M V := ⟨_, rfl⟩
 have HRB := hid hRB
 clear hRB
 go_enter Tryz.func8, Tryz.ntmps8
 obtain ⟨w0, hw0⟩ : ∃ w0, w0 = w := ⟨_, rfl⟩
 rw [← hw0] at B rM rV ⊢
 clear hw0
 go_wp2_with fail
 (with_reducible refine (szRatSS_yes _ _ _ _ M (1048576) (by omega) (by omega) _ rM.out).mono ?_)
 rintro e w1 ⟨rfl, b1⟩
 have t1 : w0.heap.size ≤ w1.heap.size := b1.size
 have rM := hid (rM.out.old b1)
 have rV := hid (rV.out.old b1)
 have B := hid (B.out.trans (b1.mono B.out.size))
 clear b1
 go_wp2_with fail
 (with_reducible refine (szRatS_yes _ _ _ _ V (1048576 - (M.length : Int) - (szM M : Int)) (by omega) (by omega) _ rV.out).mono ?_)
 rintro e w2 ⟨rfl, b1⟩
 have t2 : w1.heap.size ≤ w2.heap.size := b1.size
 have rM := hid (rM.out.old b1)
 have rV := hid (rV.out.old b1)
 have B := hid (B.out.trans (b1.mono B.out.size))
 clear b1
 go_wp2_with fail
 (with_reducible refine (toRatSS_came _ _ _ _ M (by omega) _ rM.out).mono ?_)
 rintro e w3 ⟨a3, n3, c3, rfl, i1, b1⟩
 have t3 : w2.heap.size ≤ w3.heap.size := b1.size
 have rM := hid (rM.out.old b1)
 have rV := hid (rV.out.old b1)
 have B := hid (B.out.trans (b1.mono B.out.size))
 have TM := hid i1
 clear i1 b1
 go_wp2_with fail
 (with_reducible refine (toRatS_came _ _ _ _ V (by omega) _ rV.out).mono ?_)
 rintro e w4 ⟨a4, n4, c4, rfl, i1, b1⟩
 have t4 : w3.heap.size ≤ w4.heap.size := b1.size
 have rM := hid (rM.out.old b1)
 have rV := hid (rV.out.old b1)
 have TM := hid (TM.out.old b1)
 have B := hid (B.out.trans (b1.mono B.out.size))
 have TV := hid i1
 clear i1 b1
 have KR := hid (spec_Solve (c := c3) (d := c4) hSM hSV HWM.out w4 TM.out.mw TV.out.vw)
 rw [← HRR.out, ← HRB.out] at KR
 go_wp2_with fail
 (with_reducible refine (KR.out).mono ?_)
 rintro e w5 ⟨a5, n5, c5, rfl, i1, b1⟩
 have t5 : w4.heap.size ≤ w5.heap.size := b1.size
 have rM := hid (rM.out.old b1)
 have rV := hid (rV.out.old b1)
 have TM := hid (TM.out.old b1)
 have TV := hid (TV.out.old b1)
 have B := hid (B.out.trans (b1.mono B.out.size))
 have W0 := hid i1
 clear i1 b1
 clear KR
 go_wp2_with fail
 (with_reducible refine (toRatSS_came _ _ _ _ M (by omega) _ rM.out).mono ?_)
 rintro e w6 ⟨a6, n6, c6, rfl, i1, b1⟩
 have t6 : w5.heap.size ≤ w6.heap.size := b1.size
 have rM := hid (rM.out.old b1)
 have rV := hid (rV.out.old b1)
 have W0 := hid (W0.out.old b1)
 have B := hid (B.out.trans (b1.mono B.out.size))
 have XM := hid i1
 clear i1 b1
 go_wp2_with fail
 (with_reducible refine (toRatS_came _ _ _ _ V (by omega) _ rV.out).mono ?_)
 rintro e w7 ⟨a7, n7, c7, rfl, i1, b1⟩
 have t7 : w6.heap.size ≤ w7.heap.size := b1.size
 have rM := hid (rM.out.old b1)
 have rV := hid (rV.out.old b1)
 have W0 := hid (W0.out.old b1)
 have XM := hid (XM.out.old b1)
 have B := hid (B.out.trans (b1.mono B.out.size))
 have XV := hid i1
 clear i1 b1
 have KR := hid (impl_Solve (c := c6) (d := c7) hSM hSV HWM.out w7 XM.out.mw XV.out.vw)
 rw [← HRR.out, ← HRB.out] at KR
 go_wp2_with fail
 (with_reducible refine (KR.out).mono ?_)
 rintro e w8 ⟨a8, n8, c8, rfl, i1, b1⟩
 have t8 : w7.heap.size ≤ w8.heap.size := b1.size
 have rM := hid (rM.out.old b1)
 have rV := hid (rV.out.old b1)
 have W0 := hid (W0.out.old b1)
 have XM := hid (XM.out.old b1)
 have XV := hid (XV.out.old b1)
 have B := hid (B.out.trans (b1.mono B.out.size))
 have G0 := hid i1
 clear i1 b1
 clear KR
 go_wp2_with fail
 (with_reducible refine (eqRatS_k (by omega) _ G0.out W0.out).mono ?_)
 rintro e w9 ⟨rfl, b1⟩
 have t9 : w8.heap.size ≤ w9.heap.size := b1.size
 have rM := hid (rM.out.old b1)
 have rV := hid (rV.out.old b1)
 have W0 := hid (W0.out.old b1)
 have XM := hid (XM.out.old b1)
 have XV := hid (XV.out.old b1)
 have G0 := hid (G0.out.old b1)
 have B := hid (B.out.trans (b1.mono B.out.size))
 clear b1
 go_wp2_with fail
 (with_reducible refine (toRatSS_came _ _ _ _ M (by omega) _ rM.out).mono ?_)
 rintro e w10 ⟨a10, n10, c10, rfl, i1, b1⟩
 have t10 : w9.heap.size ≤ w10.heap.size := b1.size
 have rM := hid (rM.out.old b1)
 have rV := hid (rV.out.old b1)
 have W0 := hid (W0.out.old b1)
 have XM := hid (XM.out.old b1)
 have XV := hid (XV.out.old b1)
 have G0 := hid (G0.out.old b1)
 have B := hid (B.out.trans (b1.mono B.out.size))
 have TM := hid i1
 clear i1 b1
 go_wp2_with fail
 (with_reducible refine (eqRatSS_w (by omega) (by omega) _ XM.out.mw TM.out.mw).mono ?_)
 rintro e w11 ⟨rfl, b1⟩
 have t11 : w10.heap.size ≤ w11.heap.size := b1.size
 have rM := hid (rM.out.old b1)
 have rV := hid (rV.out.old b1)
 have W0 := hid (W0.out.old b1)
 have XM := hid (XM.out.old b1)
 have XV := hid (XV.out.old b1)
 have G0 := hid (G0.out.old b1)
 have TM := hid (TM.out.old b1)
 have B := hid (B.out.trans (b1.mono B.out.size))
 clear b1
 go_wp2_with fail
 (with_reducible refine (toRatS_came _ _ _ _ V (by omega) _ rV.out).mono ?_)
 rintro e w12 ⟨a12, n12, c12, rfl, i1, b1⟩
 have t12 : w11.heap.size ≤ w12.heap.size := b1.size
 have rM := hid (rM.out.old b1)
 have rV := hid (rV.out.old b1)
 have W0 := hid (W0.out.old b1)
 have XM := hid (XM.out.old b1)
 have XV := hid (XV.out.old b1)
 have G0 := hid (G0.out.old b1)
 have B := hid (B.out.trans (b1.mono B.out.size))
 have TV := hid i1
 clear i1 b1
 go_wp2_with fail
 (with_reducible refine (eqRatS_k (by omega) _ XV.out TV.out).mono ?_)
 rintro e w13 ⟨rfl, b1⟩
 have t13 : w12.heap.size ≤ w13.heap.size := b1.size
 have rM := hid (rM.out.old b1)
 have rV := hid (rV.out.old b1)
 have W0 := hid (W0.out.old b1)
 have XM := hid (XM.out.old b1)
 have XV := hid (XV.out.old b1)
 have G0 := hid (G0.out.old b1)
 have TV := hid (TV.out.old b1)
 have B := hid (B.out.trans (b1.mono B.out.size))
 clear b1
 go_wp2_with fail
 (with_reducible refine (markRatSS_k (m := 1) (by omega) (by omega) (by omega) (by omega) _ XM.out).mono ?_)
 rintro e w14 ⟨rfl, o1, b1⟩
 have t14 : w13.heap.size ≤ w14.heap.size := b1.size
 have XM := hid o1
 have rM := hid (rM.out.onlyG b1 (by omega))
 have rV := hid (rV.out.onlyG b1 (by omega))
 have W0 := hid (W0.out.onlyG b1 (by omega))
 have XV := hid (XV.out.onlyG b1 (by omega))
 have G0 := hid (G0.out.onlyG b1 (by omega))
 have B := hid (in_onlyG B.out b1 (by omega))
 clear o1 b1
 go_wp2_with fail
 (with_reducible refine (markRatS_k (m := 1 + (szM M : Int)) (by omega) (by omega) (by omega) _ XV.out).mono ?_)
 rintro e w15 ⟨rfl, o1, b1⟩
 have t15 : w14.heap.size ≤ w15.heap.size := b1.size
 have XV := hid o1
 have rM := hid (rM.out.onlyG b1 (by omega))
 have rV := hid (rV.out.onlyG b1 (by omega))
 have W0 := hid (W0.out.onlyG b1 (by omega))
 have XM := hid (XM.out.onlyG b1 (by omega))
 have G0 := hid (G0.out.onlyG b1 (by omega))
 have B := hid (in_onlyG B.out b1 (by omega))
 clear o1 b1
 have hm0 : ¬ 1 + (szM M : Int) + (szK V : Int) < 0 := by omega
 go_wp2_with fail
 (with_reducible refine (eqRatS_k (by omega) _ G0.out W0.out).mono ?_)
 rintro e w16 ⟨rfl, b1⟩
 have t16 : w15.heap.size ≤ w16.heap.size := b1.size
 have rM := hid (rM.out.old b1)
 have rV := hid (rV.out.old b1)
 have W0 := hid (W0.out.old b1)
 have XM := hid (XM.out.old b1)
 have XV := hid (XV.out.old b1)
 have G0 := hid (G0.out.old b1)
 have B := hid (B.out.trans (b1.mono B.out.size))
 clear b1
 go_wp2_with fail
 (with_reducible refine (markRatS_k (m := 1) (by omega) (by omega) (by omega) _ G0.out).mono ?_)
 rintro e w17 ⟨rfl, o1, b1⟩
 have t17 : w16.heap.size ≤ w17.heap.size := b1.size
 have G0 := hid o1
 have rM := hid (rM.out.onlyG b1 (by omega))
 have rV := hid (rV.out.onlyG b1 (by omega))
 have W0 := hid (W0.out.onlyG b1 (by omega))
 have B := hid (in_onlyG B.out b1 (by omega))
 clear o1 b1
 have hq0 : ¬ 1 + (szK RR : Int) < 0 := by omega
 go_wp2_with fail
 (with_reducible refine (heldRatS_k (m := 1) (by omega) (by omega) (by omega) _ G0.out).mono ?_)
 rintro e w18 ⟨rfl, b1⟩
 have t18 : w17.heap.size ≤ w18.heap.size := b1.size
 have rM := hid (rM.out.old b1)
 have rV := hid (rV.out.old b1)
 have W0 := hid (W0.out.old b1)
 have G0 := hid (G0.out.old b1)
 have B := hid (B.out.trans (b1.mono B.out.size))
 clear b1
 go_wp2_with fail
 (with_reducible refine (toRatSS_came _ _ _ _ M (by omega) _ rM.out).mono ?_)
 rintro e w19 ⟨a19, n19, c19, rfl, i1, b1⟩
 have t19 : w18.heap.size ≤ w19.heap.size := b1.size
 have rM := hid (rM.out.old b1)
 have rV := hid (rV.out.old b1)
 have W0 := hid (W0.out.old b1)
 have G0 := hid (G0.out.old b1)
 have B := hid (B.out.trans (b1.mono B.out.size))
 have YM := hid i1
 clear i1 b1
 go_wp2_with fail
 (with_reducible refine (toRatS_came _ _ _ _ V (by omega) _ rV.out).mono ?_)
 rintro e w20 ⟨a20, n20, c20, rfl, i1, b1⟩
 have t20 : w19.heap.size ≤ w20.heap.size := b1.size
 have rM := hid (rM.out.old b1)
 have rV := hid (rV.out.old b1)
 have W0 := hid (W0.out.old b1)
 have G0 := hid (G0.out.old b1)
 have YM := hid (YM.out.old b1)
 have B := hid (B.out.trans (b1.mono B.out.size))
 have YV := hid i1
 clear i1 b1
 have KR := hid (impl_Solve (c := c19) (d := c20) hSM hSV HWM.out w20 YM.out.mw YV.out.vw)
 rw [← HRR.out, ← HRB.out] at KR
 go_wp2_with fail
 (with_reducible refine (KR.out).mono ?_)
 rintro e w21 ⟨a21, n21, c21, rfl, i1, b1⟩
 have t21 : w20.heap.size ≤ w21.heap.size := b1.size
 have rM := hid (rM.out.old b1)
 have rV := hid (rV.out.old b1)
 have W0 := hid (W0.out.old b1)
 have G0 := hid (G0.out.old b1)
 have YM := hid (YM.out.old b1)
 have YV := hid (YV.out.old b1)
 have B := hid (B.out.trans (b1.mono B.out.size))
 have H0 := hid i1
 clear i1 b1
 clear KR
 go_wp2_with fail
 (with_reducible refine (eqRatS_k (by omega) _ H0.out W0.out).mono ?_)
 rintro e w22 ⟨rfl, b1⟩
 have t22 : w21.heap.size ≤ w22.heap.size := b1.size
 have rM := hid (rM.out.old b1)
 have rV := hid (rV.out.old b1)
 have W0 := hid (W0.out.old b1)
 have G0 := hid (G0.out.old b1)
 have H0 := hid (H0.out.old b1)
 have B := hid (B.out.trans (b1.mono B.out.size))
 clear b1
 go_wp2_with fail
 (with_reducible refine (heldRatS_k (m := 1) (by omega) (by omega) (by omega) _ G0.out).mono ?_)
 rintro e w23 ⟨rfl, b1⟩
 have t23 : w22.heap.size ≤ w23.heap.size := b1.size
 have rM := hid (rM.out.old b1)
 have rV := hid (rV.out.old b1)
 have W0 := hid (W0.out.old b1)
 have G0 := hid (G0.out.old b1)
 have H0 := hid (H0.out.old b1)
 have B := hid (B.out.trans (b1.mono B.out.size))
 clear b1
 go_wp2
 go_ret
 exact ⟨rfl, B.out⟩
end Go.Proofs.YtjjainnafihkdaaGreat
