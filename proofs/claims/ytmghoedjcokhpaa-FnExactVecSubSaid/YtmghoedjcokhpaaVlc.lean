/- The law VecSub. -/
import Derived.Test.YtmghoedjcokhpaaVl0
import Derived.Deep.RegionHeld3
import Derived.Deep.DeepCutAuto
namespace Go.Proofs.Ytmghoedjcokhpaa
open Go.RowKit
open Go.Lib (hid)
set_option linter.unusedVariables false

set_option maxRecDepth 100000 in
set_option maxHeartbeats 25600000 in
theorem law_VecSub (a : Option Addr) (n c : Nat) (K : List Fq) (hnK : n ≤ maxLen) (hmK : ∀ f ∈ K, f.A.length ≤ maxLen ∧ f.D.length ≤ maxLen) (a' : Option Addr) (n' c' : Nat) (L : List Fq) (hnL : n' ≤ maxLen) (hmL : ∀ f ∈ L, f.A.length ≤ maxLen ∧ f.D.length ≤ maxLen) (w : World) (rK : VCame w w.heap.size a n K) (rL : VCame w w.heap.size a' n' L) :
    Calls Try.prog 7 #[.slice a n c, .slice a' n' c'] w (RetB (.bool true) w) := by
  have B := hid (Below.refl w.heap.size w)
  have rK := hid rK
  have rL := hid rL
  by_cases hsK : (szK K : Int) ≤ 1048576
  case neg =>
    go_enter Try.func7, Try.ntmps7
    obtain ⟨w0, hw0⟩ : ∃ w0, w0 = w := ⟨_, rfl⟩
    rw [← hw0] at B rK rL ⊢
    clear hw0
    go_wp2_with fail
    (with_reducible refine (szRatS_no _ _ _ _ K (1048576) hnK hmK (by omega) (by omega) (by omega) w0 rK.out).mono ?_)
    rintro e w1 ⟨rfl, b1⟩
    have t1 : w0.heap.size ≤ w1.heap.size := b1.size
    have rK := hid (rK.out.old b1)
    have rL := hid (rL.out.old b1)
    have B := hid (B.out.trans (b1.mono B.out.size))
    clear b1
    go_wp2
    go_ret
    exact ⟨rfl, B.out⟩
  by_cases hsL : (szK L : Int) ≤ 1048576 - (szK K : Int)
  case neg =>
    go_enter Try.func7, Try.ntmps7
    obtain ⟨w0, hw0⟩ : ∃ w0, w0 = w := ⟨_, rfl⟩
    rw [← hw0] at B rK rL ⊢
    clear hw0
    go_wp2_with fail
    (with_reducible refine (szRatS_yes _ _ _ _ K (1048576) (by omega) (by omega) w0 rK.out).mono ?_)
    rintro e w1 ⟨rfl, b1⟩
    have t1 : w0.heap.size ≤ w1.heap.size := b1.size
    have rK := hid (rK.out.old b1)
    have rL := hid (rL.out.old b1)
    have B := hid (B.out.trans (b1.mono B.out.size))
    clear b1
    go_wp2_with fail
    (with_reducible refine (szRatS_no _ _ _ _ L (1048576 - (szK K : Int)) hnL hmL (by omega) (by omega) (by omega) w1 rL.out).mono ?_)
    rintro e w2 ⟨rfl, b1⟩
    have t2 : w1.heap.size ≤ w2.heap.size := b1.size
    have rK := hid (rK.out.old b1)
    have rL := hid (rL.out.old b1)
    have B := hid (B.out.trans (b1.mono B.out.size))
    clear b1
    go_wp2
    go_ret
    exact ⟨rfl, B.out⟩

  obtain ⟨RR, hRR⟩ : ∃ RR, RR = vzip subF K L := ⟨_, rfl⟩
  have hrs : szK RR ≤ 1960 := by rw [hRR]; exact vzip_sz fitO_sub K L
  have HRR := hid hRR
  clear hRR
  have hSK : Sm K := Sm.of (by omega)
  have hslK : szK K ≤ 1048576 := by omega
  have hSL : Sm L := Sm.of (by omega)
  have hslL : szK L ≤ 1048576 := by omega
  go_enter Try.func7, Try.ntmps7
  obtain ⟨w0, hw0⟩ : ∃ w0, w0 = w := ⟨_, rfl⟩
  rw [← hw0] at B rK rL ⊢
  clear hw0
  go_wp2_with fail
  (with_reducible refine (szRatS_yes _ _ _ _ K (1048576) (by omega) (by omega) w0 rK.out).mono ?_)
  rintro e w1 ⟨rfl, b1⟩
  have t1 : w0.heap.size ≤ w1.heap.size := b1.size
  have rK := hid (rK.out.old b1)
  have rL := hid (rL.out.old b1)
  have B := hid (B.out.trans (b1.mono B.out.size))
  clear b1
  go_wp2_with fail
  (with_reducible refine (szRatS_yes _ _ _ _ L (1048576 - (szK K : Int)) (by omega) (by omega) w1 rL.out).mono ?_)
  rintro e w2 ⟨rfl, b1⟩
  have t2 : w1.heap.size ≤ w2.heap.size := b1.size
  have rK := hid (rK.out.old b1)
  have rL := hid (rL.out.old b1)
  have B := hid (B.out.trans (b1.mono B.out.size))
  clear b1
  go_wp2_with fail
  (with_reducible refine (toRatS_came _ _ _ _ K (by omega) w2 rK.out).mono ?_)
  rintro e w3 ⟨a3, n3, c3, rfl, i1, b1⟩
  have t3 : w2.heap.size ≤ w3.heap.size := b1.size
  have rK := hid (rK.out.old b1)
  have rL := hid (rL.out.old b1)
  have B := hid (B.out.trans (b1.mono B.out.size))
  have TK := hid i1
  clear i1 b1
  go_wp2_with fail
  (with_reducible refine (toRatS_came _ _ _ _ L (by omega) w3 rL.out).mono ?_)
  rintro e w4 ⟨a4, n4, c4, rfl, i1, b1⟩
  have t4 : w3.heap.size ≤ w4.heap.size := b1.size
  have rK := hid (rK.out.old b1)
  have rL := hid (rL.out.old b1)
  have TK := hid (TK.out.old b1)
  have B := hid (B.out.trans (b1.mono B.out.size))
  have TL := hid i1
  clear i1 b1
  have KR := hid (spec_VecSub hSK hSL w4 TK.out TL.out)
  rw [← HRR.out] at KR
  go_wp2_with fail
  (with_reducible refine (KR.out).mono ?_)
  rintro e w5 ⟨a5, n5, c5, rfl, i1, b1⟩
  have t5 : w4.heap.size ≤ w5.heap.size := b1.size
  have rK := hid (rK.out.old b1)
  have rL := hid (rL.out.old b1)
  have TK := hid (TK.out.old b1)
  have TL := hid (TL.out.old b1)
  have B := hid (B.out.trans (b1.mono B.out.size))
  have W0 := hid i1
  clear i1 b1
  clear KR
  go_wp2_with fail
  (with_reducible refine (toRatS_came _ _ _ _ K (by omega) w5 rK.out).mono ?_)
  rintro e w6 ⟨a6, n6, c6, rfl, i1, b1⟩
  have t6 : w5.heap.size ≤ w6.heap.size := b1.size
  have rK := hid (rK.out.old b1)
  have rL := hid (rL.out.old b1)
  have W0 := hid (W0.out.old b1)
  have B := hid (B.out.trans (b1.mono B.out.size))
  have XK := hid i1
  clear i1 b1
  go_wp2_with fail
  (with_reducible refine (toRatS_came _ _ _ _ L (by omega) w6 rL.out).mono ?_)
  rintro e w7 ⟨a7, n7, c7, rfl, i1, b1⟩
  have t7 : w6.heap.size ≤ w7.heap.size := b1.size
  have rK := hid (rK.out.old b1)
  have rL := hid (rL.out.old b1)
  have W0 := hid (W0.out.old b1)
  have XK := hid (XK.out.old b1)
  have B := hid (B.out.trans (b1.mono B.out.size))
  have XL := hid i1
  clear i1 b1
  have KR := hid (impl_VecSub hSK hSL w7 XK.out XL.out)
  rw [← HRR.out] at KR
  go_wp2_with fail
  (with_reducible refine (KR.out).mono ?_)
  rintro e w8 ⟨a8, n8, c8, rfl, i1, b1⟩
  have t8 : w7.heap.size ≤ w8.heap.size := b1.size
  have rK := hid (rK.out.old b1)
  have rL := hid (rL.out.old b1)
  have W0 := hid (W0.out.old b1)
  have XK := hid (XK.out.old b1)
  have XL := hid (XL.out.old b1)
  have B := hid (B.out.trans (b1.mono B.out.size))
  have G0 := hid i1
  clear i1 b1
  clear KR
  go_wp2_with fail
  (with_reducible refine (eqRatS_k (by omega) w8 G0.out W0.out).mono ?_)
  rintro e w9 ⟨rfl, b1⟩
  have t9 : w8.heap.size ≤ w9.heap.size := b1.size
  have rK := hid (rK.out.old b1)
  have rL := hid (rL.out.old b1)
  have W0 := hid (W0.out.old b1)
  have XK := hid (XK.out.old b1)
  have XL := hid (XL.out.old b1)
  have G0 := hid (G0.out.old b1)
  have B := hid (B.out.trans (b1.mono B.out.size))
  clear b1
  go_wp2_with fail
  (with_reducible refine (toRatS_came _ _ _ _ K (by omega) w9 rK.out).mono ?_)
  rintro e w10 ⟨a10, n10, c10, rfl, i1, b1⟩
  have t10 : w9.heap.size ≤ w10.heap.size := b1.size
  have rK := hid (rK.out.old b1)
  have rL := hid (rL.out.old b1)
  have W0 := hid (W0.out.old b1)
  have XK := hid (XK.out.old b1)
  have XL := hid (XL.out.old b1)
  have G0 := hid (G0.out.old b1)
  have B := hid (B.out.trans (b1.mono B.out.size))
  have TK := hid i1
  clear i1 b1
  go_wp2_with fail
  (with_reducible refine (eqRatS_k (by omega) w10 XK.out TK.out).mono ?_)
  rintro e w11 ⟨rfl, b1⟩
  have t11 : w10.heap.size ≤ w11.heap.size := b1.size
  have rK := hid (rK.out.old b1)
  have rL := hid (rL.out.old b1)
  have W0 := hid (W0.out.old b1)
  have XK := hid (XK.out.old b1)
  have XL := hid (XL.out.old b1)
  have G0 := hid (G0.out.old b1)
  have TK := hid (TK.out.old b1)
  have B := hid (B.out.trans (b1.mono B.out.size))
  clear b1
  go_wp2_with fail
  (with_reducible refine (toRatS_came _ _ _ _ L (by omega) w11 rL.out).mono ?_)
  rintro e w12 ⟨a12, n12, c12, rfl, i1, b1⟩
  have t12 : w11.heap.size ≤ w12.heap.size := b1.size
  have rK := hid (rK.out.old b1)
  have rL := hid (rL.out.old b1)
  have W0 := hid (W0.out.old b1)
  have XK := hid (XK.out.old b1)
  have XL := hid (XL.out.old b1)
  have G0 := hid (G0.out.old b1)
  have B := hid (B.out.trans (b1.mono B.out.size))
  have TL := hid i1
  clear i1 b1
  go_wp2_with fail
  (with_reducible refine (eqRatS_k (by omega) w12 XL.out TL.out).mono ?_)
  rintro e w13 ⟨rfl, b1⟩
  have t13 : w12.heap.size ≤ w13.heap.size := b1.size
  have rK := hid (rK.out.old b1)
  have rL := hid (rL.out.old b1)
  have W0 := hid (W0.out.old b1)
  have XK := hid (XK.out.old b1)
  have XL := hid (XL.out.old b1)
  have G0 := hid (G0.out.old b1)
  have TL := hid (TL.out.old b1)
  have B := hid (B.out.trans (b1.mono B.out.size))
  clear b1
  go_wp2_with fail
  (with_reducible refine (markRatS_k (m := 1) (by omega) (by omega) (by omega) w13 XK.out).mono ?_)
  rintro e w14 ⟨rfl, o1, b1⟩
  have t14 : w13.heap.size ≤ w14.heap.size := b1.size
  have XK := hid o1
  have rK := hid (rK.out.onlyG b1 (by omega))
  have rL := hid (rL.out.onlyG b1 (by omega))
  have W0 := hid (W0.out.onlyG b1 (by omega))
  have XL := hid (XL.out.onlyG b1 (by omega))
  have G0 := hid (G0.out.onlyG b1 (by omega))
  have B := hid (in_onlyG B.out b1 (by omega))
  clear o1 b1
  go_wp2_with fail
  (with_reducible refine (markRatS_k (m := 1 + (szK K : Int)) (by omega) (by omega) (by omega) w14 XL.out).mono ?_)
  rintro e w15 ⟨rfl, o1, b1⟩
  have t15 : w14.heap.size ≤ w15.heap.size := b1.size
  have XL := hid o1
  have rK := hid (rK.out.onlyG b1 (by omega))
  have rL := hid (rL.out.onlyG b1 (by omega))
  have W0 := hid (W0.out.onlyG b1 (by omega))
  have XK := hid (XK.out.onlyG b1 (by omega))
  have G0 := hid (G0.out.onlyG b1 (by omega))
  have B := hid (in_onlyG B.out b1 (by omega))
  clear o1 b1
  have hm0 : ¬ 1 + (szK K : Int) + (szK L : Int) < 0 := by omega
  go_wp2_with fail
  (with_reducible refine (eqRatS_k (by omega) w15 G0.out W0.out).mono ?_)
  rintro e w16 ⟨rfl, b1⟩
  have t16 : w15.heap.size ≤ w16.heap.size := b1.size
  have rK := hid (rK.out.old b1)
  have rL := hid (rL.out.old b1)
  have W0 := hid (W0.out.old b1)
  have XK := hid (XK.out.old b1)
  have XL := hid (XL.out.old b1)
  have G0 := hid (G0.out.old b1)
  have B := hid (B.out.trans (b1.mono B.out.size))
  clear b1
  go_wp2_with fail
  (with_reducible refine (markRatS_k (m := 1) (by omega) (by omega) (by omega) w16 G0.out).mono ?_)
  rintro e w17 ⟨rfl, o1, b1⟩
  have t17 : w16.heap.size ≤ w17.heap.size := b1.size
  have G0 := hid o1
  have rK := hid (rK.out.onlyG b1 (by omega))
  have rL := hid (rL.out.onlyG b1 (by omega))
  have W0 := hid (W0.out.onlyG b1 (by omega))
  have B := hid (in_onlyG B.out b1 (by omega))
  clear o1 b1
  have hq0 : ¬ 1 + (szK RR : Int) < 0 := by omega
  go_wp2_with fail
  (with_reducible refine (heldRatS_k (m := 1) (by omega) (by omega) (by omega) w17 G0.out).mono ?_)
  rintro e w18 ⟨rfl, b1⟩
  have t18 : w17.heap.size ≤ w18.heap.size := b1.size
  have rK := hid (rK.out.old b1)
  have rL := hid (rL.out.old b1)
  have W0 := hid (W0.out.old b1)
  have G0 := hid (G0.out.old b1)
  have B := hid (B.out.trans (b1.mono B.out.size))
  clear b1
  go_wp2_with fail
  (with_reducible refine (toRatS_came _ _ _ _ K (by omega) w18 rK.out).mono ?_)
  rintro e w19 ⟨a19, n19, c19, rfl, i1, b1⟩
  have t19 : w18.heap.size ≤ w19.heap.size := b1.size
  have rK := hid (rK.out.old b1)
  have rL := hid (rL.out.old b1)
  have W0 := hid (W0.out.old b1)
  have G0 := hid (G0.out.old b1)
  have B := hid (B.out.trans (b1.mono B.out.size))
  have YK := hid i1
  clear i1 b1
  go_wp2_with fail
  (with_reducible refine (toRatS_came _ _ _ _ L (by omega) w19 rL.out).mono ?_)
  rintro e w20 ⟨a20, n20, c20, rfl, i1, b1⟩
  have t20 : w19.heap.size ≤ w20.heap.size := b1.size
  have rK := hid (rK.out.old b1)
  have rL := hid (rL.out.old b1)
  have W0 := hid (W0.out.old b1)
  have G0 := hid (G0.out.old b1)
  have YK := hid (YK.out.old b1)
  have B := hid (B.out.trans (b1.mono B.out.size))
  have YL := hid i1
  clear i1 b1
  have KR := hid (impl_VecSub hSK hSL w20 YK.out YL.out)
  rw [← HRR.out] at KR
  go_wp2_with fail
  (with_reducible refine (KR.out).mono ?_)
  rintro e w21 ⟨a21, n21, c21, rfl, i1, b1⟩
  have t21 : w20.heap.size ≤ w21.heap.size := b1.size
  have rK := hid (rK.out.old b1)
  have rL := hid (rL.out.old b1)
  have W0 := hid (W0.out.old b1)
  have G0 := hid (G0.out.old b1)
  have YK := hid (YK.out.old b1)
  have YL := hid (YL.out.old b1)
  have B := hid (B.out.trans (b1.mono B.out.size))
  have H0 := hid i1
  clear i1 b1
  clear KR
  go_wp2_with fail
  (with_reducible refine (eqRatS_k (by omega) w21 H0.out W0.out).mono ?_)
  rintro e w22 ⟨rfl, b1⟩
  have t22 : w21.heap.size ≤ w22.heap.size := b1.size
  have rK := hid (rK.out.old b1)
  have rL := hid (rL.out.old b1)
  have W0 := hid (W0.out.old b1)
  have G0 := hid (G0.out.old b1)
  have H0 := hid (H0.out.old b1)
  have B := hid (B.out.trans (b1.mono B.out.size))
  clear b1
  go_wp2_with fail
  (with_reducible refine (heldRatS_k (m := 1) (by omega) (by omega) (by omega) w22 G0.out).mono ?_)
  rintro e w23 ⟨rfl, b1⟩
  have t23 : w22.heap.size ≤ w23.heap.size := b1.size
  have rK := hid (rK.out.old b1)
  have rL := hid (rL.out.old b1)
  have W0 := hid (W0.out.old b1)
  have G0 := hid (G0.out.old b1)
  have H0 := hid (H0.out.old b1)
  have B := hid (B.out.trans (b1.mono B.out.size))
  clear b1
  go_wp2
  go_ret
  exact ⟨rfl, B.out⟩
end Go.Proofs.Ytmghoedjcokhpaa
