/- The law TermsToVec. -/
import Derived.Test.YtnkcihcmkojdmaaTto
import Derived.Deep.RegionHeld3
import Derived.Deep.DeepCutAuto
namespace Go.Proofs.Ytnkcihcmkojdmaa
open Go.RowKit
open Go.Lib (hid)
set_option linter.unusedVariables false

set_option maxRecDepth 100000 in
set_option maxHeartbeats 25600000 in
theorem law_TermsToVec (a : Option Addr) (n c : Nat) (K : List Tq) (hnK : n ≤ maxLen) (hmK : ∀ f ∈ K, f.A.length ≤ maxLen ∧ f.D.length ≤ maxLen) (z : Int) (z0 : -9223372036854775808 ≤ z) (z1 : z ≤ 9223372036854775807) (w : World) (rK : TCame w w.heap.size a n K) :
    Calls Try.prog 5 #[.slice a n c, .int .i64 z] w (RetB (.bool true) w) := by
  have B := hid (Below.refl w.heap.size w)
  have rK := hid rK
  by_cases hsK : (szU K : Int) ≤ 1048576
  case neg =>
    go_enter Try.func5, Try.ntmps5
    obtain ⟨w0, hw0⟩ : ∃ w0, w0 = w := ⟨_, rfl⟩
    rw [← hw0] at B rK ⊢
    clear hw0
    go_wp2_with fail
    (with_reducible refine (szTermS_no _ _ _ _ K (1048576) hnK hmK (by omega) (by omega) (by omega) _ rK.out).mono ?_)
    rintro e w1 ⟨rfl, b1⟩
    have t1 : w0.heap.size ≤ w1.heap.size := by have := b1.size; omega
    have rK := hid (rK.out.old b1)
    have B := hid (B.out.trans (b1.mono B.out.size))
    clear b1
    go_wp2
    go_ret
    exact ⟨rfl, B.out⟩
  have hztK := szT_szU K
  have hSK : SmT K := SmT.of (by omega)
  have hslK : szU K ≤ 1048576 := by omega
  obtain ⟨RR, hRR⟩ : ∃ RR, RR = toV K z := ⟨_, rfl⟩
  have hrs : szK RR ≤ 2000 := by rw [hRR]; exact toV_sz K z
  have HRR := hid hRR
  clear hRR
  go_enter Try.func5, Try.ntmps5
  obtain ⟨w0, hw0⟩ : ∃ w0, w0 = w := ⟨_, rfl⟩
  rw [← hw0] at B rK ⊢
  clear hw0
  go_wp2_with fail
  (with_reducible refine (szTermS_yes _ _ _ _ K (1048576) (by omega) (by omega) _ rK.out).mono ?_)
  rintro e w1 ⟨rfl, b1⟩
  have t1 : w0.heap.size ≤ w1.heap.size := by have := b1.size; omega
  have rK := hid (rK.out.old b1)
  have B := hid (B.out.trans (b1.mono B.out.size))
  clear b1
  go_wp2_with fail
  (with_reducible refine (toTermS_came _ _ _ _ K (by omega) _ rK.out).mono ?_)
  rintro e w2 ⟨a2, n2, c2, rfl, i1, b1⟩
  have t2 : w1.heap.size ≤ w2.heap.size := by have := b1.size; omega
  have rK := hid (rK.out.old b1)
  have B := hid (B.out.trans (b1.mono B.out.size))
  have TK := hid i1
  clear i1 b1
  have KR := hid (spec_TermsToVec hSK z z0 z1 w2 TK.out)
  rw [← HRR.out] at KR
  go_wp2_with fail
  (with_reducible refine (KR.out).mono ?_)
  rintro e w3 ⟨a3, n3, c3, rfl, i1, b1⟩
  have t3 : w2.heap.size ≤ w3.heap.size := by have := b1.size; omega
  have rK := hid (rK.out.old b1)
  have TK := hid (TK.out.old b1)
  have B := hid (B.out.trans (b1.mono B.out.size))
  have W0 := hid i1
  clear i1 b1
  clear KR
  go_wp2_with fail
  (with_reducible refine (toTermS_came _ _ _ _ K (by omega) _ rK.out).mono ?_)
  rintro e w4 ⟨a4, n4, c4, rfl, i1, b1⟩
  have t4 : w3.heap.size ≤ w4.heap.size := by have := b1.size; omega
  have rK := hid (rK.out.old b1)
  have W0 := hid (W0.out.old b1)
  have B := hid (B.out.trans (b1.mono B.out.size))
  have XK := hid i1
  clear i1 b1
  have KR := hid (impl_TermsToVec hSK z z0 z1 w4 XK.out)
  rw [← HRR.out] at KR
  go_wp2_with fail
  (with_reducible refine (KR.out).mono ?_)
  rintro e w5 ⟨a5, n5, c5, rfl, i1, b1⟩
  have t5 : w4.heap.size ≤ w5.heap.size := by have := b1.size; omega
  have rK := hid (rK.out.old b1)
  have W0 := hid (W0.out.old b1)
  have XK := hid (XK.out.old b1)
  have B := hid (B.out.trans (b1.mono B.out.size))
  have G0 := hid i1
  clear i1 b1
  clear KR
  go_wp2_with fail
  (with_reducible refine (eqRatS_k (by omega) _ G0.out W0.out).mono ?_)
  rintro e w6 ⟨rfl, b1⟩
  have t6 : w5.heap.size ≤ w6.heap.size := by have := b1.size; omega
  have rK := hid (rK.out.old b1)
  have W0 := hid (W0.out.old b1)
  have XK := hid (XK.out.old b1)
  have G0 := hid (G0.out.old b1)
  have B := hid (B.out.trans (b1.mono B.out.size))
  clear b1
  go_wp2_with fail
  (with_reducible refine (toTermS_came _ _ _ _ K (by omega) _ rK.out).mono ?_)
  rintro e w7 ⟨a7, n7, c7, rfl, i1, b1⟩
  have t7 : w6.heap.size ≤ w7.heap.size := by have := b1.size; omega
  have rK := hid (rK.out.old b1)
  have W0 := hid (W0.out.old b1)
  have XK := hid (XK.out.old b1)
  have G0 := hid (G0.out.old b1)
  have B := hid (B.out.trans (b1.mono B.out.size))
  have TK := hid i1
  clear i1 b1
  go_wp2_with fail
  (with_reducible refine (eqTermS_k (by omega) _ XK.out TK.out).mono ?_)
  rintro e w8 ⟨rfl, b1⟩
  have t8 : w7.heap.size ≤ w8.heap.size := by have := b1.size; omega
  have rK := hid (rK.out.old b1)
  have W0 := hid (W0.out.old b1)
  have XK := hid (XK.out.old b1)
  have G0 := hid (G0.out.old b1)
  have TK := hid (TK.out.old b1)
  have B := hid (B.out.trans (b1.mono B.out.size))
  clear b1
  go_wp2_with fail
  (with_reducible refine (markTermS_k (m := 1) (by omega) (by omega) (by omega) _ XK.out).mono ?_)
  rintro e w9 ⟨rfl, o1, b1⟩
  have t9 : w8.heap.size ≤ w9.heap.size := by have := b1.size; omega
  have XK := hid o1
  have rK := hid (rK.out.onlyG b1 (by omega))
  have W0 := hid (W0.out.onlyG b1 (by omega))
  have G0 := hid (G0.out.onlyG b1 (by omega))
  have B := hid (in_onlyG B.out b1 (by omega))
  clear o1 b1
  have hm0 : ¬ 1 + (szT K : Int) < 0 := by omega
  go_wp2_with fail
  (with_reducible refine (eqRatS_k (by omega) _ G0.out W0.out).mono ?_)
  rintro e w10 ⟨rfl, b1⟩
  have t10 : w9.heap.size ≤ w10.heap.size := by have := b1.size; omega
  have rK := hid (rK.out.old b1)
  have W0 := hid (W0.out.old b1)
  have XK := hid (XK.out.old b1)
  have G0 := hid (G0.out.old b1)
  have B := hid (B.out.trans (b1.mono B.out.size))
  clear b1
  go_wp2_with fail
  (with_reducible refine (markRatS_k (m := 1) (by omega) (by omega) (by omega) _ G0.out).mono ?_)
  rintro e w11 ⟨rfl, o1, b1⟩
  have t11 : w10.heap.size ≤ w11.heap.size := by have := b1.size; omega
  have G0 := hid o1
  have rK := hid (rK.out.onlyG b1 (by omega))
  have W0 := hid (W0.out.onlyG b1 (by omega))
  have B := hid (in_onlyG B.out b1 (by omega))
  clear o1 b1
  have hq0 : ¬ 1 + (szK RR : Int) < 0 := by omega
  go_wp2_with fail
  (with_reducible refine (heldRatS_k (m := 1) (by omega) (by omega) (by omega) _ G0.out).mono ?_)
  rintro e w12 ⟨rfl, b1⟩
  have t12 : w11.heap.size ≤ w12.heap.size := by have := b1.size; omega
  have rK := hid (rK.out.old b1)
  have W0 := hid (W0.out.old b1)
  have G0 := hid (G0.out.old b1)
  have B := hid (B.out.trans (b1.mono B.out.size))
  clear b1
  go_wp2_with fail
  (with_reducible refine (toTermS_came _ _ _ _ K (by omega) _ rK.out).mono ?_)
  rintro e w13 ⟨a13, n13, c13, rfl, i1, b1⟩
  have t13 : w12.heap.size ≤ w13.heap.size := by have := b1.size; omega
  have rK := hid (rK.out.old b1)
  have W0 := hid (W0.out.old b1)
  have G0 := hid (G0.out.old b1)
  have B := hid (B.out.trans (b1.mono B.out.size))
  have YK := hid i1
  clear i1 b1
  have KR := hid (impl_TermsToVec hSK z z0 z1 w13 YK.out)
  rw [← HRR.out] at KR
  go_wp2_with fail
  (with_reducible refine (KR.out).mono ?_)
  rintro e w14 ⟨a14, n14, c14, rfl, i1, b1⟩
  have t14 : w13.heap.size ≤ w14.heap.size := by have := b1.size; omega
  have rK := hid (rK.out.old b1)
  have W0 := hid (W0.out.old b1)
  have G0 := hid (G0.out.old b1)
  have YK := hid (YK.out.old b1)
  have B := hid (B.out.trans (b1.mono B.out.size))
  have H0 := hid i1
  clear i1 b1
  clear KR
  go_wp2_with fail
  (with_reducible refine (eqRatS_k (by omega) _ H0.out W0.out).mono ?_)
  rintro e w15 ⟨rfl, b1⟩
  have t15 : w14.heap.size ≤ w15.heap.size := by have := b1.size; omega
  have rK := hid (rK.out.old b1)
  have W0 := hid (W0.out.old b1)
  have G0 := hid (G0.out.old b1)
  have H0 := hid (H0.out.old b1)
  have B := hid (B.out.trans (b1.mono B.out.size))
  clear b1
  go_wp2_with fail
  (with_reducible refine (heldRatS_k (m := 1) (by omega) (by omega) (by omega) _ G0.out).mono ?_)
  rintro e w16 ⟨rfl, b1⟩
  have t16 : w15.heap.size ≤ w16.heap.size := by have := b1.size; omega
  have rK := hid (rK.out.old b1)
  have W0 := hid (W0.out.old b1)
  have G0 := hid (G0.out.old b1)
  have H0 := hid (H0.out.old b1)
  have B := hid (B.out.trans (b1.mono B.out.size))
  clear b1
  go_wp2
  go_ret
  exact ⟨rfl, B.out⟩
end Go.Proofs.Ytnkcihcmkojdmaa
