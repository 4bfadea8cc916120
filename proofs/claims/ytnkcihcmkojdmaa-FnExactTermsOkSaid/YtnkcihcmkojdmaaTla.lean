/- The law TermsOk. -/
import Derived.Test.YtnkcihcmkojdmaaTos
import Derived.Deep.RegionHeld3
import Derived.Deep.DeepCutAuto
namespace Go.Proofs.Ytnkcihcmkojdmaa
open Go.RowKit
open Go.Lib (hid)
set_option linter.unusedVariables false

set_option maxRecDepth 100000 in
set_option maxHeartbeats 25600000 in
theorem law_TermsOk (a : Option Addr) (n c : Nat) (K : List Tq) (hnK : n ≤ maxLen) (hmK : ∀ f ∈ K, f.A.length ≤ maxLen ∧ f.D.length ≤ maxLen) (z : Int) (z0 : -9223372036854775808 ≤ z) (z1 : z ≤ 9223372036854775807) (w : World) (rK : TCame w w.heap.size a n K) :
    Calls Try.prog 3 #[.slice a n c, .int .i64 z] w (RetB (.bool true) w) := by
  have B := hid (Below.refl w.heap.size w)
  have rK := hid rK
  by_cases hsK : (szU K : Int) ≤ 1048576
  case neg =>
    go_enter Try.func3, Try.ntmps3
    obtain ⟨w0, hw0⟩ : ∃ w0, w0 = w := ⟨_, rfl⟩
    rw [← hw0] at B rK ⊢
    clear hw0
    go_wp2_with fail
    (with_reducible refine (szTermS_no _ _ _ _ K (1048576) hnK hmK (by omega) (by omega) (by omega) _ rK.out).mono ?_)
    rintro e w1 ⟨rfl, b1⟩
    have t1 : w0.heap.size ≤ w1.heap.size := by have := b1.size; omega
    have rK := hid (rK.out.old b1)
    have B := hid (B.out.trans (b1.mono B.out.size))
    clear b1
    go_wp2
    go_ret
    exact ⟨rfl, B.out⟩
  have hztK := szT_szU K
  have hSK : SmT K := SmT.of (by omega)
  have hslK : szU K ≤ 1048576 := by omega
  obtain ⟨RR, hRR⟩ : ∃ RR, RR = tok K z := ⟨_, rfl⟩
  have HRR := hid hRR
  clear hRR
  go_enter Try.func3, Try.ntmps3
  obtain ⟨w0, hw0⟩ : ∃ w0, w0 = w := ⟨_, rfl⟩
  rw [← hw0] at B rK ⊢
  clear hw0
  go_wp2_with fail
  (with_reducible refine (szTermS_yes _ _ _ _ K (1048576) (by omega) (by omega) _ rK.out).mono ?_)
  rintro e w1 ⟨rfl, b1⟩
  have t1 : w0.heap.size ≤ w1.heap.size := by have := b1.size; omega
  have rK := hid (rK.out.old b1)
  have B := hid (B.out.trans (b1.mono B.out.size))
  clear b1
  go_wp2_with fail
  (with_reducible refine (toTermS_came _ _ _ _ K (by omega) _ rK.out).mono ?_)
  rintro e w2 ⟨a2, n2, c2, rfl, i1, b1⟩
  have t2 : w1.heap.size ≤ w2.heap.size := by have := b1.size; omega
  have rK := hid (rK.out.old b1)
  have B := hid (B.out.trans (b1.mono B.out.size))
  have TK := hid i1
  clear i1 b1
  have KR := hid (spec_TermsOk hSK z z0 z1 w2 TK.out)
  rw [← HRR.out] at KR
  go_wp2_with fail
  (with_reducible refine (KR.out).mono ?_)
  rintro e w3 ⟨rfl, b1⟩
  have t3 : w2.heap.size ≤ w3.heap.size := by have := b1.size; omega
  have rK := hid (rK.out.old b1)
  have TK := hid (TK.out.old b1)
  have B := hid (B.out.trans (b1.mono B.out.size))
  clear b1
  clear KR
  go_wp2_with fail
  (with_reducible refine (toTermS_came _ _ _ _ K (by omega) _ rK.out).mono ?_)
  rintro e w4 ⟨a4, n4, c4, rfl, i1, b1⟩
  have t4 : w3.heap.size ≤ w4.heap.size := by have := b1.size; omega
  have rK := hid (rK.out.old b1)
  have B := hid (B.out.trans (b1.mono B.out.size))
  have XK := hid i1
  clear i1 b1
  have KR := hid (impl_TermsOk hSK z z0 z1 w4 XK.out)
  rw [← HRR.out] at KR
  go_wp2_with fail
  (with_reducible refine (KR.out).mono ?_)
  rintro e w5 ⟨rfl, b1⟩
  have t5 : w4.heap.size ≤ w5.heap.size := by have := b1.size; omega
  have rK := hid (rK.out.old b1)
  have XK := hid (XK.out.old b1)
  have B := hid (B.out.trans (b1.mono B.out.size))
  clear b1
  clear KR
  go_wp2_with fail
  (with_reducible refine (toTermS_came _ _ _ _ K (by omega) _ rK.out).mono ?_)
  rintro e w6 ⟨a6, n6, c6, rfl, i1, b1⟩
  have t6 : w5.heap.size ≤ w6.heap.size := by have := b1.size; omega
  have rK := hid (rK.out.old b1)
  have XK := hid (XK.out.old b1)
  have B := hid (B.out.trans (b1.mono B.out.size))
  have TK := hid i1
  clear i1 b1
  go_wp2_with fail
  (with_reducible refine (eqTermS_k (by omega) _ XK.out TK.out).mono ?_)
  rintro e w7 ⟨rfl, b1⟩
  have t7 : w6.heap.size ≤ w7.heap.size := by have := b1.size; omega
  have rK := hid (rK.out.old b1)
  have XK := hid (XK.out.old b1)
  have TK := hid (TK.out.old b1)
  have B := hid (B.out.trans (b1.mono B.out.size))
  clear b1
  go_wp2
  go_ret
  exact ⟨rfl, B.out⟩
end Go.Proofs.Ytnkcihcmkojdmaa
