/- The laws VecEqual and VecArgMin. -/
import Derived.Test.YtmghoedjcokhpaaVl0
import Derived.Test.YtmghoedjcokhpaaVq
import Derived.Test.YtmghoedjcokhpaaVw
import Derived.Deep.RegionHeld3
import Derived.Deep.DeepCutAuto
namespace Go.Proofs.Ytmghoedjcokhpaa
open Go.RowKit
open Go.Lib (hid)
set_option linter.unusedVariables false

set_option maxRecDepth 100000 in
set_option maxHeartbeats 25600000 in
theorem law_VecEqual (a : Option Addr) (n c : Nat) (K : List Fq) (hnK : n ≤ maxLen) (hmK : ∀ f ∈ K, f.A.length ≤ maxLen ∧ f.D.length ≤ maxLen) (a' : Option Addr) (n' c' : Nat) (L : List Fq) (hnL : n' ≤ maxLen) (hmL : ∀ f ∈ L, f.A.length ≤ maxLen ∧ f.D.length ≤ maxLen) (w : World) (rK : VCame w w.heap.size a n K) (rL : VCame w w.heap.size a' n' L) :
    Calls Try.prog 9 #[.slice a n c, .slice a' n' c'] w (RetB (.bool true) w) := by
  have B := hid (Below.refl w.heap.size w)
  have rK := hid rK
  have rL := hid rL
  by_cases hsK : (szK K : Int) ≤ 1048576
  case neg =>
    go_enter Try.func9, Try.ntmps9
    obtain ⟨w0, hw0⟩ : ∃ w0, w0 = w := ⟨_, rfl⟩
    rw [← hw0] at B rK rL ⊢
    clear hw0
    go_wp2_with fail
    (with_reducible refine (szRatS_no _ _ _ _ K (1048576) hnK hmK (by omega) (by omega) (by omega) w0 rK.out).mono ?_)
    rintro e w1 ⟨rfl, b1⟩
    have t1 : w0.heap.size ≤ w1.heap.size := b1.size
    have rK := hid (rK.out.old b1)
    have rL := hid (rL.out.old b1)
    have B := hid (B.out.trans (b1.mono B.out.size))
    clear b1
    go_wp2
    go_ret
    exact ⟨rfl, B.out⟩
  by_cases hsL : (szK L : Int) ≤ 1048576 - (szK K : Int)
  case neg =>
    go_enter Try.func9, Try.ntmps9
    obtain ⟨w0, hw0⟩ : ∃ w0, w0 = w := ⟨_, rfl⟩
    rw [← hw0] at B rK rL ⊢
    clear hw0
    go_wp2_with fail
    (with_reducible refine (szRatS_yes _ _ _ _ K (1048576) (by omega) (by omega) w0 rK.out).mono ?_)
    rintro e w1 ⟨rfl, b1⟩
    have t1 : w0.heap.size ≤ w1.heap.size := b1.size
    have rK := hid (rK.out.old b1)
    have rL := hid (rL.out.old b1)
    have B := hid (B.out.trans (b1.mono B.out.size))
    clear b1
    go_wp2_with fail
    (with_reducible refine (szRatS_no _ _ _ _ L (1048576 - (szK K : Int)) hnL hmL (by omega) (by omega) (by omega) w1 rL.out).mono ?_)
    rintro e w2 ⟨rfl, b1⟩
    have t2 : w1.heap.size ≤ w2.heap.size := b1.size
    have rK := hid (rK.out.old b1)
    have rL := hid (rL.out.old b1)
    have B := hid (B.out.trans (b1.mono B.out.size))
    clear b1
    go_wp2
    go_ret
    exact ⟨rfl, B.out⟩

  obtain ⟨RR, hRR⟩ : ∃ RR, RR = eqV K L := ⟨_, rfl⟩
  have HRR := hid hRR
  clear hRR
  have hSK : Sm K := Sm.of (by omega)
  have hslK : szK K ≤ 1048576 := by omega
  have hSL : Sm L := Sm.of (by omega)
  have hslL : szK L ≤ 1048576 := by omega
  go_enter Try.func9, Try.ntmps9
  obtain ⟨w0, hw0⟩ : ∃ w0, w0 = w := ⟨_, rfl⟩
  rw [← hw0] at B rK rL ⊢
  clear hw0
  go_wp2_with fail
  (with_reducible refine (szRatS_yes _ _ _ _ K (1048576) (by omega) (by omega) w0 rK.out).mono ?_)
  rintro e w1 ⟨rfl, b1⟩
  have t1 : w0.heap.size ≤ w1.heap.size := b1.size
  have rK := hid (rK.out.old b1)
  have rL := hid (rL.out.old b1)
  have B := hid (B.out.trans (b1.mono B.out.size))
  clear b1
  go_wp2_with fail
  (with_reducible refine (szRatS_yes _ _ _ _ L (1048576 - (szK K : Int)) (by omega) (by omega) w1 rL.out).mono ?_)
  rintro e w2 ⟨rfl, b1⟩
  have t2 : w1.heap.size ≤ w2.heap.size := b1.size
  have rK := hid (rK.out.old b1)
  have rL := hid (rL.out.old b1)
  have B := hid (B.out.trans (b1.mono B.out.size))
  clear b1
  go_wp2_with fail
  (with_reducible refine (toRatS_came _ _ _ _ K (by omega) w2 rK.out).mono ?_)
  rintro e w3 ⟨a3, n3, c3, rfl, i1, b1⟩
  have t3 : w2.heap.size ≤ w3.heap.size := b1.size
  have rK := hid (rK.out.old b1)
  have rL := hid (rL.out.old b1)
  have B := hid (B.out.trans (b1.mono B.out.size))
  have TK := hid i1
  clear i1 b1
  go_wp2_with fail
  (with_reducible refine (toRatS_came _ _ _ _ L (by omega) w3 rL.out).mono ?_)
  rintro e w4 ⟨a4, n4, c4, rfl, i1, b1⟩
  have t4 : w3.heap.size ≤ w4.heap.size := b1.size
  have rK := hid (rK.out.old b1)
  have rL := hid (rL.out.old b1)
  have TK := hid (TK.out.old b1)
  have B := hid (B.out.trans (b1.mono B.out.size))
  have TL := hid i1
  clear i1 b1
  have KR := hid (spec_VecEqual hSK hSL w4 TK.out TL.out)
  rw [← HRR.out] at KR
  go_wp2_with fail
  (with_reducible refine (KR.out).mono ?_)
  rintro e w5 ⟨rfl, b1⟩
  have t5 : w4.heap.size ≤ w5.heap.size := b1.size
  have rK := hid (rK.out.old b1)
  have rL := hid (rL.out.old b1)
  have TK := hid (TK.out.old b1)
  have TL := hid (TL.out.old b1)
  have B := hid (B.out.trans (b1.mono B.out.size))
  clear b1
  clear KR
  go_wp2_with fail
  (with_reducible refine (toRatS_came _ _ _ _ K (by omega) w5 rK.out).mono ?_)
  rintro e w6 ⟨a6, n6, c6, rfl, i1, b1⟩
  have t6 : w5.heap.size ≤ w6.heap.size := b1.size
  have rK := hid (rK.out.old b1)
  have rL := hid (rL.out.old b1)
  have B := hid (B.out.trans (b1.mono B.out.size))
  have XK := hid i1
  clear i1 b1
  go_wp2_with fail
  (with_reducible refine (toRatS_came _ _ _ _ L (by omega) w6 rL.out).mono ?_)
  rintro e w7 ⟨a7, n7, c7, rfl, i1, b1⟩
  have t7 : w6.heap.size ≤ w7.heap.size := b1.size
  have rK := hid (rK.out.old b1)
  have rL := hid (rL.out.old b1)
  have XK := hid (XK.out.old b1)
  have B := hid (B.out.trans (b1.mono B.out.size))
  have XL := hid i1
  clear i1 b1
  have KR := hid (impl_VecEqual hSK hSL w7 XK.out XL.out)
  rw [← HRR.out] at KR
  go_wp2_with fail
  (with_reducible refine (KR.out).mono ?_)
  rintro e w8 ⟨rfl, b1⟩
  have t8 : w7.heap.size ≤ w8.heap.size := b1.size
  have rK := hid (rK.out.old b1)
  have rL := hid (rL.out.old b1)
  have XK := hid (XK.out.old b1)
  have XL := hid (XL.out.old b1)
  have B := hid (B.out.trans (b1.mono B.out.size))
  clear b1
  clear KR
  go_wp2_with fail
  (with_reducible refine (toRatS_came _ _ _ _ K (by omega) w8 rK.out).mono ?_)
  rintro e w9 ⟨a9, n9, c9, rfl, i1, b1⟩
  have t9 : w8.heap.size ≤ w9.heap.size := b1.size
  have rK := hid (rK.out.old b1)
  have rL := hid (rL.out.old b1)
  have XK := hid (XK.out.old b1)
  have XL := hid (XL.out.old b1)
  have B := hid (B.out.trans (b1.mono B.out.size))
  have TK := hid i1
  clear i1 b1
  go_wp2_with fail
  (with_reducible refine (eqRatS_k (by omega) w9 XK.out TK.out).mono ?_)
  rintro e w10 ⟨rfl, b1⟩
  have t10 : w9.heap.size ≤ w10.heap.size := b1.size
  have rK := hid (rK.out.old b1)
  have rL := hid (rL.out.old b1)
  have XK := hid (XK.out.old b1)
  have XL := hid (XL.out.old b1)
  have TK := hid (TK.out.old b1)
  have B := hid (B.out.trans (b1.mono B.out.size))
  clear b1
  go_wp2_with fail
  (with_reducible refine (toRatS_came _ _ _ _ L (by omega) w10 rL.out).mono ?_)
  rintro e w11 ⟨a11, n11, c11, rfl, i1, b1⟩
  have t11 : w10.heap.size ≤ w11.heap.size := b1.size
  have rK := hid (rK.out.old b1)
  have rL := hid (rL.out.old b1)
  have XK := hid (XK.out.old b1)
  have XL := hid (XL.out.old b1)
  have B := hid (B.out.trans (b1.mono B.out.size))
  have TL := hid i1
  clear i1 b1
  go_wp2_with fail
  (with_reducible refine (eqRatS_k (by omega) w11 XL.out TL.out).mono ?_)
  rintro e w12 ⟨rfl, b1⟩
  have t12 : w11.heap.size ≤ w12.heap.size := b1.size
  have rK := hid (rK.out.old b1)
  have rL := hid (rL.out.old b1)
  have XK := hid (XK.out.old b1)
  have XL := hid (XL.out.old b1)
  have TL := hid (TL.out.old b1)
  have B := hid (B.out.trans (b1.mono B.out.size))
  clear b1
  go_wp2
  go_ret
  exact ⟨rfl, B.out⟩
set_option maxRecDepth 100000 in
set_option maxHeartbeats 25600000 in
theorem law_VecArgMin (a : Option Addr) (n c : Nat) (K : List Fq) (hnK : n ≤ maxLen) (hmK : ∀ f ∈ K, f.A.length ≤ maxLen ∧ f.D.length ≤ maxLen) (w : World) (rK : VCame w w.heap.size a n K) :
    Calls Try.prog 10 #[.slice a n c] w (RetB (.bool true) w) := by
  have B := hid (Below.refl w.heap.size w)
  have rK := hid rK
  by_cases hsK : (szK K : Int) ≤ 1048576
  case neg =>
    go_enter Try.func10, Try.ntmps10
    obtain ⟨w0, hw0⟩ : ∃ w0, w0 = w := ⟨_, rfl⟩
    rw [← hw0] at B rK ⊢
    clear hw0
    go_wp2_with fail
    (with_reducible refine (szRatS_no _ _ _ _ K (1048576) hnK hmK (by omega) (by omega) (by omega) w0 rK.out).mono ?_)
    rintro e w1 ⟨rfl, b1⟩
    have t1 : w0.heap.size ≤ w1.heap.size := b1.size
    have rK := hid (rK.out.old b1)
    have B := hid (B.out.trans (b1.mono B.out.size))
    clear b1
    go_wp2
    go_ret
    exact ⟨rfl, B.out⟩

  obtain ⟨RR, hRR⟩ : ∃ RR, RR = argV K := ⟨_, rfl⟩
  have HRR := hid hRR
  clear hRR
  have hSK : Sm K := Sm.of (by omega)
  have hslK : szK K ≤ 1048576 := by omega
  go_enter Try.func10, Try.ntmps10
  obtain ⟨w0, hw0⟩ : ∃ w0, w0 = w := ⟨_, rfl⟩
  rw [← hw0] at B rK ⊢
  clear hw0
  go_wp2_with fail
  (with_reducible refine (szRatS_yes _ _ _ _ K (1048576) (by omega) (by omega) w0 rK.out).mono ?_)
  rintro e w1 ⟨rfl, b1⟩
  have t1 : w0.heap.size ≤ w1.heap.size := b1.size
  have rK := hid (rK.out.old b1)
  have B := hid (B.out.trans (b1.mono B.out.size))
  clear b1
  go_wp2_with fail
  (with_reducible refine (toRatS_came _ _ _ _ K (by omega) w1 rK.out).mono ?_)
  rintro e w2 ⟨a2, n2, c2, rfl, i1, b1⟩
  have t2 : w1.heap.size ≤ w2.heap.size := b1.size
  have rK := hid (rK.out.old b1)
  have B := hid (B.out.trans (b1.mono B.out.size))
  have TK := hid i1
  clear i1 b1
  have KR := hid (spec_VecArgMin hSK w2 TK.out)
  rw [← HRR.out] at KR
  go_wp2_with fail
  (with_reducible refine (KR.out).mono ?_)
  rintro e w3 ⟨rfl, b1⟩
  have t3 : w2.heap.size ≤ w3.heap.size := b1.size
  have rK := hid (rK.out.old b1)
  have TK := hid (TK.out.old b1)
  have B := hid (B.out.trans (b1.mono B.out.size))
  clear b1
  clear KR
  go_wp2_with fail
  (with_reducible refine (toRatS_came _ _ _ _ K (by omega) w3 rK.out).mono ?_)
  rintro e w4 ⟨a4, n4, c4, rfl, i1, b1⟩
  have t4 : w3.heap.size ≤ w4.heap.size := b1.size
  have rK := hid (rK.out.old b1)
  have B := hid (B.out.trans (b1.mono B.out.size))
  have XK := hid i1
  clear i1 b1
  have KR := hid (impl_VecArgMin hSK w4 XK.out)
  rw [← HRR.out] at KR
  go_wp2_with fail
  (with_reducible refine (KR.out).mono ?_)
  rintro e w5 ⟨rfl, b1⟩
  have t5 : w4.heap.size ≤ w5.heap.size := b1.size
  have rK := hid (rK.out.old b1)
  have XK := hid (XK.out.old b1)
  have B := hid (B.out.trans (b1.mono B.out.size))
  clear b1
  clear KR
  go_wp2_with fail
  (with_reducible refine (toRatS_came _ _ _ _ K (by omega) w5 rK.out).mono ?_)
  rintro e w6 ⟨a6, n6, c6, rfl, i1, b1⟩
  have t6 : w5.heap.size ≤ w6.heap.size := b1.size
  have rK := hid (rK.out.old b1)
  have XK := hid (XK.out.old b1)
  have B := hid (B.out.trans (b1.mono B.out.size))
  have TK := hid i1
  clear i1 b1
  go_wp2_with fail
  (with_reducible refine (eqRatS_k (by omega) w6 XK.out TK.out).mono ?_)
  rintro e w7 ⟨rfl, b1⟩
  have t7 : w6.heap.size ≤ w7.heap.size := b1.size
  have rK := hid (rK.out.old b1)
  have XK := hid (XK.out.old b1)
  have TK := hid (TK.out.old b1)
  have B := hid (B.out.trans (b1.mono B.out.size))
  clear b1
  go_wp2
  go_ret
  exact ⟨rfl, B.out⟩
end Go.Proofs.Ytmghoedjcokhpaa
