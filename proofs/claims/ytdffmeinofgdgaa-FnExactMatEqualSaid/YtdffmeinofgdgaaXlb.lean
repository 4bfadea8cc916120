/- The law MatEqual. -/
import Derived.Test.YtdffmeinofgdgaaXq
import Derived.Test.YtdffmeinofgdgaaXh
import Derived.Deep.RegionHeld3
import Derived.Deep.DeepCutAuto
namespace Go.Proofs.Ytdffmeinofgdgaa
open Go.RowKit
open Go.Lib (hid)
set_option linter.unusedVariables false

set_option maxRecDepth 100000 in
set_option maxHeartbeats 25600000 in
theorem law_MatEqual (a : Option Addr) (n c : Nat) (M : List (List Fq)) (hnM : n ≤ maxLen) (hmM : MLen M) (a' : Option Addr) (n' c' : Nat) (J : List (List Fq)) (hnJ : n' ≤ maxLen) (hmJ : MLen J) (w : World) (rM : MCame w w.heap.size a n M) (rJ : MCame w w.heap.size a' n' J) :
    Calls Try.prog 8 #[.slice a n c, .slice a' n' c'] w (RetB (.bool true) w) := by
  have B := hid (Below.refl w.heap.size w)
  have rM := hid rM
  have rJ := hid rJ
  by_cases hsM : (M.length : Int) + (szM M : Int) ≤ 1048576
  case neg =>
    go_enter Try.func8, Try.ntmps8
    obtain ⟨w0, hw0⟩ : ∃ w0, w0 = w := ⟨_, rfl⟩
    rw [← hw0] at B rM rJ ⊢
    clear hw0
    go_wp2_with fail
    (with_reducible refine (szRatSS_no _ _ _ _ M (1048576) hnM hmM (by omega) (by omega) (by omega) _ rM.out).mono ?_)
    rintro e w1 ⟨rfl, b1⟩
    have t1 : w0.heap.size ≤ w1.heap.size := b1.size
    have rM := hid (rM.out.old b1)
    have rJ := hid (rJ.out.old b1)
    have B := hid (B.out.trans (b1.mono B.out.size))
    clear b1
    go_wp2
    go_ret
    exact ⟨rfl, B.out⟩
  by_cases hsJ : (J.length : Int) + (szM J : Int) ≤ 1048576 - (M.length : Int) - (szM M : Int)
  case neg =>
    go_enter Try.func8, Try.ntmps8
    obtain ⟨w0, hw0⟩ : ∃ w0, w0 = w := ⟨_, rfl⟩
    rw [← hw0] at B rM rJ ⊢
    clear hw0
    go_wp2_with fail
    (with_reducible refine (szRatSS_yes _ _ _ _ M (1048576) (by omega) (by omega) _ rM.out).mono ?_)
    rintro e w1 ⟨rfl, b1⟩
    have t1 : w0.heap.size ≤ w1.heap.size := b1.size
    have rM := hid (rM.out.old b1)
    have rJ := hid (rJ.out.old b1)
    have B := hid (B.out.trans (b1.mono B.out.size))
    clear b1
    go_wp2_with fail
    (with_reducible refine (szRatSS_no _ _ _ _ J (1048576 - (M.length : Int) - (szM M : Int)) hnJ hmJ (by omega) (by omega) (by omega) _ rJ.out).mono ?_)
    rintro e w2 ⟨rfl, b1⟩
    have t2 : w1.heap.size ≤ w2.heap.size := b1.size
    have rM := hid (rM.out.old b1)
    have rJ := hid (rJ.out.old b1)
    have B := hid (B.out.trans (b1.mono B.out.size))
    clear b1
    go_wp2
    go_ret
    exact ⟨rfl, B.out⟩
  have hSM : Sm2 M := Sm2.of (by omega)
  have hslM : szM M ≤ 1048576 := by omega
  have hllM : M.length ≤ 1048576 := by omega
  have hSJ : Sm2 J := Sm2.of (by omega)
  have hslJ : szM J ≤ 1048576 := by omega
  have hllJ : J.length ≤ 1048576 := by omega
  obtain ⟨RR, hRR⟩ : ∃ RR, RR = eqM M J := ⟨_, rfl⟩
  have HRR := hid hRR
  clear hRR
  go_enter Try.func8, Try.ntmps8
  obtain ⟨w0, hw0⟩ : ∃ w0, w0 = w := ⟨_, rfl⟩
  rw [← hw0] at B rM rJ ⊢
  clear hw0
  go_wp2_with fail
  (with_reducible refine (szRatSS_yes _ _ _ _ M (1048576) (by omega) (by omega) _ rM.out).mono ?_)
  rintro e w1 ⟨rfl, b1⟩
  have t1 : w0.heap.size ≤ w1.heap.size := b1.size
  have rM := hid (rM.out.old b1)
  have rJ := hid (rJ.out.old b1)
  have B := hid (B.out.trans (b1.mono B.out.size))
  clear b1
  go_wp2_with fail
  (with_reducible refine (szRatSS_yes _ _ _ _ J (1048576 - (M.length : Int) - (szM M : Int)) (by omega) (by omega) _ rJ.out).mono ?_)
  rintro e w2 ⟨rfl, b1⟩
  have t2 : w1.heap.size ≤ w2.heap.size := b1.size
  have rM := hid (rM.out.old b1)
  have rJ := hid (rJ.out.old b1)
  have B := hid (B.out.trans (b1.mono B.out.size))
  clear b1
  go_wp2_with fail
  (with_reducible refine (toRatSS_came _ _ _ _ M (by omega) _ rM.out).mono ?_)
  rintro e w3 ⟨a3, n3, c3, rfl, i1, b1⟩
  have t3 : w2.heap.size ≤ w3.heap.size := b1.size
  have rM := hid (rM.out.old b1)
  have rJ := hid (rJ.out.old b1)
  have B := hid (B.out.trans (b1.mono B.out.size))
  have TM := hid i1
  clear i1 b1
  go_wp2_with fail
  (with_reducible refine (toRatSS_came _ _ _ _ J (by omega) _ rJ.out).mono ?_)
  rintro e w4 ⟨a4, n4, c4, rfl, i1, b1⟩
  have t4 : w3.heap.size ≤ w4.heap.size := b1.size
  have rM := hid (rM.out.old b1)
  have rJ := hid (rJ.out.old b1)
  have TM := hid (TM.out.old b1)
  have B := hid (B.out.trans (b1.mono B.out.size))
  have TJ := hid i1
  clear i1 b1
  have KR := hid (spec_MatEqual hSM hSJ w4 TM.out TJ.out)
  rw [← HRR.out] at KR
  go_wp2_with fail
  (with_reducible refine (KR.out).mono ?_)
  rintro e w5 ⟨rfl, b1⟩
  have t5 : w4.heap.size ≤ w5.heap.size := b1.size
  have rM := hid (rM.out.old b1)
  have rJ := hid (rJ.out.old b1)
  have TM := hid (TM.out.old b1)
  have TJ := hid (TJ.out.old b1)
  have B := hid (B.out.trans (b1.mono B.out.size))
  clear b1
  clear KR
  go_wp2_with fail
  (with_reducible refine (toRatSS_came _ _ _ _ M (by omega) _ rM.out).mono ?_)
  rintro e w6 ⟨a6, n6, c6, rfl, i1, b1⟩
  have t6 : w5.heap.size ≤ w6.heap.size := b1.size
  have rM := hid (rM.out.old b1)
  have rJ := hid (rJ.out.old b1)
  have B := hid (B.out.trans (b1.mono B.out.size))
  have XM := hid i1
  clear i1 b1
  go_wp2_with fail
  (with_reducible refine (toRatSS_came _ _ _ _ J (by omega) _ rJ.out).mono ?_)
  rintro e w7 ⟨a7, n7, c7, rfl, i1, b1⟩
  have t7 : w6.heap.size ≤ w7.heap.size := b1.size
  have rM := hid (rM.out.old b1)
  have rJ := hid (rJ.out.old b1)
  have XM := hid (XM.out.old b1)
  have B := hid (B.out.trans (b1.mono B.out.size))
  have XJ := hid i1
  clear i1 b1
  have KR := hid (impl_MatEqual (c := c6) (d := c7) hSM hSJ w7 XM.out.mw XJ.out.mw)
  rw [← HRR.out] at KR
  go_wp2_with fail
  (with_reducible refine (KR.out).mono ?_)
  rintro e w8 ⟨rfl, b1⟩
  have t8 : w7.heap.size ≤ w8.heap.size := b1.size
  have rM := hid (rM.out.old b1)
  have rJ := hid (rJ.out.old b1)
  have XM := hid (XM.out.old b1)
  have XJ := hid (XJ.out.old b1)
  have B := hid (B.out.trans (b1.mono B.out.size))
  clear b1
  clear KR
  go_wp2_with fail
  (with_reducible refine (toRatSS_came _ _ _ _ M (by omega) _ rM.out).mono ?_)
  rintro e w9 ⟨a9, n9, c9, rfl, i1, b1⟩
  have t9 : w8.heap.size ≤ w9.heap.size := b1.size
  have rM := hid (rM.out.old b1)
  have rJ := hid (rJ.out.old b1)
  have XM := hid (XM.out.old b1)
  have XJ := hid (XJ.out.old b1)
  have B := hid (B.out.trans (b1.mono B.out.size))
  have TM := hid i1
  clear i1 b1
  go_wp2_with fail
  (with_reducible refine (eqRatSS_w (by omega) (by omega) _ XM.out.mw TM.out.mw).mono ?_)
  rintro e w10 ⟨rfl, b1⟩
  have t10 : w9.heap.size ≤ w10.heap.size := b1.size
  have rM := hid (rM.out.old b1)
  have rJ := hid (rJ.out.old b1)
  have XM := hid (XM.out.old b1)
  have XJ := hid (XJ.out.old b1)
  have TM := hid (TM.out.old b1)
  have B := hid (B.out.trans (b1.mono B.out.size))
  clear b1
  go_wp2_with fail
  (with_reducible refine (toRatSS_came _ _ _ _ J (by omega) _ rJ.out).mono ?_)
  rintro e w11 ⟨a11, n11, c11, rfl, i1, b1⟩
  have t11 : w10.heap.size ≤ w11.heap.size := b1.size
  have rM := hid (rM.out.old b1)
  have rJ := hid (rJ.out.old b1)
  have XM := hid (XM.out.old b1)
  have XJ := hid (XJ.out.old b1)
  have B := hid (B.out.trans (b1.mono B.out.size))
  have TJ := hid i1
  clear i1 b1
  go_wp2_with fail
  (with_reducible refine (eqRatSS_w (by omega) (by omega) _ XJ.out.mw TJ.out.mw).mono ?_)
  rintro e w12 ⟨rfl, b1⟩
  have t12 : w11.heap.size ≤ w12.heap.size := b1.size
  have rM := hid (rM.out.old b1)
  have rJ := hid (rJ.out.old b1)
  have XM := hid (XM.out.old b1)
  have XJ := hid (XJ.out.old b1)
  have TJ := hid (TJ.out.old b1)
  have B := hid (B.out.trans (b1.mono B.out.size))
  clear b1
  go_wp2
  go_ret
  exact ⟨rfl, B.out⟩
end Go.Proofs.Ytdffmeinofgdgaa
