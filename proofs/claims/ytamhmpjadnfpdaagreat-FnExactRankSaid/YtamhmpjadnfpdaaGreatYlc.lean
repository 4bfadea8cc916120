/- The law Rank. -/
import Derived.Test.YtamhmpjadnfpdaaGreatYl
import Derived.Deep.RegionHeld3
import Derived.Deep.DeepCutAuto
namespace Go.Proofs.YtamhmpjadnfpdaaGreat
open Go.RowKit
open Go.Lib (hid)
set_option linter.unusedVariables false

set_option maxRecDepth 100000 in
set_option maxHeartbeats 25600000 in
theorem law_Rank (a : Option Addr) (n c : Nat) (M : List (List Fq)) (hnM : n ≤ maxLen) (hmM : MLen M) (w : World) (rM : MCame w w.heap.size a n M) :
    Calls Tryz.prog 5 #[.slice a n c] w (RetB (.bool true) w) := by
  have B := hid (Below.refl w.heap.size w)
  have rM := hid rM
  by_cases hsM : (M.length : Int) + (szM M : Int) ≤ 1048576
  case neg =>
    go_enter Tryz.func5, Tryz.ntmps5
    obtain ⟨w0, hw0⟩ : ∃ w0, w0 = w := ⟨_, rfl⟩
    rw [← hw0] at B rM ⊢
    clear hw0
    go_wp2_with fail
    (with_reducible refine (szRatSS_no _ _ _ _ M (1048576) hnM hmM (by omega) (by omega) (by omega) _ rM.out).mono ?_)
    rintro e w1 ⟨rfl, b1⟩
    have t1 : w0.heap.size ≤ w1.heap.size := b1.size
    have rM := hid (rM.out.old b1)
    have B := hid (B.out.trans (b1.mono B.out.size))
    clear b1
    go_wp2
    go_ret
    exact ⟨rfl, B.out⟩
  have hSM : Sm2 M := Sm2.of (by omega)
  have hslM : szM M ≤ 1048576 := by omega
  have hllM : M.length ≤ 1048576 := by omega
  obtain ⟨RR, hRR⟩ : ∃ RR, RR = ((pivM M).length : Int) := ⟨_, rfl⟩
  have HRR := hid hRR
  clear hRR
  go_enter Tryz.func5, Tryz.ntmps5
  obtain ⟨w0, hw0⟩ : ∃ w0, w0 = w := ⟨_, rfl⟩
  rw [← hw0] at B rM ⊢
  clear hw0
  go_wp2_with fail
  (with_reducible refine (szRatSS_yes _ _ _ _ M (1048576) (by omega) (by omega) _ rM.out).mono ?_)
  rintro e w1 ⟨rfl, b1⟩
  have t1 : w0.heap.size ≤ w1.heap.size := b1.size
  have rM := hid (rM.out.old b1)
  have B := hid (B.out.trans (b1.mono B.out.size))
  clear b1
  go_wp2_with fail
  (with_reducible refine (toRatSS_came _ _ _ _ M (by omega) _ rM.out).mono ?_)
  rintro e w2 ⟨a2, n2, c2, rfl, i1, b1⟩
  have t2 : w1.heap.size ≤ w2.heap.size := b1.size
  have rM := hid (rM.out.old b1)
  have B := hid (B.out.trans (b1.mono B.out.size))
  have TM := hid i1
  clear i1 b1
  have KR := hid (spec_Rank (c := c2) hSM w2 TM.out.mw)
  rw [← HRR.out] at KR
  go_wp2_with fail
  (with_reducible refine (KR.out).mono ?_)
  rintro e w3 ⟨rfl, b1⟩
  have t3 : w2.heap.size ≤ w3.heap.size := b1.size
  have rM := hid (rM.out.old b1)
  have TM := hid (TM.out.old b1)
  have B := hid (B.out.trans (b1.mono B.out.size))
  clear b1
  clear KR
  go_wp2_with fail
  (with_reducible refine (toRatSS_came _ _ _ _ M (by omega) _ rM.out).mono ?_)
  rintro e w4 ⟨a4, n4, c4, rfl, i1, b1⟩
  have t4 : w3.heap.size ≤ w4.heap.size := b1.size
  have rM := hid (rM.out.old b1)
  have B := hid (B.out.trans (b1.mono B.out.size))
  have XM := hid i1
  clear i1 b1
  have KR := hid (impl_Rank (c := c4) hSM w4 XM.out.mw)
  rw [← HRR.out] at KR
  go_wp2_with fail
  (with_reducible refine (KR.out).mono ?_)
  rintro e w5 ⟨rfl, b1⟩
  have t5 : w4.heap.size ≤ w5.heap.size := b1.size
  have rM := hid (rM.out.old b1)
  have XM := hid (XM.out.old b1)
  have B := hid (B.out.trans (b1.mono B.out.size))
  clear b1
  clear KR
  go_wp2_with fail
  (with_reducible refine (toRatSS_came _ _ _ _ M (by omega) _ rM.out).mono ?_)
  rintro e w6 ⟨a6, n6, c6, rfl, i1, b1⟩
  have t6 : w5.heap.size ≤ w6.heap.size := b1.size
  have rM := hid (rM.out.old b1)
  have XM := hid (XM.out.old b1)
  have B := hid (B.out.trans (b1.mono B.out.size))
  have TM := hid i1
  clear i1 b1
  go_wp2_with fail
  (with_reducible refine (eqRatSS_w (by omega) (by omega) _ XM.out.mw TM.out.mw).mono ?_)
  rintro e w7 ⟨rfl, b1⟩
  have t7 : w6.heap.size ≤ w7.heap.size := b1.size
  have rM := hid (rM.out.old b1)
  have XM := hid (XM.out.old b1)
  have TM := hid (TM.out.old b1)
  have B := hid (B.out.trans (b1.mono B.out.size))
  clear b1
  go_wp2
  go_ret
  exact ⟨rfl, B.out⟩
end Go.Proofs.YtamhmpjadnfpdaaGreat
