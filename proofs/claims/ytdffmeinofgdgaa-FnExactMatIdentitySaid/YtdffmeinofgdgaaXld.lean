/- The law MatIdentity. -/
import Derived.Test.YtdffmeinofgdgaaXt
import Derived.Test.YtdffmeinofgdgaaXd
import Derived.Deep.RegionHeld3
import Derived.Deep.DeepCutAuto
namespace Go.Proofs.Ytdffmeinofgdgaa
open Go.RowKit
open Go.Lib (hid)
set_option linter.unusedVariables false

set_option maxRecDepth 100000 in
set_option maxHeartbeats 25600000 in
theorem law_MatIdentity (z : Int) (z0 : -9223372036854775808 ≤ z) (z1 : z ≤ 9223372036854775807) (w : World) :
    Calls Try.prog 5 #[.int .i64 z] w (RetB (.bool true) w) := by
  have B := hid (Below.refl w.heap.size w)
  obtain ⟨RR, hRR⟩ : ∃ RR, RR = matI z := ⟨_, rfl⟩
  have hrs : RR.length ≤ 40 ∧ szM RR ≤ 78400 := by rw [hRR]; exact matI_sz z
  have hrs1 := hrs.1
  have hrs2 := hrs.2
  clear hrs
  have HRR := hid hRR
  clear hRR
  go_enter Try.func5, Try.ntmps5
  obtain ⟨w0, hw0⟩ : ∃ w0, w0 = w := ⟨_, rfl⟩
  rw [← hw0] at B  ⊢
  clear hw0
  have KR := hid (spec_MatIdentity z z0 z1 w0)
  rw [← HRR.out] at KR
  go_wp2_with fail
  (with_reducible refine (KR.out).mono ?_)
  rintro e w1 ⟨a1, n1, c1, rfl, i1, b1⟩
  have t1 : w0.heap.size ≤ w1.heap.size := b1.size
  have B := hid (B.out.trans (b1.mono B.out.size))
  have W0 := hid i1
  clear i1 b1
  clear KR
  have KR := hid (impl_MatIdentity z z0 z1 w1)
  rw [← HRR.out] at KR
  go_wp2_with fail
  (with_reducible refine (KR.out).mono ?_)
  rintro e w2 ⟨a2, n2, c2, rfl, i1, b1⟩
  have t2 : w1.heap.size ≤ w2.heap.size := b1.size
  have W0 := hid (W0.out.old b1)
  have B := hid (B.out.trans (b1.mono B.out.size))
  have G0 := hid i1
  clear i1 b1
  clear KR
  go_wp2_with fail
  (with_reducible refine (eqRatSS_w (by omega) (by omega) _ G0.out.mw W0.out.mw).mono ?_)
  rintro e w3 ⟨rfl, b1⟩
  have t3 : w2.heap.size ≤ w3.heap.size := b1.size
  have W0 := hid (W0.out.old b1)
  have G0 := hid (G0.out.old b1)
  have B := hid (B.out.trans (b1.mono B.out.size))
  clear b1
  go_wp2_with fail
  (with_reducible refine (markRatSS_a (m := 1) (by omega) (by omega) (by omega) (by omega) _ G0.out).mono ?_)
  rintro e w4 ⟨rfl, o1, b1⟩
  have t4 : w3.heap.size ≤ w4.heap.size := b1.size
  have G0 := hid o1
  have W0 := hid (W0.out.onlyG b1 (by omega))
  have B := hid (in_onlyG B.out b1 (by omega))
  clear o1 b1
  have hq0 : ¬ 1 + (szM RR : Int) < 0 := by omega
  go_wp2_with fail
  (with_reducible refine (heldRatSS_w (m := 1) (by omega) (by omega) (by omega) (by omega) _ G0.out.mw).mono ?_)
  rintro e w5 ⟨rfl, b1⟩
  have t5 : w4.heap.size ≤ w5.heap.size := b1.size
  have W0 := hid (W0.out.old b1)
  have G0 := hid (G0.out.old b1)
  have B := hid (B.out.trans (b1.mono B.out.size))
  clear b1
  have KR := hid (impl_MatIdentity z z0 z1 w5)
  rw [← HRR.out] at KR
  go_wp2_with fail
  (with_reducible refine (KR.out).mono ?_)
  rintro e w6 ⟨a6, n6, c6, rfl, i1, b1⟩
  have t6 : w5.heap.size ≤ w6.heap.size := b1.size
  have W0 := hid (W0.out.old b1)
  have G0 := hid (G0.out.old b1)
  have B := hid (B.out.trans (b1.mono B.out.size))
  have H0 := hid i1
  clear i1 b1
  clear KR
  go_wp2_with fail
  (with_reducible refine (eqRatSS_w (by omega) (by omega) _ H0.out.mw W0.out.mw).mono ?_)
  rintro e w7 ⟨rfl, b1⟩
  have t7 : w6.heap.size ≤ w7.heap.size := b1.size
  have W0 := hid (W0.out.old b1)
  have G0 := hid (G0.out.old b1)
  have H0 := hid (H0.out.old b1)
  have B := hid (B.out.trans (b1.mono B.out.size))
  clear b1
  go_wp2_with fail
  (with_reducible refine (heldRatSS_w (m := 1) (by omega) (by omega) (by omega) (by omega) _ G0.out.mw).mono ?_)
  rintro e w8 ⟨rfl, b1⟩
  have t8 : w7.heap.size ≤ w8.heap.size := b1.size
  have W0 := hid (W0.out.old b1)
  have G0 := hid (G0.out.old b1)
  have H0 := hid (H0.out.old b1)
  have B := hid (B.out.trans (b1.mono B.out.size))
  clear b1
  go_wp2
  go_ret
  exact ⟨rfl, B.out⟩
end Go.Proofs.Ytdffmeinofgdgaa
