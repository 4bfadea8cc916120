/- The walks of the laws FnExactNatOk and FnExactNatCmp. -/
import Derived.Test.YtccflamengaokaaObj
namespace Go.Proofs.Ytccflamengaokaa
open Go.RowKit
open Go.Lib (hid)
set_option linter.unusedVariables false

set_option maxHeartbeats 800000 in
theorem law_NatOk (a0 : Option Addr) (n0 c0 : Nat) (A : List Int) (hm0 : n0 ≤ maxLen) (w : World) (r0 : RowI w a0 n0 A) :
    Calls Try.prog 6 #[.slice a0 n0 c0] w fun e w' => e = .returned (.bool true) ∧ Below w.heap.size w w' := by
  unfold maxLen at hm0
  by_cases hA : 1048576 < (n0 : Int)
  · go_enter Try.func6, Try.ntmps6
    go_wp2
    go_ret
    exact ⟨rfl, Below.refl _ _⟩
  have hlA : A.length ≤ 1048576 := by have := r0.1; omega
  have X := hid (Came.of r0)
  have B := hid (Below.refl w.heap.size w)
  clear r0
  go_enter Try.func6, Try.ntmps6
  go_wp2_with fail
  refine (toIntS_came _ _ _ _ A (by omega) _ X.out).mono ?_
  rintro e w1 ⟨v1, rfl, i1, b1⟩
  have O1 := hid (Obj.of i1)
  have X := hid (X.out.old b1)
  have B := hid (B.out.trans (b1.mono B.out.size))
  clear i1 b1
  go_wp2_with fail
  refine (obj1 (R := RetB (.bool (nok A))) (fun a n c r => RetB_of_same (spec_NatOk a n c A (by omega) _ r)) O1.out).mono ?_
  rintro e w1' ⟨rfl, b1⟩
  have X := hid (X.out.old b1)
  have B := hid (B.out.trans (b1.mono B.out.size))
  clear b1 O1
  obtain ⟨b, hb⟩ : ∃ b, b = nok A := ⟨_, rfl⟩
  have HB := hid hb
  rw [← hb]
  clear hb
  go_wp2_with fail
  refine (toIntS_came _ _ _ _ A (by omega) _ X.out).mono ?_
  rintro e w2 ⟨v2, rfl, i1, b1⟩
  have O2 := hid (Obj.of i1)
  have X := hid (X.out.old b1)
  have B := hid (B.out.trans (b1.mono B.out.size))
  clear i1 b1
  go_wp2_with fail
  refine (obj1 (R := RetB (.bool (nok A))) (fun a n c r => RetB_of_same (impl_NatOk a n c A (by omega) _ r)) O2.out).mono ?_
  rintro e w2' ⟨rfl, b1⟩
  have X := hid (X.out.old b1)
  have O2 := hid (O2.out.old b1)
  have B := hid (B.out.trans (b1.mono B.out.size))
  clear b1
  rw [← HB.out]
  go_wp2_with fail
  refine (toIntS_came _ _ _ _ A (by omega) _ X.out).mono ?_
  rintro e w3 ⟨v3, rfl, i1, b1⟩
  have O3 := hid (Obj.of i1)
  have O2 := hid (O2.out.old b1)
  have B := hid (B.out.trans (b1.mono B.out.size))
  clear i1 b1
  go_wp2_with fail
  refine (eqIntS_obj _ _ A _ _ _ _ (by omega) _ O2.out O3.out).mono ?_
  rintro e w4 ⟨rfl, b1⟩
  have B := hid (B.out.trans (b1.mono B.out.size))
  clear b1
  go_wp2
  go_ret
  exact ⟨rfl, B.out⟩

set_option maxHeartbeats 800000 in
theorem law_NatCmp (a0 : Option Addr) (n0 c0 : Nat) (A : List Int) (a1 : Option Addr) (n1 c1 : Nat) (A' : List Int) (hm0 : n0 ≤ maxLen) (hm1 : n1 ≤ maxLen) (w : World) (r0 : RowI w a0 n0 A) (r1 : RowI w a1 n1 A') :
    Calls Try.prog 9 #[.slice a0 n0 c0, .slice a1 n1 c1] w fun e w' => e = .returned (.bool true) ∧ Below w.heap.size w w' := by
  unfold maxLen at hm0 hm1
  by_cases hA : 1048576 < (n0 : Int)
  · go_enter Try.func9, Try.ntmps9
    go_wp2
    go_ret
    exact ⟨rfl, Below.refl _ _⟩
  by_cases hB : 1048576 < (n1 : Int)
  · go_enter Try.func9, Try.ntmps9
    go_wp2
    go_ret
    exact ⟨rfl, Below.refl _ _⟩
  have hlA : A.length ≤ 1048576 := by have := r0.1; omega
  have hlB : A'.length ≤ 1048576 := by have := r1.1; omega
  have X := hid (Came.of r0)
  have Y := hid (Came.of r1)
  have B := hid (Below.refl w.heap.size w)
  clear r0 r1
  go_enter Try.func9, Try.ntmps9
  go_wp2_with fail
  refine (toIntS_came _ _ _ _ A (by omega) _ X.out).mono ?_
  rintro e w1 ⟨v1, rfl, i1, b1⟩
  have O1 := hid (Obj.of i1)
  have X := hid (X.out.old b1)
  have Y := hid (Y.out.old b1)
  have B := hid (B.out.trans (b1.mono B.out.size))
  clear i1 b1
  go_wp2_with fail
  refine (toIntS_came _ _ _ _ A' (by omega) _ Y.out).mono ?_
  rintro e w2 ⟨v2, rfl, i1, b1⟩
  have O2 := hid (Obj.of i1)
  have O1 := hid (O1.out.old b1)
  have X := hid (X.out.old b1)
  have Y := hid (Y.out.old b1)
  have B := hid (B.out.trans (b1.mono B.out.size))
  clear i1 b1
  go_wp2_with fail
  refine (RetB_of_drew (obj2 (fun a b n m c d => spec_NatCmp a b n m c d A A' (by omega) (by omega) _) O1.out O2.out)).mono ?_
  rintro e w3 ⟨rfl, b1⟩
  have X := hid (X.out.old b1)
  have Y := hid (Y.out.old b1)
  have B := hid (B.out.trans (b1.mono B.out.size))
  clear b1 O1 O2
  obtain ⟨b, hb⟩ : ∃ b, b = cmpC A A' := ⟨_, rfl⟩
  have HB := hid hb
  rw [← hb]
  clear hb
  go_wp2_with fail
  refine (toIntS_came _ _ _ _ A (by omega) _ X.out).mono ?_
  rintro e w4 ⟨v3, rfl, i1, b1⟩
  have O1 := hid (Obj.of i1)
  have X := hid (X.out.old b1)
  have Y := hid (Y.out.old b1)
  have B := hid (B.out.trans (b1.mono B.out.size))
  clear i1 b1
  go_wp2_with fail
  refine (toIntS_came _ _ _ _ A' (by omega) _ Y.out).mono ?_
  rintro e w5 ⟨v4, rfl, i1, b1⟩
  have O2 := hid (Obj.of i1)
  have O1 := hid (O1.out.old b1)
  have X := hid (X.out.old b1)
  have Y := hid (Y.out.old b1)
  have B := hid (B.out.trans (b1.mono B.out.size))
  clear i1 b1
  go_wp2_with fail
  refine (RetB_of_drew (obj2 (fun a b n m c d => impl_NatCmp a b n m c d A A' (by omega) (by omega) _) O1.out O2.out)).mono ?_
  rintro e w6 ⟨rfl, b1⟩
  have O1 := hid (O1.out.old b1)
  have O2 := hid (O2.out.old b1)
  have X := hid (X.out.old b1)
  have Y := hid (Y.out.old b1)
  have B := hid (B.out.trans (b1.mono B.out.size))
  clear b1
  rw [← HB.out]
  go_wp2_with fail
  refine (toIntS_came _ _ _ _ A (by omega) _ X.out).mono ?_
  rintro e w7 ⟨v5, rfl, i1, b1⟩
  have O3 := hid (Obj.of i1)
  have O2 := hid (O2.out.old b1)
  have O1 := hid (O1.out.old b1)
  have X := hid (X.out.old b1)
  have Y := hid (Y.out.old b1)
  have B := hid (B.out.trans (b1.mono B.out.size))
  clear i1 b1
  go_wp2_with fail
  refine (eqIntS_obj _ _ A _ _ _ _ (by omega) _ O1.out O3.out).mono ?_
  rintro e w8 ⟨rfl, b1⟩
  have O2 := hid (O2.out.old b1)
  have X := hid (X.out.old b1)
  have Y := hid (Y.out.old b1)
  have B := hid (B.out.trans (b1.mono B.out.size))
  clear b1 O1 O3
  go_wp2_with fail
  refine (toIntS_came _ _ _ _ A' (by omega) _ Y.out).mono ?_
  rintro e w9 ⟨v6, rfl, i1, b1⟩
  have O3 := hid (Obj.of i1)
  have O2 := hid (O2.out.old b1)
  have B := hid (B.out.trans (b1.mono B.out.size))
  clear i1 b1
  go_wp2_with fail
  refine (eqIntS_obj _ _ A' _ _ _ _ (by omega) _ O2.out O3.out).mono ?_
  rintro e w10 ⟨rfl, b1⟩
  have B := hid (B.out.trans (b1.mono B.out.size))
  clear b1
  go_wp2
  go_ret
  exact ⟨rfl, B.out⟩
end Go.Proofs.Ytccflamengaokaa
