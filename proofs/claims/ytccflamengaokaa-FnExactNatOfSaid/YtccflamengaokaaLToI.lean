/- The walks of the laws FnExactNatToInt and FnExactNatOf. -/
import Derived.Test.YtccflamengaokaaToI
namespace Go.Proofs.Ytccflamengaokaa
open Go.RowKit
open Go.Lib (hid)
set_option linter.unusedVariables false

set_option maxHeartbeats 800000 in
theorem law_NatToInt (a0 : Option Addr) (n0 c0 : Nat) (A : List Int) (hm0 : n0 ≤ maxLen) (w : World) (r0 : RowI w a0 n0 A) :
    Calls Try.prog 8 #[.slice a0 n0 c0] w fun e w' => e = .returned (.bool true) ∧ Below w.heap.size w w' := by
  unfold maxLen at hm0
  by_cases hA : 1048576 < (n0 : Int)
  · go_enter Try.func8, Try.ntmps8
    go_wp2
    go_ret
    exact ⟨rfl, Below.refl _ _⟩
  have hlA : A.length ≤ 1048576 := by have := r0.1; omega
  have X := hid (Came.of r0)
  have B := hid (Below.refl w.heap.size w)
  clear r0
  go_enter Try.func8, Try.ntmps8
  go_wp2_with fail
  refine (toIntS_came _ _ _ _ A (by omega) _ X.out).mono ?_
  rintro e w1 ⟨v1, rfl, i1, b1⟩
  have O1 := hid (Obj.of i1)
  have X := hid (X.out.old b1)
  have B := hid (B.out.trans (b1.mono B.out.size))
  clear i1 b1
  go_wp2_with fail
  refine (obj1 (R := Ret2 (tiV A) (tiB A)) (fun a n c r => spec_NatToInt a n c A (by omega) _ r) O1.out).mono ?_
  obtain ⟨x, hx⟩ : ∃ x, x = tiV A := ⟨_, rfl⟩
  obtain ⟨y, hy⟩ : ∃ y, y = tiB A := ⟨_, rfl⟩
  have HX := hid hx
  have HY := hid hy
  rw [← hx, ← hy]
  clear hx hy
  rintro e w2 ⟨rfl, b1⟩
  have X := hid (X.out.old b1)
  have B := hid (B.out.trans (b1.mono B.out.size))
  clear O1 b1
  go_wp2_with fail
  refine (toIntS_came _ _ _ _ A (by omega) _ X.out).mono ?_
  rintro e w3 ⟨v2, rfl, i1, b1⟩
  have O2 := hid (Obj.of i1)
  have X := hid (X.out.old b1)
  have B := hid (B.out.trans (b1.mono B.out.size))
  clear i1 b1
  go_wp2_with fail
  refine (obj1 (R := Ret2 (tiV A) (tiB A)) (fun a n c r => impl_NatToInt a n c A (by omega) _ r) O2.out).mono ?_
  rw [← HX.out, ← HY.out]
  rintro e w4 ⟨rfl, b1⟩
  have X := hid (X.out.old b1)
  have O2 := hid (O2.out.old b1)
  have B := hid (B.out.trans (b1.mono B.out.size))
  clear b1
  go_wp2_with fail
  refine (toIntS_came _ _ _ _ A (by omega) _ X.out).mono ?_
  rintro e w5 ⟨v3, rfl, i1, b1⟩
  have O3 := hid (Obj.of i1)
  have O2 := hid (O2.out.old b1)
  have B := hid (B.out.trans (b1.mono B.out.size))
  clear i1 b1
  go_wp2_with fail
  refine (eqIntS_obj _ _ A _ _ _ _ (by omega) _ O2.out O3.out).mono ?_
  rintro e w6 ⟨rfl, b1⟩
  have B := hid (B.out.trans (b1.mono B.out.size))
  clear b1
  go_wp2
  go_ret
  exact ⟨rfl, B.out⟩

set_option maxHeartbeats 800000 in
theorem law_NatOf (n : Int) (hn : n ≤ 9223372036854775807) (w : World) :
    Calls Try.prog 7 #[.int .i64 n] w fun e w' => e = .returned (.bool true) ∧ Below w.heap.size w w' := by
  have KS := hid (spec_NatOf n hn)
  have KI := hid (impl_NatOf n hn)
  have hl := rep_short hn
  obtain ⟨L, hL⟩ : ∃ L, L = rep n.toNat := ⟨_, rfl⟩
  rw [← hL] at KS KI hl
  clear hL hn
  have B := hid (Below.refl w.heap.size w)
  go_enter Try.func7, Try.ntmps7
  go_wp2_with fail
  refine (KS.out _).mono ?_
  rintro e w1 ⟨v0, rfl, i1, b1⟩
  have W := hid (Obj.of i1)
  have B := hid (B.out.trans (b1.mono B.out.size))
  clear i1 b1
  go_wp2_with fail
  refine (KI.out _).mono ?_
  rintro e w2 ⟨v1, rfl, i1, b1⟩
  have G := hid (Obj.of i1)
  have W := hid (W.out.old b1)
  have s1 := B.out.size
  have B := hid (B.out.trans (b1.mono B.out.size))
  clear i1 b1
  go_wp2_with fail
  refine (eqIntS_obj _ _ L _ _ _ _ (by omega) _ G.out W.out).mono ?_
  rintro e w3 ⟨rfl, b1⟩
  have G := hid (G.out.old b1)
  have W := hid (W.out.old b1)
  have B := hid (B.out.trans (b1.mono B.out.size))
  clear b1
  go_wp2_with fail
  refine (markIntS_obj _ L 1 _ _ (by omega) (by omega) (by omega) _ G.out).mono ?_
  rintro e w4 ⟨rfl, o1, b1⟩
  have G := hid o1
  have W := hid (W.out.only b1 (.inl (Nat.le_refl _)))
  have B := hid (B.out.trans (b1.below fun k hk hs => by have := hs.1; omega))
  clear o1 b1
  go_wp2_with fail
  refine (heldIntS_obj _ L.length 1 _ _ (by omega) (by omega) (by omega) _ G.out).mono ?_
  rintro e w5 ⟨rfl, b1⟩
  have G := hid (G.out.old b1)
  have W := hid (W.out.old b1)
  have B := hid (B.out.trans (b1.mono B.out.size))
  clear b1
  go_wp2_with fail
  refine (KI.out _).mono ?_
  rintro e w6 ⟨v2, rfl, i1, b1⟩
  have H := hid (Obj.of i1)
  have G := hid (G.out.old b1)
  have W := hid (W.out.old b1)
  have B := hid (B.out.trans (b1.mono B.out.size))
  clear i1 b1
  go_wp2_with fail
  refine (eqIntS_obj _ _ L _ _ _ _ (by omega) _ H.out W.out).mono ?_
  rintro e w7 ⟨rfl, b1⟩
  have G := hid (G.out.old b1)
  have B := hid (B.out.trans (b1.mono B.out.size))
  clear b1
  go_wp2_with fail
  refine (heldIntS_obj _ L.length 1 _ _ (by omega) (by omega) (by omega) _ G.out).mono ?_
  rintro e w8 ⟨rfl, b1⟩
  have B := hid (B.out.trans (b1.mono B.out.size))
  clear b1
  go_wp2
  go_ret
  exact ⟨rfl, B.out⟩
end Go.Proofs.Ytccflamengaokaa
