/- The walks of the laws of the exact function NatGcd. -/
import Derived.Test.YtccflamengaokaaSdh
namespace Go.Proofs.Ytccflamengaokaa
open Go.RowKit
open Go.Lib (hid)
set_option linter.unusedVariables false

theorem gcdR_len (A B : List Int) : (gcdR A B).length ≤ 60 := by
  unfold gcdR
  split
  · next h =>
    simp only [Bool.and_eq_true] at h
    exact rep_len (G_le (val_nonneg (nok_lim h.1)) (val_nonneg (nok_lim h.2)) (nok_lt h.1) (nok_lt h.2))
  · simp

set_option maxRecDepth 100000 in
set_option maxHeartbeats 3200000 in
theorem law_NatGcd (a0 : Option Addr) (n0 c0 : Nat) (A : List Int) (a1 : Option Addr) (n1 c1 : Nat) (A' : List Int) (hm0 : n0 ≤ maxLen) (hm1 : n1 ≤ maxLen) (w : World) (r0 : RowI w a0 n0 A) (r1 : RowI w a1 n1 A') :
    Calls Try.prog 14 #[.slice a0 n0 c0, .slice a1 n1 c1] w fun e w' => e = .returned (.bool true) ∧ Below w.heap.size w w' := by
  unfold maxLen at hm0 hm1
  by_cases hA : 1048576 < (n0 : Int)
  · go_enter Try.func14, Try.ntmps14
    go_wp2
    go_ret
    exact ⟨rfl, Below.refl _ _⟩
  by_cases hB : 1048576 < (n1 : Int)
  · go_enter Try.func14, Try.ntmps14
    go_wp2
    go_ret
    exact ⟨rfl, Below.refl _ _⟩
  have hlA : A.length ≤ 1048576 := by have := r0.1; omega
  have hlB : A'.length ≤ 1048576 := by have := r1.1; omega
  have X := hid (Came.of r0)
  have Y := hid (Came.of r1)
  have B := hid (Below.refl w.heap.size w)
  have KS := hid (fun (v u : Value) (b1 b2 : Nat) (W : World) => spec_NatGcd v u A A' (by omega) (by omega) b1 b2 W)
  have KI := hid (fun (v u : Value) (b1 b2 : Nat) (W : World) => impl_NatGcd v u A A' (by omega) (by omega) b1 b2 W)
  have hlR : (gcdR A A').length ≤ 60 := gcdR_len A A'
  obtain ⟨R, hR⟩ : ∃ R, R = gcdR A A' := ⟨_, rfl⟩
  rw [← hR] at KS KI hlR
  clear hR r0 r1
  go_enter Try.func14, Try.ntmps14
  go_wp2_with fail
  refine (toIntS_came _ _ _ _ A (by omega) _ X.out).mono ?_
  rintro e w1 ⟨v1, rfl, i1, b1⟩
  have O1 := hid (Obj.of i1)
  have X := hid (X.out.old b1)
  have Y := hid (Y.out.old b1)
  have B := hid (B.out.trans (b1.mono B.out.size))
  clear i1 b1
  go_wp2_with fail
  refine (toIntS_came _ _ _ _ A' (by omega) _ Y.out).mono ?_
  rintro e w2 ⟨v2, rfl, i1, b1⟩
  have O2 := hid (Obj.of i1)
  have O1 := hid (O1.out.old b1)
  have X := hid (X.out.old b1)
  have Y := hid (Y.out.old b1)
  have B := hid (B.out.trans (b1.mono B.out.size))
  clear i1 b1
  go_wp2_with fail
  refine (KS.out _ _ _ _ _ O1.out.ints O2.out.ints).mono ?_
  rintro e w3 ⟨v0, rfl, i1, b1⟩
  have W := hid (Obj.of i1)
  have X := hid (X.out.old b1)
  have Y := hid (Y.out.old b1)
  have B := hid (B.out.trans (b1.mono B.out.size))
  clear i1 b1 O1 O2
  have s0 := B.out.size
  go_wp2_with fail
  refine (toIntS_came _ _ _ _ A (by omega) _ X.out).mono ?_
  rintro e w4 ⟨v4, rfl, i1, b1⟩
  have O1 := hid (Obj.of i1)
  have W := hid (W.out.old b1)
  have X := hid (X.out.old b1)
  have Y := hid (Y.out.old b1)
  have B := hid (B.out.trans (b1.mono B.out.size))
  have T34 := b1.size
  clear i1 b1
  have s1 := B.out.size
  go_wp2_with fail
  refine (toIntS_came _ _ _ _ A' (by omega) _ Y.out).mono ?_
  rintro e w5 ⟨v5, rfl, i1, b1⟩
  have O2 := hid (Obj.of i1)
  have O1 := hid (O1.out.old b1)
  have W := hid (W.out.old b1)
  have X := hid (X.out.old b1)
  have Y := hid (Y.out.old b1)
  have B := hid (B.out.trans (b1.mono B.out.size))
  have T45 := b1.size
  have T35 := Nat.le_trans T34 T45
  clear i1 b1
  have s2 := B.out.size
  go_wp2_with fail
  refine (KI.out _ _ _ _ _ O1.out.ints O2.out.ints).mono ?_
  rintro e w6 ⟨v6, rfl, i1, b1⟩
  have G := hid (Obj.of i1)
  have O1 := hid (O1.out.old b1)
  have O2 := hid (O2.out.old b1)
  have W := hid (W.out.old b1)
  have X := hid (X.out.old b1)
  have Y := hid (Y.out.old b1)
  have B := hid (B.out.trans (b1.mono B.out.size))
  clear i1 b1
  go_wp2_with fail
  refine (eqIntS_obj _ _ R _ _ _ _ (by omega) _ G.out W.out).mono ?_
  rintro e w7 ⟨rfl, b1⟩
  have G := hid (G.out.old b1)
  have W := hid (W.out.old b1)
  have O1 := hid (O1.out.old b1)
  have O2 := hid (O2.out.old b1)
  have X := hid (X.out.old b1)
  have Y := hid (Y.out.old b1)
  have B := hid (B.out.trans (b1.mono B.out.size))
  clear b1
  go_wp2_with fail
  refine (toIntS_came _ _ _ _ A (by omega) _ X.out).mono ?_
  rintro e w8 ⟨v8, rfl, i1, b1⟩
  have O3 := hid (Obj.of i1)
  have G := hid (G.out.old b1)
  have W := hid (W.out.old b1)
  have O1 := hid (O1.out.old b1)
  have O2 := hid (O2.out.old b1)
  have X := hid (X.out.old b1)
  have Y := hid (Y.out.old b1)
  have B := hid (B.out.trans (b1.mono B.out.size))
  clear i1 b1
  go_wp2_with fail
  refine (eqIntS_obj _ _ A _ _ _ _ (by omega) _ O1.out O3.out).mono ?_
  rintro e w9 ⟨rfl, b1⟩
  have G := hid (G.out.old b1)
  have W := hid (W.out.old b1)
  have O1 := hid (O1.out.old b1)
  have O2 := hid (O2.out.old b1)
  have X := hid (X.out.old b1)
  have Y := hid (Y.out.old b1)
  have B := hid (B.out.trans (b1.mono B.out.size))
  clear b1 O3
  go_wp2_with fail
  refine (toIntS_came _ _ _ _ A' (by omega) _ Y.out).mono ?_
  rintro e w10 ⟨v10, rfl, i1, b1⟩
  have O3 := hid (Obj.of i1)
  have G := hid (G.out.old b1)
  have W := hid (W.out.old b1)
  have O1 := hid (O1.out.old b1)
  have O2 := hid (O2.out.old b1)
  have X := hid (X.out.old b1)
  have Y := hid (Y.out.old b1)
  have B := hid (B.out.trans (b1.mono B.out.size))
  clear i1 b1
  go_wp2_with fail
  refine (eqIntS_obj _ _ A' _ _ _ _ (by omega) _ O2.out O3.out).mono ?_
  rintro e w11 ⟨rfl, b1⟩
  have G := hid (G.out.old b1)
  have W := hid (W.out.old b1)
  have O1 := hid (O1.out.old b1)
  have O2 := hid (O2.out.old b1)
  have X := hid (X.out.old b1)
  have Y := hid (Y.out.old b1)
  have B := hid (B.out.trans (b1.mono B.out.size))
  clear b1 O3
  go_wp2_with fail
  refine (markIntS_obj _ A (1) _ _ (by omega) (by omega) (by omega) _ O1.out).mono ?_
  rintro e w12 ⟨rfl, o1, b1⟩
  have O1 := hid o1
  have G := hid (G.out.only b1 (.inr T45))
  have W := hid (W.out.only b1 (.inl (Nat.le_refl _)))
  have O2 := hid (O2.out.only b1 (.inr (Nat.le_refl _)))
  have X := hid (X.out.only b1 (s0))
  have Y := hid (Y.out.only b1 (s0))
  have B := hid (B.out.trans (b1.below fun k hk hs => by have := hs.1; omega))
  clear o1 b1
  go_wp2_with fail
  refine (markIntS_obj _ A' (1 + (A.length : Int)) _ _ (by omega) (by omega) (by omega) _ O2.out).mono ?_
  rintro e w13 ⟨rfl, o1, b1⟩
  have O2 := hid o1
  have G := hid (G.out.only b1 (.inr (Nat.le_refl _)))
  have W := hid (W.out.only b1 (.inl T34))
  have X := hid (X.out.only b1 (s1))
  have Y := hid (Y.out.only b1 (s1))
  have B := hid (B.out.trans (b1.below fun k hk hs => by have := hs.1; omega))
  clear o1 b1
  have hk0 : ¬ (1 + (A.length : Int) + A'.length) < 0 := by omega
  go_wp2_with fail
  refine (eqIntS_obj _ _ R _ _ _ _ (by omega) _ G.out W.out).mono ?_
  rintro e w14 ⟨rfl, b1⟩
  have G := hid (G.out.old b1)
  have W := hid (W.out.old b1)
  have X := hid (X.out.old b1)
  have Y := hid (Y.out.old b1)
  have B := hid (B.out.trans (b1.mono B.out.size))
  clear b1
  go_wp2_with fail
  refine (markIntS_obj _ R (1) _ _ (by omega) (by omega) (by omega) _ G.out).mono ?_
  rintro e w15 ⟨rfl, o1, b1⟩
  have G := hid o1
  have W := hid (W.out.only b1 (.inl T35))
  have X := hid (X.out.only b1 (s2))
  have Y := hid (Y.out.only b1 (s2))
  have B := hid (B.out.trans (b1.below fun k hk hs => by have := hs.1; omega))
  clear o1 b1
  go_wp2_with fail
  refine (heldIntS_obj _ R.length 1 _ _ (by omega) (by omega) (by omega) _ G.out).mono ?_
  rintro e w16 ⟨rfl, b1⟩
  have G := hid (G.out.old b1)
  have W := hid (W.out.old b1)
  have X := hid (X.out.old b1)
  have Y := hid (Y.out.old b1)
  have B := hid (B.out.trans (b1.mono B.out.size))
  clear b1
  go_wp2_with fail
  refine (toIntS_came _ _ _ _ A (by omega) _ X.out).mono ?_
  rintro e w17 ⟨v17, rfl, i1, b1⟩
  have O1 := hid (Obj.of i1)
  have G := hid (G.out.old b1)
  have W := hid (W.out.old b1)
  have X := hid (X.out.old b1)
  have Y := hid (Y.out.old b1)
  have B := hid (B.out.trans (b1.mono B.out.size))
  clear i1 b1
  go_wp2_with fail
  refine (toIntS_came _ _ _ _ A' (by omega) _ Y.out).mono ?_
  rintro e w18 ⟨v18, rfl, i1, b1⟩
  have O2 := hid (Obj.of i1)
  have O1 := hid (O1.out.old b1)
  have G := hid (G.out.old b1)
  have W := hid (W.out.old b1)
  have X := hid (X.out.old b1)
  have Y := hid (Y.out.old b1)
  have B := hid (B.out.trans (b1.mono B.out.size))
  clear i1 b1
  go_wp2_with fail
  refine (KI.out _ _ _ _ _ O1.out.ints O2.out.ints).mono ?_
  rintro e w19 ⟨v19, rfl, i1, b1⟩
  have H := hid (Obj.of i1)
  have G := hid (G.out.old b1)
  have W := hid (W.out.old b1)
  have B := hid (B.out.trans (b1.mono B.out.size))
  clear i1 b1 O1 O2
  go_wp2_with fail
  refine (eqIntS_obj _ _ R _ _ _ _ (by omega) _ H.out W.out).mono ?_
  rintro e w20 ⟨rfl, b1⟩
  have G := hid (G.out.old b1)
  have B := hid (B.out.trans (b1.mono B.out.size))
  clear b1
  go_wp2_with fail
  refine (heldIntS_obj _ R.length 1 _ _ (by omega) (by omega) (by omega) _ G.out).mono ?_
  rintro e w21 ⟨rfl, b1⟩
  have B := hid (B.out.trans (b1.mono B.out.size))
  clear b1
  go_wp2
  go_ret
  exact ⟨rfl, B.out⟩

end Go.Proofs.Ytccflamengaokaa
