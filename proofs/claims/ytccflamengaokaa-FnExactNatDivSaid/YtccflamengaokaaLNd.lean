/- The walk of the law FnExactNatDiv. -/
import Derived.Test.YtccflamengaokaaSde
namespace Go.Proofs.Ytccflamengaokaa
open Go.RowKit
open Go.Lib (hid)
set_option linter.unusedVariables false

theorem one_obj {w' : World} {B : Nat} {v : Value} {Q : List Int} (h : Ints w' B v Q) : ∃ a b, Obj w' v Q a b ∧ B ≤ a ∧ b ≤ w'.heap.size ∧ ((v.ownBlock = none ∧ b = 0) ∨ (v.ownBlock = some a ∧ b = a + 1)) := by
  cases hv : v.ownBlock with
  | none => exact ⟨B, 0, ⟨h, fun k hk => by rw [hv] at hk; cases hk⟩, Nat.le_refl _, Nat.zero_le _, .inl ⟨rfl, rfl⟩⟩
  | some k =>
    have hk := Ints_lt h k hv
    exact ⟨k, k + 1, ⟨Ints_rebase h fun j hj => by rw [hv] at hj; cases hj; exact Nat.le_refl _, fun j hj => by rw [hv] at hj; cases hj; omega⟩, hk.1, hk.2, .inr ⟨rfl, rfl⟩⟩
theorem two_obj {w' : World} {B : Nat} {v u : Value} {Q R : List Int} (h1 : Ints w' B v Q) (h2 : Ints w' B u R) (hd : ∀ k, v.ownBlock = some k → u.ownBlock ≠ some k) :
    ∃ a b c d, Obj w' v Q a b ∧ Obj w' u R c d ∧ B ≤ a ∧ B ≤ c ∧ b ≤ w'.heap.size ∧ d ≤ w'.heap.size ∧ (b ≤ c ∨ d ≤ a) := by
  obtain ⟨a, b, o1, l1, u1, k1⟩ := one_obj h1
  obtain ⟨c, d, o2, l2, u2, k2⟩ := one_obj h2
  refine ⟨a, b, c, d, o1, o2, l1, l2, u1, u2, ?_⟩
  rcases k1 with ⟨-, k1⟩ | ⟨e1, k1⟩
  · omega
  · rcases k2 with ⟨-, k2⟩ | ⟨e2, k2⟩
    · omega
    · have : a ≠ c := by
        intro e
        subst e
        exact hd a e1 e2
      omega
theorem div_len (A B : List Int) : (divQ A B).length ≤ 60 ∧ (divR A B).length ≤ 60 := by
  by_cases h : nok A = true ∧ nok B = true ∧ B ≠ []
  · obtain ⟨h1, h2, h3⟩ := h
    obtain ⟨e1, e2⟩ := div_yes h1 h2 h3
    rw [e1, e2]
    have CB := (nok_iff.1 h2).2
    have b0 : 0 < val B := by
      have a1 := Can_ge CB h3
      have a2 := pw_pos (B.length - 1)
      omega
    have n1 := val_nonneg (nok_lim h1)
    have k1 : val A / val B ≤ val A := Int.ediv_le_self _ n1
    have k2 := Int.emod_lt_of_pos (val A) b0
    have k3 := nok_lt h1
    have k4 := nok_lt h2
    exact ⟨rep_len (by omega), rep_len (by omega)⟩
  · have : nok A = false ∨ nok B = false ∨ B = [] := by
      by_cases h1 : nok A = true
      · by_cases h2 : nok B = true
        · exact .inr (.inr (Classical.byContradiction fun h3 => h ⟨h1, h2, h3⟩))
        · exact .inr (.inl (by simpa using h2))
      · exact .inl (by simpa using h1)
    rw [(div_no this).1, (div_no this).2]
    simp

set_option maxRecDepth 100000 in
set_option maxHeartbeats 3200000 in
theorem law_NatDiv (a0 : Option Addr) (n0 c0 : Nat) (A : List Int) (a1 : Option Addr) (n1 c1 : Nat) (A' : List Int) (hm0 : n0 ≤ maxLen) (hm1 : n1 ≤ maxLen) (w : World) (r0 : RowI w a0 n0 A) (r1 : RowI w a1 n1 A') :
    Calls Try.prog 13 #[.slice a0 n0 c0, .slice a1 n1 c1] w fun e w' => e = .returned (.bool true) ∧ Below w.heap.size w w' := by
  unfold maxLen at hm0 hm1
  by_cases hA : 1048576 < (n0 : Int)
  · go_enter Try.func13, Try.ntmps13
    go_wp2
    go_ret
    exact ⟨rfl, Below.refl _ _⟩
  by_cases hB : 1048576 < (n1 : Int)
  · go_enter Try.func13, Try.ntmps13
    go_wp2
    go_ret
    exact ⟨rfl, Below.refl _ _⟩
  have hlA : A.length ≤ 1048576 := by have := r0.1; omega
  have hlB : A'.length ≤ 1048576 := by have := r1.1; omega
  have X := hid (Came.of r0)
  have Y := hid (Came.of r1)
  have B := hid (Below.refl w.heap.size w)
  have KS := hid (fun (a b : Option Addr) (n m c d : Nat) (W : World) => spec_NatDiv a b n m c d A A' (by omega) (by omega) W)
  have KI := hid (fun (v u : Value) (b1 b2 : Nat) (W : World) => impl_NatDiv v u A A' (by omega) (by omega) b1 b2 W)
  obtain ⟨hlQ, hlR⟩ := div_len A A'
  obtain ⟨Q, hQ⟩ : ∃ Q, Q = divQ A A' := ⟨_, rfl⟩
  obtain ⟨R, hR⟩ : ∃ R, R = divR A A' := ⟨_, rfl⟩
  rw [← hQ, ← hR] at KS KI
  rw [← hQ] at hlQ
  rw [← hR] at hlR
  clear hQ hR r0 r1
  go_enter Try.func13, Try.ntmps13
  go_wp2_with fail
  refine (toIntS_came _ _ _ _ A (by omega) _ X.out).mono ?_
  rintro e w1 ⟨v1, rfl, i1, b1⟩
  have O1 := hid (Obj.of i1)
  have X := hid (X.out.old b1)
  have Y := hid (Y.out.old b1)
  have B := hid (B.out.trans (b1.mono B.out.size))
  clear i1 b1
  go_wp2_with fail
  refine (toIntS_came _ _ _ _ A' (by omega) _ Y.out).mono ?_
  rintro e w2 ⟨v2, rfl, i1, b1⟩
  have O2 := hid (Obj.of i1)
  have O1 := hid (O1.out.old b1)
  have X := hid (X.out.old b1)
  have Y := hid (Y.out.old b1)
  have B := hid (B.out.trans (b1.mono B.out.size))
  clear i1 b1
  go_wp2_with fail
  refine (obj2 (R := DivS Q R) (fun a b n m c d => KS.out a b n m c d _) O1.out O2.out).mono ?_
  rintro e w3 ⟨v0, v0', rfl, i1, i2, b1⟩
  have W := hid (Obj.of i1)
  have V := hid (Obj.of i2)
  have X := hid (X.out.old b1)
  have Y := hid (Y.out.old b1)
  have B := hid (B.out.trans (b1.mono B.out.size))
  clear i1 i2 b1 O1 O2
  have s0 := B.out.size
  go_wp2_with fail
  refine (toIntS_came _ _ _ _ A (by omega) _ X.out).mono ?_
  rintro e w4 ⟨v4, rfl, i1, b1⟩
  have O1 := hid (Obj.of i1)
  have W := hid (W.out.old b1)
  have V := hid (V.out.old b1)
  have X := hid (X.out.old b1)
  have Y := hid (Y.out.old b1)
  have B := hid (B.out.trans (b1.mono B.out.size))
  have T34 := b1.size
  clear i1 b1
  have s1 := B.out.size
  go_wp2_with fail
  refine (toIntS_came _ _ _ _ A' (by omega) _ Y.out).mono ?_
  rintro e w5 ⟨v5, rfl, i1, b1⟩
  have O2 := hid (Obj.of i1)
  have O1 := hid (O1.out.old b1)
  have W := hid (W.out.old b1)
  have V := hid (V.out.old b1)
  have X := hid (X.out.old b1)
  have Y := hid (Y.out.old b1)
  have B := hid (B.out.trans (b1.mono B.out.size))
  have T45 := b1.size
  have T35 := Nat.le_trans T34 T45
  clear i1 b1
  have s2 := B.out.size
  go_wp2_with fail
  refine (KI.out _ _ _ _ _ O1.out.ints O2.out.ints).mono ?_
  rintro e w6 ⟨v6, v7, rfl, i1, i2, hd, b1⟩
  obtain ⟨ga, gb, gc, gd, og, oh, hga, hgc, hgb, hgd, hgg⟩ := two_obj i1 i2 hd
  have G := hid og
  have H := hid oh
  have O1 := hid (O1.out.old b1)
  have O2 := hid (O2.out.old b1)
  have W := hid (W.out.old b1)
  have V := hid (V.out.old b1)
  have X := hid (X.out.old b1)
  have Y := hid (Y.out.old b1)
  have B := hid (B.out.trans (b1.mono B.out.size))
  clear i1 i2 b1 hd og oh hgb hgd
  go_wp2_with fail
  refine (eqIntS_obj _ _ Q _ _ _ _ (by omega) _ G.out W.out).mono ?_
  rintro e w7 ⟨rfl, b1⟩
  have G := hid (G.out.old b1)
  have H := hid (H.out.old b1)
  have W := hid (W.out.old b1)
  have V := hid (V.out.old b1)
  have O1 := hid (O1.out.old b1)
  have O2 := hid (O2.out.old b1)
  have X := hid (X.out.old b1)
  have Y := hid (Y.out.old b1)
  have B := hid (B.out.trans (b1.mono B.out.size))
  clear b1
  go_wp2_with fail
  refine (eqIntS_obj _ _ R _ _ _ _ (by omega) _ H.out V.out).mono ?_
  rintro e w8 ⟨rfl, b1⟩
  have G := hid (G.out.old b1)
  have H := hid (H.out.old b1)
  have W := hid (W.out.old b1)
  have V := hid (V.out.old b1)
  have O1 := hid (O1.out.old b1)
  have O2 := hid (O2.out.old b1)
  have X := hid (X.out.old b1)
  have Y := hid (Y.out.old b1)
  have B := hid (B.out.trans (b1.mono B.out.size))
  clear b1
  go_wp2_with fail
  refine (toIntS_came _ _ _ _ A (by omega) _ X.out).mono ?_
  rintro e w9 ⟨v9, rfl, i1, b1⟩
  have O3 := hid (Obj.of i1)
  have G := hid (G.out.old b1)
  have H := hid (H.out.old b1)
  have W := hid (W.out.old b1)
  have V := hid (V.out.old b1)
  have O1 := hid (O1.out.old b1)
  have O2 := hid (O2.out.old b1)
  have X := hid (X.out.old b1)
  have Y := hid (Y.out.old b1)
  have B := hid (B.out.trans (b1.mono B.out.size))
  clear i1 b1
  go_wp2_with fail
  refine (eqIntS_obj _ _ A _ _ _ _ (by omega) _ O1.out O3.out).mono ?_
  rintro e w10 ⟨rfl, b1⟩
  have G := hid (G.out.old b1)
  have H := hid (H.out.old b1)
  have W := hid (W.out.old b1)
  have V := hid (V.out.old b1)
  have O1 := hid (O1.out.old b1)
  have O2 := hid (O2.out.old b1)
  have X := hid (X.out.old b1)
  have Y := hid (Y.out.old b1)
  have B := hid (B.out.trans (b1.mono B.out.size))
  clear b1 O3
  go_wp2_with fail
  refine (toIntS_came _ _ _ _ A' (by omega) _ Y.out).mono ?_
  rintro e w11 ⟨v11, rfl, i1, b1⟩
  have O3 := hid (Obj.of i1)
  have G := hid (G.out.old b1)
  have H := hid (H.out.old b1)
  have W := hid (W.out.old b1)
  have V := hid (V.out.old b1)
  have O1 := hid (O1.out.old b1)
  have O2 := hid (O2.out.old b1)
  have X := hid (X.out.old b1)
  have Y := hid (Y.out.old b1)
  have B := hid (B.out.trans (b1.mono B.out.size))
  clear i1 b1
  go_wp2_with fail
  refine (eqIntS_obj _ _ A' _ _ _ _ (by omega) _ O2.out O3.out).mono ?_
  rintro e w12 ⟨rfl, b1⟩
  have G := hid (G.out.old b1)
  have H := hid (H.out.old b1)
  have W := hid (W.out.old b1)
  have V := hid (V.out.old b1)
  have O1 := hid (O1.out.old b1)
  have O2 := hid (O2.out.old b1)
  have X := hid (X.out.old b1)
  have Y := hid (Y.out.old b1)
  have B := hid (B.out.trans (b1.mono B.out.size))
  clear b1 O3
  go_wp2_with fail
  refine (markIntS_obj _ A (1) _ _ (by omega) (by omega) (by omega) _ O1.out).mono ?_
  rintro e w13 ⟨rfl, o1, b1⟩
  have O1 := hid o1
  have G := hid (G.out.only b1 (.inr (Nat.le_trans T45 hga)))
  have H := hid (H.out.only b1 (.inr (Nat.le_trans T45 hgc)))
  have W := hid (W.out.only b1 (.inl (Nat.le_refl _)))
  have V := hid (V.out.only b1 (.inl (Nat.le_refl _)))
  have O2 := hid (O2.out.only b1 (.inr (Nat.le_refl _)))
  have X := hid (X.out.only b1 (s0))
  have Y := hid (Y.out.only b1 (s0))
  have B := hid (B.out.trans (b1.below fun k hk hs => by have := hs.1; omega))
  clear o1 b1
  go_wp2_with fail
  refine (markIntS_obj _ A' (1 + (A.length : Int)) _ _ (by omega) (by omega) (by omega) _ O2.out).mono ?_
  rintro e w14 ⟨rfl, o1, b1⟩
  have O2 := hid o1
  have G := hid (G.out.only b1 (.inr hga))
  have H := hid (H.out.only b1 (.inr hgc))
  have W := hid (W.out.only b1 (.inl T34))
  have V := hid (V.out.only b1 (.inl T34))
  have X := hid (X.out.only b1 (s1))
  have Y := hid (Y.out.only b1 (s1))
  have B := hid (B.out.trans (b1.below fun k hk hs => by have := hs.1; omega))
  clear o1 b1
  have hk0 : ¬ (1 + (A.length : Int) + A'.length) < 0 := by omega
  go_wp2_with fail
  refine (eqIntS_obj _ _ Q _ _ _ _ (by omega) _ G.out W.out).mono ?_
  rintro e w15 ⟨rfl, b1⟩
  have G := hid (G.out.old b1)
  have H := hid (H.out.old b1)
  have W := hid (W.out.old b1)
  have V := hid (V.out.old b1)
  have X := hid (X.out.old b1)
  have Y := hid (Y.out.old b1)
  have B := hid (B.out.trans (b1.mono B.out.size))
  clear b1
  go_wp2_with fail
  refine (eqIntS_obj _ _ R _ _ _ _ (by omega) _ H.out V.out).mono ?_
  rintro e w16 ⟨rfl, b1⟩
  have G := hid (G.out.old b1)
  have H := hid (H.out.old b1)
  have W := hid (W.out.old b1)
  have V := hid (V.out.old b1)
  have X := hid (X.out.old b1)
  have Y := hid (Y.out.old b1)
  have B := hid (B.out.trans (b1.mono B.out.size))
  clear b1
  go_wp2_with fail
  refine (markIntS_obj _ Q (1) _ _ (by omega) (by omega) (by omega) _ G.out).mono ?_
  rintro e w17 ⟨rfl, o1, b1⟩
  have G := hid o1
  have H := hid (H.out.only b1 (hgg.elim .inr .inl))
  have W := hid (W.out.only b1 (.inl (Nat.le_trans T35 hga)))
  have V := hid (V.out.only b1 (.inl (Nat.le_trans T35 hga)))
  have X := hid (X.out.only b1 (Nat.le_trans s2 hga))
  have Y := hid (Y.out.only b1 (Nat.le_trans s2 hga))
  have B := hid (B.out.trans (b1.below fun k hk hs => by have := hs.1; omega))
  clear o1 b1
  go_wp2_with fail
  refine (markIntS_obj _ R (1 + (Q.length : Int)) _ _ (by omega) (by omega) (by omega) _ H.out).mono ?_
  rintro e w18 ⟨rfl, o1, b1⟩
  have H := hid o1
  have G := hid (G.out.only b1 (hgg.elim .inl .inr))
  have W := hid (W.out.only b1 (.inl (Nat.le_trans T35 hgc)))
  have V := hid (V.out.only b1 (.inl (Nat.le_trans T35 hgc)))
  have X := hid (X.out.only b1 (Nat.le_trans s2 hgc))
  have Y := hid (Y.out.only b1 (Nat.le_trans s2 hgc))
  have B := hid (B.out.trans (b1.below fun k hk hs => by have := hs.1; omega))
  clear o1 b1
  have hq0 : ¬ (1 + (Q.length : Int)) < 0 := by omega
  have hq1 : ¬ (1 + (Q.length : Int) + R.length) < 0 := by omega
  go_wp2_with fail
  refine (heldIntS_obj _ Q.length 1 _ _ (by omega) (by omega) (by omega) _ G.out).mono ?_
  rintro e w19 ⟨rfl, b1⟩
  have G := hid (G.out.old b1)
  have H := hid (H.out.old b1)
  have W := hid (W.out.old b1)
  have V := hid (V.out.old b1)
  have X := hid (X.out.old b1)
  have Y := hid (Y.out.old b1)
  have B := hid (B.out.trans (b1.mono B.out.size))
  clear b1
  go_wp2_with fail
  refine (heldIntS_obj _ R.length (1 + (Q.length : Int)) _ _ (by omega) (by omega) (by omega) _ H.out).mono ?_
  rintro e w20 ⟨rfl, b1⟩
  have G := hid (G.out.old b1)
  have H := hid (H.out.old b1)
  have W := hid (W.out.old b1)
  have V := hid (V.out.old b1)
  have X := hid (X.out.old b1)
  have Y := hid (Y.out.old b1)
  have B := hid (B.out.trans (b1.mono B.out.size))
  clear b1
  go_wp2_with fail
  refine (toIntS_came _ _ _ _ A (by omega) _ X.out).mono ?_
  rintro e w21 ⟨v21, rfl, i1, b1⟩
  have O1 := hid (Obj.of i1)
  have G := hid (G.out.old b1)
  have H := hid (H.out.old b1)
  have W := hid (W.out.old b1)
  have V := hid (V.out.old b1)
  have X := hid (X.out.old b1)
  have Y := hid (Y.out.old b1)
  have B := hid (B.out.trans (b1.mono B.out.size))
  clear i1 b1
  go_wp2_with fail
  refine (toIntS_came _ _ _ _ A' (by omega) _ Y.out).mono ?_
  rintro e w22 ⟨v22, rfl, i1, b1⟩
  have O2 := hid (Obj.of i1)
  have O1 := hid (O1.out.old b1)
  have G := hid (G.out.old b1)
  have H := hid (H.out.old b1)
  have W := hid (W.out.old b1)
  have V := hid (V.out.old b1)
  have X := hid (X.out.old b1)
  have Y := hid (Y.out.old b1)
  have B := hid (B.out.trans (b1.mono B.out.size))
  clear i1 b1
  go_wp2_with fail
  refine (KI.out _ _ _ _ _ O1.out.ints O2.out.ints).mono ?_
  rintro e w23 ⟨v8, v9, rfl, i1, i2, hd, b1⟩
  have I := hid (Obj.of i1)
  have J := hid (Obj.of i2)
  have G := hid (G.out.old b1)
  have H := hid (H.out.old b1)
  have W := hid (W.out.old b1)
  have V := hid (V.out.old b1)
  have B := hid (B.out.trans (b1.mono B.out.size))
  clear i1 i2 hd b1 O1 O2
  go_wp2_with fail
  refine (eqIntS_obj _ _ Q _ _ _ _ (by omega) _ I.out W.out).mono ?_
  rintro e w24 ⟨rfl, b1⟩
  have G := hid (G.out.old b1)
  have H := hid (H.out.old b1)
  have J := hid (J.out.old b1)
  have V := hid (V.out.old b1)
  have B := hid (B.out.trans (b1.mono B.out.size))
  clear b1
  go_wp2_with fail
  refine (eqIntS_obj _ _ R _ _ _ _ (by omega) _ J.out V.out).mono ?_
  rintro e w25 ⟨rfl, b1⟩
  have G := hid (G.out.old b1)
  have H := hid (H.out.old b1)
  have B := hid (B.out.trans (b1.mono B.out.size))
  clear b1
  go_wp2_with fail
  refine (heldIntS_obj _ Q.length 1 _ _ (by omega) (by omega) (by omega) _ G.out).mono ?_
  rintro e w26 ⟨rfl, b1⟩
  have H := hid (H.out.old b1)
  have B := hid (B.out.trans (b1.mono B.out.size))
  clear b1
  go_wp2_with fail
  refine (heldIntS_obj _ R.length (1 + (Q.length : Int)) _ _ (by omega) (by omega) (by omega) _ H.out).mono ?_
  rintro e w27 ⟨rfl, b1⟩
  have B := hid (B.out.trans (b1.mono B.out.size))
  clear b1
  go_wp2
  go_ret
  exact ⟨rfl, B.out⟩
end Go.Proofs.Ytccflamengaokaa
