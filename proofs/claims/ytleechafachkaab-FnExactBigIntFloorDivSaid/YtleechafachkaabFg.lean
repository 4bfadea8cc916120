/- The walk of the law FnExactBigIntFloorDiv. -/
import Derived.Test.YtleechafachkaabFe
import Derived.Deep.RegionHeld3
import Derived.Deep.DeepCutAuto
namespace Go.Proofs.Ytleechafachkaab
open Go.RowKit
open Go.Lib (hid)
set_option linter.unusedVariables false

theorem Obj_at {w' : World} {v : Value} {L : List Int} {B lo : Nat} (h : Ints w' B v L) (hlo : lo ≤ B) : Obj w' v L lo w'.heap.size := ⟨Ints_base h hlo, fun k hk => (Ints_lt h k hk).2⟩
theorem Obj_drew1 {w : World} {v : Value} {L : List Int} {lo hi : Nat} (h : Obj w v L lo hi) : Obj w.drew v L lo hi := ⟨h.ints, h.high⟩

theorem one_obj {w' : World} {B : Nat} {v : Value} {Q : List Int} (h : Ints w' B v Q) : ∃ a b, Obj w' v Q a b ∧ B ≤ a ∧ b ≤ w'.heap.size ∧ ((v.ownBlock = none ∧ b = 0) ∨ (v.ownBlock = some a ∧ b = a + 1)) := by
  cases hv : v.ownBlock with
  | none => exact ⟨B, 0, ⟨h, fun k hk => by rw [hv] at hk; cases hk⟩, Nat.le_refl _, Nat.zero_le _, .inl ⟨rfl, rfl⟩⟩
  | some k =>
    have hk := Ints_lt h k hv
    exact ⟨k, k + 1, ⟨Ints_rebase h fun j hj => by rw [hv] at hj; cases hj; exact Nat.le_refl _, fun j hj => by rw [hv] at hj; cases hj; omega⟩, hk.1, hk.2, .inr ⟨rfl, rfl⟩⟩
theorem two_obj {w' : World} {B : Nat} {v u : Value} {Q R : List Int} (h1 : Ints w' B v Q) (h2 : Ints w' B u R) (hd : ∀ k, v.ownBlock = some k → u.ownBlock ≠ some k) :
    ∃ a b c d, Obj w' v Q a b ∧ Obj w' u R c d ∧ B ≤ a ∧ B ≤ c ∧ b ≤ w'.heap.size ∧ d ≤ w'.heap.size ∧ (b ≤ c ∨ d ≤ a) := by
  obtain ⟨a, b, o1, l1, u1, k1⟩ := one_obj h1
  obtain ⟨c, d, o2, l2, u2, k2⟩ := one_obj h2
  refine ⟨a, b, c, d, o1, o2, l1, l2, u1, u2, ?_⟩
  rcases k1 with ⟨-, k1⟩ | ⟨e1, k1⟩
  · omega
  · rcases k2 with ⟨-, k2⟩ | ⟨e2, k2⟩
    · omega
    · have : a ≠ c := by
        intro e
        subst e
        exact hd a e1 e2
      omega
theorem Loc.onlyS {T : TypeId} {w w' : World} {b lo hi : Nat} {s : Bool} {v : Value} (h : Loc T w b s v) (hb : Only (InS lo hi) w w') (hd : b < lo ∨ hi ≤ b) : Loc T w' b s v :=
  h.only hb fun hs => by have := hs.1; have := hs.2; omega
theorem fd_len {s : Bool} {A M : List Int} : (fdR s A M).length ≤ 60 := by
  unfold fdR
  split
  · next h =>
    unfold fdB at h
    simp only [Bool.and_eq_true] at h
    have hM := nok_lt h.1.2
    have hne : M ≠ [] := by
      intro e
      subst e
      simp at h
    have hp := val_pos h.1.2 hne
    have := Int.emod_lt_of_pos (sval s (val A)) hp
    exact rep_len (by omega)
  · simp

set_option maxRecDepth 100000 in
set_option maxHeartbeats 12800000 in
theorem law_BigIntFloorDiv (s : Bool) (a : Option Addr) (n c : Nat) (A : List Int) (a' : Option Addr) (n' c' : Nat) (A' : List Int) (hm0 : n ≤ maxLen) (hm1 : n' ≤ maxLen) (w : World) (r0 : RowI w a n A) (r1 : RowI w a' n' A') :
    Calls Try.prog 3 #[.agg #[.bool s, .slice a n c], .slice a' n' c'] w (RetB (.bool true) w) := by
  have h0 : A.length ≤ n := by have := r0.1; omega
  have h1 : A'.length ≤ n' := by have := r1.1; omega
  have hmm1 := hm1
  unfold maxLen at hmm1
  have X := hid ((Came.of r0).old (below_new' (w := w) (o := .cells #[.bool s, .slice a n c] 24)))
  have Y := hid ((Came.of r1).old (below_new' (w := w) (o := .cells #[.bool s, .slice a n c] 24)))
  have B := hid (below_new' (w := w) (o := .cells #[.bool s, .slice a n c] 24))
  have LX := hid (Loc.at (T := 24) (w := w) (b := w.heap.size) (s := s) (v := .slice a n c) rfl)
  have hsz : w.heap.size + 1 ≤ (w.alloc (.cells #[.bool s, .slice a n c] 24)).heap.size := by simp
  clear r0 r1
  by_cases hB : 1048576 < (n' : Int)
  · go_enter Try.func3, Try.ntmps3
    go_wp2
    go_ret
    exact ⟨rfl, B.out⟩
  generalize hW : w.alloc (.cells #[.bool s, .slice a n c] 24) = W0 at X B LX hsz Y
  have HW := hid hW
  clear hW
  by_cases hA : 1048576 < (n : Int)
  · have K := hid (szBigInt_no s a n c 1048576 hm0 hA (by decide) (by decide))
    go_enter Try.func3, Try.ntmps3
    go_wp2_with fail
    rw [HW.out]
    (with_reducible refine (K.out _).mono ?_)
    rintro e w1 ⟨rfl, b1⟩
    have B := hid (B.out.trans (b1.mono B.out.size))
    clear b1
    go_wp2
    go_ret
    exact ⟨rfl, B.out⟩
  have hlA : A.length ≤ 1048576 := by omega
  have hlB : A'.length ≤ 1048576 := by omega
  clear h0 h1
  have KZ := hid (szBigInt_yes s a n c 1048576 (by omega) (by decide))
  have hge : ¬ 1048576 - (n : Int) < 0 := by omega
  have KX := hid (fun (W : World) (h : Came W w.heap.size a n A) => toBigInt_came s a n c _ A (by omega) W h)
  have KY := hid (fun (W : World) (h : Came W w.heap.size a' n' A') => toIntS_came a' n' c' _ A' (by omega) W h)
  have KS := hid (fun (W : World) (v u : Value) (b1 b2 : Nat) (h1 : Ints W b1 v A) (h2 : Ints W b2 u A') => spec_BigIntFloorDiv s v u A A' (by omega) (by omega) b1 b2 W h1 h2)
  have KI := hid (fun (W : World) (v u : Value) (b1 b2 : Nat) (h1 : Ints W b1 v A) (h2 : Ints W b2 u A') => impl_BigIntFloorDiv s v u A A' (by omega) (by omega) b1 b2 W h1 h2)
  have hlR : (gzl (fdQ s A A')).length ≤ 60 := cappedLen
  have hlM : (fdR s A A').length ≤ 60 := fd_len
  obtain ⟨R, hR⟩ : ∃ R, R = gzl (fdQ s A A') := ⟨_, rfl⟩
  obtain ⟨rs, hrs⟩ : ∃ r, r = gzs (fdQ s A A') := ⟨_, rfl⟩
  obtain ⟨M, hM⟩ : ∃ r, r = fdR s A A' := ⟨_, rfl⟩
  rw [← hR, ← hrs, ← hM] at KS KI
  rw [← hR] at hlR
  rw [← hM] at hlM
  clear hR hrs hM
  have hk0 : ¬ 1 + (A.length : Int) + (A'.length : Int) < 0 := by omega
  have hk1 : ¬ 1 + (R.length : Int) < 0 := by omega
  have hk2 : ¬ 1 + (R.length : Int) + (M.length : Int) < 0 := by omega
  go_enter Try.func3, Try.ntmps3
  go_wp2_with fail
  rw [HW.out]
  (with_reducible refine (KZ.out _).mono ?_)
  rintro e w1 ⟨rfl, b1⟩
  have t1 : w.heap.size + 1 ≤ w1.heap.size := by have := b1.size; omega
  have X := hid (X.out.old b1)
  have LX := hid (LX.out.old b1)
  have Y := hid (Y.out.old b1)
  have B := hid (B.out.trans (b1.mono B.out.size))
  clear b1
  have q0 := LX.out.c0
  have q1 := LX.out.c1
  go_wp2_with fail
  (with_reducible refine (KX.out _ X.out).mono ?_)
  clear q0 q1
  rintro e w2 ⟨v2, rfl, i1, b1⟩
  have t2 : w1.heap.size ≤ w2.heap.size := by have := b1.size; omega
  have O1 := hid (Obj_at (lo := w1.heap.size) i1 (by simp))
  have X := hid (X.out.old b1)
  have LX := hid (LX.out.old b1)
  have Y := hid (Y.out.old b1)
  have B := hid (B.out.trans (b1.mono B.out.size))
  obtain ⟨a2, c2, rfl, -⟩ := Ints_form i1
  clear i1 b1
  go_wp2_with fail
  (with_reducible refine (KY.out _ Y.out).mono ?_)
  rintro e w3 ⟨v3, rfl, i1, b1⟩
  have t3 : w2.heap.size ≤ w3.heap.size := by have := b1.size; omega
  have O2 := hid (Obj_at (lo := w2.heap.size) i1 (by simp))
  have X := hid (X.out.old b1)
  have LX := hid (LX.out.old b1)
  have Y := hid (Y.out.old b1)
  have O1 := hid (O1.out.old b1)
  have B := hid (B.out.trans (b1.mono B.out.size))
  obtain ⟨a3, c3, rfl, -⟩ := Ints_form i1
  clear i1 b1
  go_wp2_with fail
  (with_reducible refine (KS.out _ _ _ _ _ O1.out.ints O2.out.ints).mono ?_)
  rintro e w4 ⟨v4, u4, rfl, i1, i2, b1⟩
  have t4 : w3.heap.size ≤ w4.heap.size := by have := b1.size; omega
  have V := hid (Obj_at (lo := w3.heap.size) i1 (by simp))
  have VM := hid (Obj_at (lo := w3.heap.size) i2 (by simp))
  have X := hid (X.out.old b1)
  have LX := hid (LX.out.old b1)
  have Y := hid (Y.out.old b1)
  have O1 := hid (O1.out.old b1)
  have O2 := hid (O2.out.old b1)
  have B := hid (B.out.trans (b1.mono B.out.size))
  obtain ⟨a4, c4, rfl, -⟩ := Ints_form i1
  obtain ⟨e4, f4, rfl, -⟩ := Ints_form i2
  clear i1 i2 b1
  have X := hid (X.out.old (below_new' (o := .cells #[.bool rs, .slice a4 R.length c4] 26)))
  have LX := hid (LX.out.new1 (o := .cells #[.bool rs, .slice a4 R.length c4] 26))
  have Y := hid (Y.out.old (below_new' (o := .cells #[.bool rs, .slice a4 R.length c4] 26)))
  have V := hid (V.out.old (below_new' (o := .cells #[.bool rs, .slice a4 R.length c4] 26)))
  have VM := hid (VM.out.old (below_new' (o := .cells #[.bool rs, .slice a4 R.length c4] 26)))
  have B := hid (B.out.alloc B.out.size (.cells #[.bool rs, .slice a4 R.length c4] 26))
  have LV := hid (Loc.new (w := w4) (T := 26) (s := rs) (v := .slice a4 R.length c4))
  have q0 := LX.out.c0
  have q1 := LX.out.c1
  go_wp2_with fail
  (with_reducible refine (KX.out _ X.out).mono ?_)
  clear q0 q1
  rintro e w5 ⟨v5, rfl, i1, b1⟩
  have t5 : w4.heap.size + 1 ≤ w5.heap.size := by have := b1.size; simp at this; omega
  have O1 := hid (Obj_at (lo := w4.heap.size + 1) i1 (by simp))
  have X := hid (X.out.old b1)
  have LX := hid (LX.out.old b1)
  have Y := hid (Y.out.old b1)
  have V := hid (V.out.old b1)
  have VM := hid (VM.out.old b1)
  have LV := hid (LV.out.old b1)
  have B := hid (B.out.trans (b1.mono B.out.size))
  obtain ⟨a5, c5, rfl, -⟩ := Ints_form i1
  clear i1 b1
  have X := hid (X.out.old (below_new' (o := .cells #[.bool s, .slice a5 A.length c5] 26)))
  have LX := hid (LX.out.new1 (o := .cells #[.bool s, .slice a5 A.length c5] 26))
  have Y := hid (Y.out.old (below_new' (o := .cells #[.bool s, .slice a5 A.length c5] 26)))
  have V := hid (V.out.old (below_new' (o := .cells #[.bool s, .slice a5 A.length c5] 26)))
  have VM := hid (VM.out.old (below_new' (o := .cells #[.bool s, .slice a5 A.length c5] 26)))
  have LV := hid (LV.out.new1 (o := .cells #[.bool s, .slice a5 A.length c5] 26))
  have O1 := hid (O1.out.old (below_new' (o := .cells #[.bool s, .slice a5 A.length c5] 26)))
  have B := hid (B.out.alloc B.out.size (.cells #[.bool s, .slice a5 A.length c5] 26))
  have LO1 := hid (Loc.new (w := w5) (T := 26) (s := s) (v := .slice a5 A.length c5))
  go_wp2_with fail
  (with_reducible refine (KY.out _ Y.out).mono ?_)
  rintro e w6 ⟨v6, rfl, i1, b1⟩
  have t6 : w5.heap.size + 1 ≤ w6.heap.size := by have := b1.size; simp at this; omega
  have O2 := hid (Obj_at (lo := w5.heap.size + 1) i1 (by simp))
  have X := hid (X.out.old b1)
  have LX := hid (LX.out.old b1)
  have Y := hid (Y.out.old b1)
  have V := hid (V.out.old b1)
  have VM := hid (VM.out.old b1)
  have LV := hid (LV.out.old b1)
  have O1 := hid (O1.out.old b1)
  have LO1 := hid (LO1.out.old b1)
  have B := hid (B.out.trans (b1.mono B.out.size))
  obtain ⟨a6, c6, rfl, -⟩ := Ints_form i1
  clear i1 b1
  have q0 := LO1.out.c0
  have q1 := LO1.out.c1
  go_wp2_with fail
  (with_reducible refine (KI.out _ _ _ _ _ O1.out.ints O2.out.ints).mono ?_)
  clear q0 q1
  rintro e w7 ⟨v7, u7, rfl, i1, i2, hd, b1⟩
  have t7 : w6.heap.size ≤ w7.heap.size := by have := b1.size; omega
  obtain ⟨la7, ha7, lb7, hb7, og, oh, y1, y2, y3, y4, y5⟩ := two_obj (Ints_base (B' := w6.heap.size) i1 (by simp)) (Ints_base (B' := w6.heap.size) i2 (by simp)) hd
  have G := hid og
  have GM := hid oh
  clear og oh hd
  have X := hid (X.out.old b1)
  have LX := hid (LX.out.old b1)
  have Y := hid (Y.out.old b1)
  have V := hid (V.out.old b1)
  have VM := hid (VM.out.old b1)
  have LV := hid (LV.out.old b1)
  have O1 := hid (O1.out.old b1)
  have LO1 := hid (LO1.out.old b1)
  have O2 := hid (O2.out.old b1)
  have B := hid (B.out.trans (b1.mono B.out.size))
  obtain ⟨a7, c7, rfl, -⟩ := Ints_form i1
  obtain ⟨e7, f7, rfl, -⟩ := Ints_form i2
  clear i1 i2 b1
  have X := hid (X.out.old (below_new' (o := .cells #[.bool rs, .slice a7 R.length c7] 26)))
  have LX := hid (LX.out.new1 (o := .cells #[.bool rs, .slice a7 R.length c7] 26))
  have Y := hid (Y.out.old (below_new' (o := .cells #[.bool rs, .slice a7 R.length c7] 26)))
  have V := hid (V.out.old (below_new' (o := .cells #[.bool rs, .slice a7 R.length c7] 26)))
  have VM := hid (VM.out.old (below_new' (o := .cells #[.bool rs, .slice a7 R.length c7] 26)))
  have LV := hid (LV.out.new1 (o := .cells #[.bool rs, .slice a7 R.length c7] 26))
  have O1 := hid (O1.out.old (below_new' (o := .cells #[.bool rs, .slice a7 R.length c7] 26)))
  have LO1 := hid (LO1.out.new1 (o := .cells #[.bool rs, .slice a7 R.length c7] 26))
  have O2 := hid (O2.out.old (below_new' (o := .cells #[.bool rs, .slice a7 R.length c7] 26)))
  have G := hid (G.out.old (below_new' (o := .cells #[.bool rs, .slice a7 R.length c7] 26)))
  have GM := hid (GM.out.old (below_new' (o := .cells #[.bool rs, .slice a7 R.length c7] 26)))
  have B := hid (B.out.alloc B.out.size (.cells #[.bool rs, .slice a7 R.length c7] 26))
  have LG := hid (Loc.new (w := w7) (T := 26) (s := rs) (v := .slice a7 R.length c7))
  have q0 := LG.out.c0
  have q1 := LG.out.c1
  have q2 := LV.out.c0
  have q3 := LV.out.c1
  go_wp2_with fail
  (with_reducible refine (eqBigInt_obj _ _ _ R _ _ _ _ (by omega) _ G.out V.out).mono ?_)
  clear q0 q1 q2 q3
  rintro e w8 ⟨rfl, b1⟩
  have t8 : w7.heap.size + 1 ≤ w8.heap.size := by have := b1.size; simp at this; omega
  have X := hid (X.out.old b1)
  have LX := hid (LX.out.old b1)
  have Y := hid (Y.out.old b1)
  have V := hid (V.out.old b1)
  have VM := hid (VM.out.old b1)
  have LV := hid (LV.out.old b1)
  have O1 := hid (O1.out.old b1)
  have LO1 := hid (LO1.out.old b1)
  have O2 := hid (O2.out.old b1)
  have G := hid (G.out.old b1)
  have GM := hid (GM.out.old b1)
  have LG := hid (LG.out.old b1)
  have B := hid (B.out.trans (b1.mono B.out.size))
  clear b1
  go_wp2_with fail
  (with_reducible refine (eqIntS_obj _ _ M _ _ _ _ (by omega) _ GM.out VM.out).mono ?_)
  rintro e w9 ⟨rfl, b1⟩
  have t9 : w8.heap.size ≤ w9.heap.size := by have := b1.size; omega
  have X := hid (X.out.old b1)
  have LX := hid (LX.out.old b1)
  have Y := hid (Y.out.old b1)
  have V := hid (V.out.old b1)
  have VM := hid (VM.out.old b1)
  have LV := hid (LV.out.old b1)
  have O1 := hid (O1.out.old b1)
  have LO1 := hid (LO1.out.old b1)
  have O2 := hid (O2.out.old b1)
  have G := hid (G.out.old b1)
  have GM := hid (GM.out.old b1)
  have LG := hid (LG.out.old b1)
  have B := hid (B.out.trans (b1.mono B.out.size))
  clear b1
  go_wp2_with fail
  have X := hid (show Came w9.drew _ _ _ _ from X.out)
  have LX := hid (show Loc _ w9.drew _ _ _ from LX.out)
  have Y := hid (show Came w9.drew _ _ _ _ from Y.out)
  have V := hid (Obj_drew1 V.out)
  have VM := hid (Obj_drew1 VM.out)
  have LV := hid (show Loc _ w9.drew _ _ _ from LV.out)
  have O1 := hid (Obj_drew1 O1.out)
  have LO1 := hid (show Loc _ w9.drew _ _ _ from LO1.out)
  have O2 := hid (Obj_drew1 O2.out)
  have G := hid (Obj_drew1 G.out)
  have GM := hid (Obj_drew1 GM.out)
  have LG := hid (show Loc _ w9.drew _ _ _ from LG.out)
  have B := hid (Below_drew1 B.out)
  have q0 := LO1.out.c0
  have q1 := LO1.out.c1
  have q2 := LX.out.c0
  have q3 := LX.out.c1
  go_region_held3 (fun w' => w'.cell? ⟨w5.heap.size, 0, none⟩ = some (.bool s) ∧ w'.cell? ⟨w5.heap.size, 1, none⟩ = some (.slice a5 A.length c5) ∧ w'.cell? ⟨w.heap.size, 0, none⟩ = some (.bool s) ∧ w'.cell? ⟨w.heap.size, 1, none⟩ = some (.slice a n c)) (first | exact ⟨q0, q1, q2, q3⟩) (first | (go_at_call 6; (with_reducible refine (KX.out _ X.out).mono ?_); rintro e w10 ⟨v10, rfl, i1, b1⟩; have t10 : w9.heap.size ≤ w10.heap.size := (by have := b1.size; first | exact this | omega); have OC := hid (Obj.of i1); have X := hid (X.out.old b1); have LX := hid (LX.out.old b1); have Y := hid (Y.out.old b1); have V := hid (V.out.old b1); have VM := hid (VM.out.old b1); have LV := hid (LV.out.old b1); have O1 := hid (O1.out.old b1); have LO1 := hid (LO1.out.old b1); have O2 := hid (O2.out.old b1); have G := hid (G.out.old b1); have GM := hid (GM.out.old b1); have LG := hid (LG.out.old b1); have B := hid (B.out.trans (b1.mono B.out.size)); have q0 := LO1.out.c0; have q1 := LO1.out.c1; have q2 := LX.out.c0; have q3 := LX.out.c1; obtain ⟨a10, c10, rfl, -⟩ := Ints_form i1; clear i1 b1) | (go_at_call 9; (with_reducible refine (eqBigInt_obj _ _ _ A _ _ _ _ (by omega) _ O1.out OC.out).mono ?_); rintro e w11 ⟨rfl, b1⟩; have t11 : w10.heap.size ≤ w11.heap.size := (by have := b1.size; first | omega | (simp at this; omega)); have X := hid (X.out.old b1); have LX := hid (LX.out.old b1); have Y := hid (Y.out.old b1); have V := hid (V.out.old b1); have VM := hid (VM.out.old b1); have LV := hid (LV.out.old b1); have O1 := hid (O1.out.old b1); have LO1 := hid (LO1.out.old b1); have O2 := hid (O2.out.old b1); have G := hid (G.out.old b1); have GM := hid (GM.out.old b1); have LG := hid (LG.out.old b1); have B := hid (B.out.trans (b1.mono B.out.size)); have q0 := LO1.out.c0; have q1 := LO1.out.c1; have q2 := LX.out.c0; have q3 := LX.out.c1; clear b1))
  clear q0 q1 q2 q3
  go_wp2_with fail
  (with_reducible refine (KY.out _ Y.out).mono ?_)
  rintro e w12 ⟨v12, rfl, i1, b1⟩
  have t12 : w11.heap.size ≤ w12.heap.size := by have := b1.size; omega
  have OC := hid (Obj_at (lo := w11.heap.size) i1 (by simp))
  have X := hid (X.out.old b1)
  have LX := hid (LX.out.old b1)
  have Y := hid (Y.out.old b1)
  have V := hid (V.out.old b1)
  have VM := hid (VM.out.old b1)
  have LV := hid (LV.out.old b1)
  have O1 := hid (O1.out.old b1)
  have LO1 := hid (LO1.out.old b1)
  have O2 := hid (O2.out.old b1)
  have G := hid (G.out.old b1)
  have GM := hid (GM.out.old b1)
  have LG := hid (LG.out.old b1)
  have B := hid (B.out.trans (b1.mono B.out.size))
  obtain ⟨a12, c12, rfl, -⟩ := Ints_form i1
  clear i1 b1
  go_wp2_with fail
  (with_reducible refine (eqIntS_obj _ _ A' _ _ _ _ (by omega) _ O2.out OC.out).mono ?_)
  rintro e w13 ⟨rfl, b1⟩
  have t13 : w12.heap.size ≤ w13.heap.size := by have := b1.size; omega
  have X := hid (X.out.old b1)
  have LX := hid (LX.out.old b1)
  have Y := hid (Y.out.old b1)
  have V := hid (V.out.old b1)
  have VM := hid (VM.out.old b1)
  have LV := hid (LV.out.old b1)
  have O1 := hid (O1.out.old b1)
  have LO1 := hid (LO1.out.old b1)
  have O2 := hid (O2.out.old b1)
  have G := hid (G.out.old b1)
  have GM := hid (GM.out.old b1)
  have LG := hid (LG.out.old b1)
  have OC := hid (OC.out.old b1)
  have B := hid (B.out.trans (b1.mono B.out.size))
  clear b1
  have q0 := LO1.out.c0
  have q1 := LO1.out.c1
  go_wp2_with fail
  (with_reducible refine (markBigInt_obj _ _ A (1) _ _ (by omega) (by omega) (by omega) _ O1.out).mono ?_)
  clear q0 q1
  rintro e w14 ⟨rfl, o1, b1⟩
  have t14 : w13.heap.size ≤ w14.heap.size := by have := b1.size; omega
  have O1 := hid o1
  have X := hid (X.out.onlyG b1 (by omega))
  have LX := hid (LX.out.onlyG b1 (by omega))
  have Y := hid (Y.out.onlyG b1 (by omega))
  have V := hid (V.out.onlyG b1 (by omega))
  have VM := hid (VM.out.onlyG b1 (by omega))
  have LV := hid (LV.out.onlyG b1 (by omega))
  have LO1 := hid (LO1.out.onlyG b1 (by omega))
  have O2 := hid (O2.out.onlyG b1 (by omega))
  have G := hid (G.out.onlyG b1 (by omega))
  have GM := hid (GM.out.onlyG b1 (by omega))
  have LG := hid (LG.out.onlyG b1 (by omega))
  have B := hid (in_onlyG B.out b1 (by omega))
  clear o1 b1
  go_wp2_with fail
  (with_reducible refine (markIntS_obj _ A' (1 + (A.length : Int)) _ _ (by omega) (by omega) (by omega) _ O2.out).mono ?_)
  rintro e w15 ⟨rfl, o1, b1⟩
  have t15 : w14.heap.size ≤ w15.heap.size := by have := b1.size; omega
  have O2 := hid o1
  have X := hid (X.out.only b1 (by omega))
  have LX := hid (LX.out.onlyS b1 (by omega))
  have Y := hid (Y.out.only b1 (by omega))
  have V := hid (V.out.only b1 (by omega))
  have VM := hid (VM.out.only b1 (by omega))
  have LV := hid (LV.out.onlyS b1 (by omega))
  have G := hid (G.out.only b1 (by omega))
  have GM := hid (GM.out.only b1 (by omega))
  have LG := hid (LG.out.onlyS b1 (by omega))
  have B := hid (in_only B.out b1 (by omega))
  clear o1 b1
  have q0 := LG.out.c0
  have q1 := LG.out.c1
  have q2 := LV.out.c0
  have q3 := LV.out.c1
  go_wp2_with fail
  (with_reducible refine (eqBigInt_obj _ _ _ R _ _ _ _ (by omega) _ G.out V.out).mono ?_)
  clear q0 q1 q2 q3
  rintro e w16 ⟨rfl, b1⟩
  have t16 : w15.heap.size ≤ w16.heap.size := by have := b1.size; omega
  have X := hid (X.out.old b1)
  have LX := hid (LX.out.old b1)
  have Y := hid (Y.out.old b1)
  have V := hid (V.out.old b1)
  have VM := hid (VM.out.old b1)
  have LV := hid (LV.out.old b1)
  have G := hid (G.out.old b1)
  have GM := hid (GM.out.old b1)
  have LG := hid (LG.out.old b1)
  have B := hid (B.out.trans (b1.mono B.out.size))
  clear b1
  go_wp2_with fail
  (with_reducible refine (eqIntS_obj _ _ M _ _ _ _ (by omega) _ GM.out VM.out).mono ?_)
  rintro e w17 ⟨rfl, b1⟩
  have t17 : w16.heap.size ≤ w17.heap.size := by have := b1.size; omega
  have X := hid (X.out.old b1)
  have LX := hid (LX.out.old b1)
  have Y := hid (Y.out.old b1)
  have V := hid (V.out.old b1)
  have VM := hid (VM.out.old b1)
  have LV := hid (LV.out.old b1)
  have G := hid (G.out.old b1)
  have GM := hid (GM.out.old b1)
  have LG := hid (LG.out.old b1)
  have B := hid (B.out.trans (b1.mono B.out.size))
  clear b1
  have q0 := LG.out.c0
  have q1 := LG.out.c1
  go_wp2_with fail
  (with_reducible refine (markBigInt_obj _ _ R (1) _ _ (by omega) (by omega) (by omega) _ G.out).mono ?_)
  clear q0 q1
  rintro e w18 ⟨rfl, o1, b1⟩
  have t18 : w17.heap.size ≤ w18.heap.size := by have := b1.size; omega
  have G := hid o1
  have X := hid (X.out.onlyG b1 (by omega))
  have LX := hid (LX.out.onlyG b1 (by omega))
  have Y := hid (Y.out.onlyG b1 (by omega))
  have V := hid (V.out.onlyG b1 (by omega))
  have VM := hid (VM.out.onlyG b1 (by omega))
  have LV := hid (LV.out.onlyG b1 (by omega))
  have GM := hid (GM.out.onlyG b1 (by omega))
  have LG := hid (LG.out.onlyG b1 (by omega))
  have B := hid (in_onlyG B.out b1 (by omega))
  clear o1 b1
  go_wp2_with fail
  (with_reducible refine (markIntS_obj _ M (1 + (R.length : Int)) _ _ (by omega) (by omega) (by omega) _ GM.out).mono ?_)
  rintro e w19 ⟨rfl, o1, b1⟩
  have t19 : w18.heap.size ≤ w19.heap.size := by have := b1.size; omega
  have GM := hid o1
  have X := hid (X.out.only b1 (by omega))
  have LX := hid (LX.out.onlyS b1 (by omega))
  have Y := hid (Y.out.only b1 (by omega))
  have V := hid (V.out.only b1 (by omega))
  have VM := hid (VM.out.only b1 (by omega))
  have LV := hid (LV.out.onlyS b1 (by omega))
  have G := hid (G.out.only b1 (by omega))
  have LG := hid (LG.out.onlyS b1 (by omega))
  have B := hid (in_only B.out b1 (by omega))
  clear o1 b1
  have q0 := LG.out.c0
  have q1 := LG.out.c1
  go_wp2_with fail
  (with_reducible refine (heldBigInt_obj _ _ R.length 1 _ _ (by omega) (by omega) (by omega) _ G.out).mono ?_)
  clear q0 q1
  rintro e w20 ⟨rfl, b1⟩
  have t20 : w19.heap.size ≤ w20.heap.size := by have := b1.size; omega
  have X := hid (X.out.old b1)
  have LX := hid (LX.out.old b1)
  have Y := hid (Y.out.old b1)
  have V := hid (V.out.old b1)
  have VM := hid (VM.out.old b1)
  have LV := hid (LV.out.old b1)
  have G := hid (G.out.old b1)
  have GM := hid (GM.out.old b1)
  have LG := hid (LG.out.old b1)
  have B := hid (B.out.trans (b1.mono B.out.size))
  clear b1
  go_wp2_with fail
  (with_reducible refine (heldIntS_obj _ M.length (1 + (R.length : Int)) _ _ (by omega) (by omega) (by omega) _ GM.out).mono ?_)
  rintro e w21 ⟨rfl, b1⟩
  have t21 : w20.heap.size ≤ w21.heap.size := by have := b1.size; omega
  have X := hid (X.out.old b1)
  have LX := hid (LX.out.old b1)
  have Y := hid (Y.out.old b1)
  have V := hid (V.out.old b1)
  have VM := hid (VM.out.old b1)
  have LV := hid (LV.out.old b1)
  have G := hid (G.out.old b1)
  have GM := hid (GM.out.old b1)
  have LG := hid (LG.out.old b1)
  have B := hid (B.out.trans (b1.mono B.out.size))
  clear b1
  have q0 := LX.out.c0
  have q1 := LX.out.c1
  go_wp2_with fail
  (with_reducible refine (KX.out _ X.out).mono ?_)
  clear q0 q1
  rintro e w22 ⟨v22, rfl, i1, b1⟩
  have t22 : w21.heap.size ≤ w22.heap.size := by have := b1.size; omega
  have O1 := hid (Obj_at (lo := w21.heap.size) i1 (by simp))
  have X := hid (X.out.old b1)
  have LX := hid (LX.out.old b1)
  have Y := hid (Y.out.old b1)
  have V := hid (V.out.old b1)
  have VM := hid (VM.out.old b1)
  have LV := hid (LV.out.old b1)
  have G := hid (G.out.old b1)
  have GM := hid (GM.out.old b1)
  have LG := hid (LG.out.old b1)
  have B := hid (B.out.trans (b1.mono B.out.size))
  obtain ⟨a22, c22, rfl, -⟩ := Ints_form i1
  clear i1 b1
  go_wp2_with fail
  (with_reducible refine (KY.out _ Y.out).mono ?_)
  rintro e w23 ⟨v23, rfl, i1, b1⟩
  have t23 : w22.heap.size ≤ w23.heap.size := by have := b1.size; omega
  have O2 := hid (Obj_at (lo := w22.heap.size) i1 (by simp))
  have X := hid (X.out.old b1)
  have LX := hid (LX.out.old b1)
  have Y := hid (Y.out.old b1)
  have V := hid (V.out.old b1)
  have VM := hid (VM.out.old b1)
  have LV := hid (LV.out.old b1)
  have G := hid (G.out.old b1)
  have GM := hid (GM.out.old b1)
  have LG := hid (LG.out.old b1)
  have O1 := hid (O1.out.old b1)
  have B := hid (B.out.trans (b1.mono B.out.size))
  obtain ⟨a23, c23, rfl, -⟩ := Ints_form i1
  clear i1 b1
  go_wp2_with fail
  (with_reducible refine (KI.out _ _ _ _ _ O1.out.ints O2.out.ints).mono ?_)
  rintro e w24 ⟨v24, u24, rfl, i1, i2, hd, b1⟩
  have t24 : w23.heap.size ≤ w24.heap.size := by have := b1.size; omega
  obtain ⟨la24, ha24, lb24, hb24, og, oh, y1, y2, y3, y4, y5⟩ := two_obj (Ints_base (B' := w23.heap.size) i1 (by simp)) (Ints_base (B' := w23.heap.size) i2 (by simp)) hd
  have H := hid og
  have HM := hid oh
  clear og oh hd
  have X := hid (X.out.old b1)
  have LX := hid (LX.out.old b1)
  have Y := hid (Y.out.old b1)
  have V := hid (V.out.old b1)
  have VM := hid (VM.out.old b1)
  have LV := hid (LV.out.old b1)
  have G := hid (G.out.old b1)
  have GM := hid (GM.out.old b1)
  have LG := hid (LG.out.old b1)
  have O1 := hid (O1.out.old b1)
  have O2 := hid (O2.out.old b1)
  have B := hid (B.out.trans (b1.mono B.out.size))
  obtain ⟨a24, c24, rfl, -⟩ := Ints_form i1
  obtain ⟨e24, f24, rfl, -⟩ := Ints_form i2
  clear i1 i2 b1
  have X := hid (X.out.old (below_new' (o := .cells #[.bool rs, .slice a24 R.length c24] 26)))
  have LX := hid (LX.out.new1 (o := .cells #[.bool rs, .slice a24 R.length c24] 26))
  have Y := hid (Y.out.old (below_new' (o := .cells #[.bool rs, .slice a24 R.length c24] 26)))
  have V := hid (V.out.old (below_new' (o := .cells #[.bool rs, .slice a24 R.length c24] 26)))
  have VM := hid (VM.out.old (below_new' (o := .cells #[.bool rs, .slice a24 R.length c24] 26)))
  have LV := hid (LV.out.new1 (o := .cells #[.bool rs, .slice a24 R.length c24] 26))
  have G := hid (G.out.old (below_new' (o := .cells #[.bool rs, .slice a24 R.length c24] 26)))
  have GM := hid (GM.out.old (below_new' (o := .cells #[.bool rs, .slice a24 R.length c24] 26)))
  have LG := hid (LG.out.new1 (o := .cells #[.bool rs, .slice a24 R.length c24] 26))
  have H := hid (H.out.old (below_new' (o := .cells #[.bool rs, .slice a24 R.length c24] 26)))
  have HM := hid (HM.out.old (below_new' (o := .cells #[.bool rs, .slice a24 R.length c24] 26)))
  have B := hid (B.out.alloc B.out.size (.cells #[.bool rs, .slice a24 R.length c24] 26))
  have LH := hid (Loc.new (w := w24) (T := 26) (s := rs) (v := .slice a24 R.length c24))
  have q0 := LH.out.c0
  have q1 := LH.out.c1
  have q2 := LV.out.c0
  have q3 := LV.out.c1
  go_wp2_with fail
  (with_reducible refine (eqBigInt_obj _ _ _ R _ _ _ _ (by omega) _ H.out V.out).mono ?_)
  clear q0 q1 q2 q3
  rintro e w25 ⟨rfl, b1⟩
  have t25 : w24.heap.size + 1 ≤ w25.heap.size := by have := b1.size; simp at this; omega
  have X := hid (X.out.old b1)
  have LX := hid (LX.out.old b1)
  have Y := hid (Y.out.old b1)
  have V := hid (V.out.old b1)
  have VM := hid (VM.out.old b1)
  have LV := hid (LV.out.old b1)
  have G := hid (G.out.old b1)
  have GM := hid (GM.out.old b1)
  have LG := hid (LG.out.old b1)
  have H := hid (H.out.old b1)
  have HM := hid (HM.out.old b1)
  have LH := hid (LH.out.old b1)
  have B := hid (B.out.trans (b1.mono B.out.size))
  clear b1
  go_wp2_with fail
  (with_reducible refine (eqIntS_obj _ _ M _ _ _ _ (by omega) _ HM.out VM.out).mono ?_)
  rintro e w26 ⟨rfl, b1⟩
  have t26 : w25.heap.size ≤ w26.heap.size := by have := b1.size; omega
  have X := hid (X.out.old b1)
  have LX := hid (LX.out.old b1)
  have Y := hid (Y.out.old b1)
  have V := hid (V.out.old b1)
  have VM := hid (VM.out.old b1)
  have LV := hid (LV.out.old b1)
  have G := hid (G.out.old b1)
  have GM := hid (GM.out.old b1)
  have LG := hid (LG.out.old b1)
  have H := hid (H.out.old b1)
  have HM := hid (HM.out.old b1)
  have LH := hid (LH.out.old b1)
  have B := hid (B.out.trans (b1.mono B.out.size))
  clear b1
  have q0 := LG.out.c0
  have q1 := LG.out.c1
  go_wp2_with fail
  (with_reducible refine (heldBigInt_obj _ _ R.length 1 _ _ (by omega) (by omega) (by omega) _ G.out).mono ?_)
  clear q0 q1
  rintro e w27 ⟨rfl, b1⟩
  have t27 : w26.heap.size ≤ w27.heap.size := by have := b1.size; omega
  have X := hid (X.out.old b1)
  have LX := hid (LX.out.old b1)
  have Y := hid (Y.out.old b1)
  have G := hid (G.out.old b1)
  have GM := hid (GM.out.old b1)
  have LG := hid (LG.out.old b1)
  have B := hid (B.out.trans (b1.mono B.out.size))
  clear b1
  go_wp2_with fail
  (with_reducible refine (heldIntS_obj _ M.length (1 + (R.length : Int)) _ _ (by omega) (by omega) (by omega) _ GM.out).mono ?_)
  rintro e w28 ⟨rfl, b1⟩
  have t28 : w27.heap.size ≤ w28.heap.size := by have := b1.size; omega
  have X := hid (X.out.old b1)
  have LX := hid (LX.out.old b1)
  have Y := hid (Y.out.old b1)
  have G := hid (G.out.old b1)
  have GM := hid (GM.out.old b1)
  have LG := hid (LG.out.old b1)
  have B := hid (B.out.trans (b1.mono B.out.size))
  clear b1
  go_wp2
  go_ret
  exact ⟨rfl, B.out⟩

end Go.Proofs.Ytleechafachkaab
