/- The walk of the law FnExactBigIntNeg. -/
import Derived.Test.YtleechafachkaaaSq
import Derived.Test.YtleechafachkaaaWp
import Derived.Deep.RegionHeld3
import Derived.Deep.DeepCutAuto
namespace Go.Proofs.Ytleechafachkaaa
open Go.RowKit
open Go.Lib (hid)
set_option linter.unusedVariables false

theorem Obj_at {w' : World} {v : Value} {L : List Int} {B lo : Nat} (h : Ints w' B v L) (hlo : lo ≤ B) : Obj w' v L lo w'.heap.size := ⟨Ints_base h hlo, fun k hk => (Ints_lt h k hk).2⟩
theorem Obj_drew1 {w : World} {v : Value} {L : List Int} {lo hi : Nat} (h : Obj w v L lo hi) : Obj w.drew v L lo hi := ⟨h.ints, h.high⟩

set_option maxRecDepth 100000 in
set_option maxHeartbeats 12800000 in
theorem law_BigIntNeg (s : Bool) (a : Option Addr) (n c : Nat) (A : List Int) (hm0 : n ≤ maxLen) (w : World) (r0 : RowI w a n A) :
    Calls Try.prog 6 #[.agg #[.bool s, .slice a n c]] w (RetB (.bool true) w) := by
  have h0 : A.length ≤ n := by have := r0.1; omega
  have X := hid ((Came.of r0).old (below_new' (w := w) (o := .cells #[.bool s, .slice a n c] 24)))
  have B := hid (below_new' (w := w) (o := .cells #[.bool s, .slice a n c] 24))
  have LX := hid (Loc.at (T := 24) (w := w) (b := w.heap.size) (s := s) (v := .slice a n c) rfl)
  have hsz : w.heap.size + 1 ≤ (w.alloc (.cells #[.bool s, .slice a n c] 24)).heap.size := by simp
  clear r0
  generalize hW : w.alloc (.cells #[.bool s, .slice a n c] 24) = W0 at X B LX hsz
  have HW := hid hW
  clear hW
  by_cases hA : 1048576 < (n : Int)
  · have K := hid (szBigInt_no s a n c 1048576 hm0 hA (by decide) (by decide))
    go_enter Try.func6, Try.ntmps6
    go_wp2_with fail
    rw [HW.out]
    (with_reducible refine (K.out _).mono ?_)
    rintro e w1 ⟨rfl, b1⟩
    have B := hid (B.out.trans (b1.mono B.out.size))
    clear b1
    go_wp2
    go_ret
    exact ⟨rfl, B.out⟩
  have hlA : A.length ≤ 1048576 := by omega
  clear h0
  have KZ := hid (szBigInt_yes s a n c 1048576 (by omega) (by decide))
  have hge : ¬ 1048576 - (n : Int) < 0 := by omega
  have KX := hid (fun (W : World) (h : Came W w.heap.size a n A) => toBigInt_came s a n c _ A (by omega) W h)
  have KS := hid (fun (W : World) (v : Value) (b1 : Nat) (h1 : Ints W b1 v A) => spec_BigIntNeg s v A (by omega) b1 W h1)
  have KI := hid (fun (W : World) (v : Value) (b1 : Nat) (h1 : Ints W b1 v A) => impl_BigIntNeg s v A (by omega) b1 W h1)
  obtain ⟨Z, hZ⟩ : ∃ Z, Z = una (fun x => -x) s A := ⟨_, rfl⟩
  rw [← hZ] at KS KI
  clear hZ
  have hlR : (gzl Z).length ≤ 60 := cappedLen
  obtain ⟨R, hR⟩ : ∃ R, R = gzl Z := ⟨_, rfl⟩
  obtain ⟨rs, hrs⟩ : ∃ r, r = gzs Z := ⟨_, rfl⟩
  rw [← hR, ← hrs] at KS KI
  rw [← hR] at hlR
  clear hR hrs
  go_enter Try.func6, Try.ntmps6
  go_wp2_with fail
  rw [HW.out]
  (with_reducible refine (KZ.out _).mono ?_)
  rintro e w1 ⟨rfl, b1⟩
  have t1 : w.heap.size + 1 ≤ w1.heap.size := by have := b1.size; omega
  have X := hid (X.out.old b1)
  have LX := hid (LX.out.old b1)
  have B := hid (B.out.trans (b1.mono B.out.size))
  clear b1
  have hk0 : ¬ 1 + (A.length : Int) < 0 := by omega
  have hk1 : ¬ 1 + (R.length : Int) < 0 := by omega
  have q0 := LX.out.c0
  have q1 := LX.out.c1
  go_wp2_with fail
  (with_reducible refine (KX.out _ X.out).mono ?_)
  clear q0 q1
  rintro e w2 ⟨v2, rfl, i1, b1⟩
  have t2 : w1.heap.size ≤ w2.heap.size := by have := b1.size; omega
  have O1 := hid (Obj_at (lo := w1.heap.size) i1 (by simp))
  have X := hid (X.out.old b1)
  have LX := hid (LX.out.old b1)
  have B := hid (B.out.trans (b1.mono B.out.size))
  obtain ⟨a2, c2, rfl, -⟩ := Ints_form i1
  clear i1 b1
  go_wp2_with fail
  (with_reducible refine (KS.out _ _ _ O1.out.ints).mono ?_)
  rintro e w3 ⟨v3, rfl, i1, b1⟩
  have t3 : w2.heap.size ≤ w3.heap.size := by have := b1.size; omega
  have V := hid (Obj_at (lo := w2.heap.size) i1 (by simp))
  have X := hid (X.out.old b1)
  have LX := hid (LX.out.old b1)
  have O1 := hid (O1.out.old b1)
  have B := hid (B.out.trans (b1.mono B.out.size))
  obtain ⟨a3, c3, rfl, -⟩ := Ints_form i1
  clear i1 b1
  have X := hid (X.out.old (below_new' (o := .cells #[.bool rs, .slice a3 R.length c3] 27)))
  have LX := hid (LX.out.new1 (o := .cells #[.bool rs, .slice a3 R.length c3] 27))
  have V := hid (V.out.old (below_new' (o := .cells #[.bool rs, .slice a3 R.length c3] 27)))
  have B := hid (B.out.alloc B.out.size (.cells #[.bool rs, .slice a3 R.length c3] 27))
  have LV := hid (Loc.new (w := w3) (T := 27) (s := rs) (v := .slice a3 R.length c3))
  have q0 := LX.out.c0
  have q1 := LX.out.c1
  go_wp2_with fail
  (with_reducible refine (KX.out _ X.out).mono ?_)
  clear q0 q1
  rintro e w4 ⟨v4, rfl, i1, b1⟩
  have t4 : w3.heap.size + 1 ≤ w4.heap.size := by have := b1.size; simp at this; omega
  have O1 := hid (Obj_at (lo := w3.heap.size + 1) i1 (by simp))
  have X := hid (X.out.old b1)
  have LX := hid (LX.out.old b1)
  have V := hid (V.out.old b1)
  have LV := hid (LV.out.old b1)
  have B := hid (B.out.trans (b1.mono B.out.size))
  obtain ⟨a4, c4, rfl, -⟩ := Ints_form i1
  clear i1 b1
  have X := hid (X.out.old (below_new' (o := .cells #[.bool s, .slice a4 A.length c4] 27)))
  have LX := hid (LX.out.new1 (o := .cells #[.bool s, .slice a4 A.length c4] 27))
  have V := hid (V.out.old (below_new' (o := .cells #[.bool s, .slice a4 A.length c4] 27)))
  have LV := hid (LV.out.new1 (o := .cells #[.bool s, .slice a4 A.length c4] 27))
  have O1 := hid (O1.out.old (below_new' (o := .cells #[.bool s, .slice a4 A.length c4] 27)))
  have B := hid (B.out.alloc B.out.size (.cells #[.bool s, .slice a4 A.length c4] 27))
  have LO1 := hid (Loc.new (w := w4) (T := 27) (s := s) (v := .slice a4 A.length c4))
  have q0 := LO1.out.c0
  have q1 := LO1.out.c1
  go_wp2_with fail
  (with_reducible refine (KI.out _ _ _ O1.out.ints).mono ?_)
  clear q0 q1
  rintro e w5 ⟨v5, rfl, i1, b1⟩
  have t5 : w4.heap.size + 1 ≤ w5.heap.size := by have := b1.size; simp at this; omega
  have G := hid (Obj_at (lo := w4.heap.size + 1) i1 (by simp))
  have X := hid (X.out.old b1)
  have LX := hid (LX.out.old b1)
  have V := hid (V.out.old b1)
  have LV := hid (LV.out.old b1)
  have O1 := hid (O1.out.old b1)
  have LO1 := hid (LO1.out.old b1)
  have B := hid (B.out.trans (b1.mono B.out.size))
  obtain ⟨a5, c5, rfl, -⟩ := Ints_form i1
  clear i1 b1
  have X := hid (X.out.old (below_new' (o := .cells #[.bool rs, .slice a5 R.length c5] 27)))
  have LX := hid (LX.out.new1 (o := .cells #[.bool rs, .slice a5 R.length c5] 27))
  have V := hid (V.out.old (below_new' (o := .cells #[.bool rs, .slice a5 R.length c5] 27)))
  have LV := hid (LV.out.new1 (o := .cells #[.bool rs, .slice a5 R.length c5] 27))
  have O1 := hid (O1.out.old (below_new' (o := .cells #[.bool rs, .slice a5 R.length c5] 27)))
  have LO1 := hid (LO1.out.new1 (o := .cells #[.bool rs, .slice a5 R.length c5] 27))
  have G := hid (G.out.old (below_new' (o := .cells #[.bool rs, .slice a5 R.length c5] 27)))
  have B := hid (B.out.alloc B.out.size (.cells #[.bool rs, .slice a5 R.length c5] 27))
  have LG := hid (Loc.new (w := w5) (T := 27) (s := rs) (v := .slice a5 R.length c5))
  have q0 := LG.out.c0
  have q1 := LG.out.c1
  have q2 := LV.out.c0
  have q3 := LV.out.c1
  go_wp2_with fail
  (with_reducible refine (eqBigInt_obj _ _ _ R _ _ _ _ (by omega) _ G.out V.out).mono ?_)
  clear q0 q1 q2 q3
  rintro e w6 ⟨rfl, b1⟩
  have t6 : w5.heap.size + 1 ≤ w6.heap.size := by have := b1.size; simp at this; omega
  have X := hid (X.out.old b1)
  have LX := hid (LX.out.old b1)
  have V := hid (V.out.old b1)
  have LV := hid (LV.out.old b1)
  have O1 := hid (O1.out.old b1)
  have LO1 := hid (LO1.out.old b1)
  have G := hid (G.out.old b1)
  have LG := hid (LG.out.old b1)
  have B := hid (B.out.trans (b1.mono B.out.size))
  clear b1
  go_wp2_with fail
  have X := hid (show Came w6.drew _ _ _ _ from X.out)
  have LX := hid (show Loc _ w6.drew _ _ _ from LX.out)
  have V := hid (Obj_drew1 V.out)
  have LV := hid (show Loc _ w6.drew _ _ _ from LV.out)
  have O1 := hid (Obj_drew1 O1.out)
  have LO1 := hid (show Loc _ w6.drew _ _ _ from LO1.out)
  have G := hid (Obj_drew1 G.out)
  have LG := hid (show Loc _ w6.drew _ _ _ from LG.out)
  have B := hid (Below_drew1 B.out)
  have q0 := LO1.out.c0
  have q1 := LO1.out.c1
  have q2 := LX.out.c0
  have q3 := LX.out.c1
  go_region_held3 (fun w' => w'.cell? ⟨w4.heap.size, 0, none⟩ = some (.bool s) ∧ w'.cell? ⟨w4.heap.size, 1, none⟩ = some (.slice a4 A.length c4) ∧ w'.cell? ⟨w.heap.size, 0, none⟩ = some (.bool s) ∧ w'.cell? ⟨w.heap.size, 1, none⟩ = some (.slice a n c)) (first | exact ⟨q0, q1, q2, q3⟩) (first | (go_at_call 13; (with_reducible refine (KX.out _ X.out).mono ?_); rintro e w7 ⟨v7, rfl, i1, b1⟩; have t7 : w6.heap.size ≤ w7.heap.size := (by have := b1.size; first | exact this | omega); have OC := hid (Obj.of i1); have X := hid (X.out.old b1); have LX := hid (LX.out.old b1); have V := hid (V.out.old b1); have LV := hid (LV.out.old b1); have O1 := hid (O1.out.old b1); have LO1 := hid (LO1.out.old b1); have G := hid (G.out.old b1); have LG := hid (LG.out.old b1); have B := hid (B.out.trans (b1.mono B.out.size)); have q0 := LO1.out.c0; have q1 := LO1.out.c1; have q2 := LX.out.c0; have q3 := LX.out.c1; obtain ⟨a7, c7, rfl, -⟩ := Ints_form i1; clear i1 b1) | (go_at_call 15; (with_reducible refine (eqBigInt_obj _ _ _ A _ _ _ _ (by omega) _ O1.out OC.out).mono ?_); rintro e w8 ⟨rfl, b1⟩; have t8 : w7.heap.size ≤ w8.heap.size := (by have := b1.size; first | omega | (simp at this; omega)); have X := hid (X.out.old b1); have LX := hid (LX.out.old b1); have V := hid (V.out.old b1); have LV := hid (LV.out.old b1); have O1 := hid (O1.out.old b1); have LO1 := hid (LO1.out.old b1); have G := hid (G.out.old b1); have LG := hid (LG.out.old b1); have B := hid (B.out.trans (b1.mono B.out.size)); have q0 := LO1.out.c0; have q1 := LO1.out.c1; have q2 := LX.out.c0; have q3 := LX.out.c1; clear b1))
  clear q0 q1 q2 q3
  have q0 := LO1.out.c0
  have q1 := LO1.out.c1
  go_wp2_with fail
  (with_reducible refine (markBigInt_obj _ _ A (1) _ _ (by omega) (by omega) (by omega) _ O1.out).mono ?_)
  clear q0 q1
  rintro e w9 ⟨rfl, o1, b1⟩
  have t9 : w8.heap.size ≤ w9.heap.size := by have := b1.size; omega
  have O1 := hid o1
  have X := hid (X.out.onlyG b1 (by omega))
  have LX := hid (LX.out.onlyG b1 (by omega))
  have V := hid (V.out.onlyG b1 (by omega))
  have LV := hid (LV.out.onlyG b1 (by omega))
  have LO1 := hid (LO1.out.onlyG b1 (by omega))
  have G := hid (G.out.onlyG b1 (by omega))
  have LG := hid (LG.out.onlyG b1 (by omega))
  have B := hid (in_onlyG B.out b1 (by omega))
  clear o1 b1
  have q0 := LG.out.c0
  have q1 := LG.out.c1
  have q2 := LV.out.c0
  have q3 := LV.out.c1
  go_wp2_with fail
  (with_reducible refine (eqBigInt_obj _ _ _ R _ _ _ _ (by omega) _ G.out V.out).mono ?_)
  clear q0 q1 q2 q3
  rintro e w10 ⟨rfl, b1⟩
  have t10 : w9.heap.size ≤ w10.heap.size := by have := b1.size; omega
  have X := hid (X.out.old b1)
  have LX := hid (LX.out.old b1)
  have V := hid (V.out.old b1)
  have LV := hid (LV.out.old b1)
  have G := hid (G.out.old b1)
  have LG := hid (LG.out.old b1)
  have B := hid (B.out.trans (b1.mono B.out.size))
  clear b1
  have q0 := LG.out.c0
  have q1 := LG.out.c1
  go_wp2_with fail
  (with_reducible refine (markBigInt_obj _ _ R (1) _ _ (by omega) (by omega) (by omega) _ G.out).mono ?_)
  clear q0 q1
  rintro e w11 ⟨rfl, o1, b1⟩
  have t11 : w10.heap.size ≤ w11.heap.size := by have := b1.size; omega
  have G := hid o1
  have X := hid (X.out.onlyG b1 (by omega))
  have LX := hid (LX.out.onlyG b1 (by omega))
  have V := hid (V.out.onlyG b1 (by omega))
  have LV := hid (LV.out.onlyG b1 (by omega))
  have LG := hid (LG.out.onlyG b1 (by omega))
  have B := hid (in_onlyG B.out b1 (by omega))
  clear o1 b1
  have q0 := LG.out.c0
  have q1 := LG.out.c1
  go_wp2_with fail
  (with_reducible refine (heldBigInt_obj _ _ R.length 1 _ _ (by omega) (by omega) (by omega) _ G.out).mono ?_)
  clear q0 q1
  rintro e w12 ⟨rfl, b1⟩
  have t12 : w11.heap.size ≤ w12.heap.size := by have := b1.size; omega
  have X := hid (X.out.old b1)
  have LX := hid (LX.out.old b1)
  have V := hid (V.out.old b1)
  have LV := hid (LV.out.old b1)
  have G := hid (G.out.old b1)
  have LG := hid (LG.out.old b1)
  have B := hid (B.out.trans (b1.mono B.out.size))
  clear b1
  have q0 := LX.out.c0
  have q1 := LX.out.c1
  go_wp2_with fail
  (with_reducible refine (KX.out _ X.out).mono ?_)
  clear q0 q1
  rintro e w13 ⟨v13, rfl, i1, b1⟩
  have t13 : w12.heap.size ≤ w13.heap.size := by have := b1.size; omega
  have O2 := hid (Obj_at (lo := w12.heap.size) i1 (by simp))
  have X := hid (X.out.old b1)
  have LX := hid (LX.out.old b1)
  have V := hid (V.out.old b1)
  have LV := hid (LV.out.old b1)
  have G := hid (G.out.old b1)
  have LG := hid (LG.out.old b1)
  have B := hid (B.out.trans (b1.mono B.out.size))
  obtain ⟨a13, c13, rfl, -⟩ := Ints_form i1
  clear i1 b1
  go_wp2_with fail
  (with_reducible refine (KI.out _ _ _ O2.out.ints).mono ?_)
  rintro e w14 ⟨v14, rfl, i1, b1⟩
  have t14 : w13.heap.size ≤ w14.heap.size := by have := b1.size; omega
  have H := hid (Obj_at (lo := w13.heap.size) i1 (by simp))
  have X := hid (X.out.old b1)
  have LX := hid (LX.out.old b1)
  have V := hid (V.out.old b1)
  have LV := hid (LV.out.old b1)
  have G := hid (G.out.old b1)
  have LG := hid (LG.out.old b1)
  have O2 := hid (O2.out.old b1)
  have B := hid (B.out.trans (b1.mono B.out.size))
  obtain ⟨a14, c14, rfl, -⟩ := Ints_form i1
  clear i1 b1
  have X := hid (X.out.old (below_new' (o := .cells #[.bool rs, .slice a14 R.length c14] 27)))
  have LX := hid (LX.out.new1 (o := .cells #[.bool rs, .slice a14 R.length c14] 27))
  have V := hid (V.out.old (below_new' (o := .cells #[.bool rs, .slice a14 R.length c14] 27)))
  have LV := hid (LV.out.new1 (o := .cells #[.bool rs, .slice a14 R.length c14] 27))
  have G := hid (G.out.old (below_new' (o := .cells #[.bool rs, .slice a14 R.length c14] 27)))
  have LG := hid (LG.out.new1 (o := .cells #[.bool rs, .slice a14 R.length c14] 27))
  have H := hid (H.out.old (below_new' (o := .cells #[.bool rs, .slice a14 R.length c14] 27)))
  have B := hid (B.out.alloc B.out.size (.cells #[.bool rs, .slice a14 R.length c14] 27))
  have LH := hid (Loc.new (w := w14) (T := 27) (s := rs) (v := .slice a14 R.length c14))
  have q0 := LH.out.c0
  have q1 := LH.out.c1
  have q2 := LV.out.c0
  have q3 := LV.out.c1
  go_wp2_with fail
  (with_reducible refine (eqBigInt_obj _ _ _ R _ _ _ _ (by omega) _ H.out V.out).mono ?_)
  clear q0 q1 q2 q3
  rintro e w15 ⟨rfl, b1⟩
  have t15 : w14.heap.size + 1 ≤ w15.heap.size := by have := b1.size; simp at this; omega
  have X := hid (X.out.old b1)
  have LX := hid (LX.out.old b1)
  have V := hid (V.out.old b1)
  have LV := hid (LV.out.old b1)
  have G := hid (G.out.old b1)
  have LG := hid (LG.out.old b1)
  have H := hid (H.out.old b1)
  have LH := hid (LH.out.old b1)
  have B := hid (B.out.trans (b1.mono B.out.size))
  clear b1
  have q0 := LG.out.c0
  have q1 := LG.out.c1
  go_wp2_with fail
  (with_reducible refine (heldBigInt_obj _ _ R.length 1 _ _ (by omega) (by omega) (by omega) _ G.out).mono ?_)
  clear q0 q1
  rintro e w16 ⟨rfl, b1⟩
  have t16 : w15.heap.size ≤ w16.heap.size := by have := b1.size; omega
  have X := hid (X.out.old b1)
  have LX := hid (LX.out.old b1)
  have G := hid (G.out.old b1)
  have LG := hid (LG.out.old b1)
  have B := hid (B.out.trans (b1.mono B.out.size))
  clear b1
  go_wp2
  go_ret
  exact ⟨rfl, B.out⟩
end Go.Proofs.Ytleechafachkaaa
