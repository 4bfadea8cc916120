/- The walks of the laws FnExactBigIntOk, FnExactBigIntToInt, FnExactBigIntOf. -/
import Derived.Test.YtleechafachkaaaMa
import Derived.Deep.RegionHeld3
import Derived.Deep.DeepCutAuto
namespace Go.Proofs.Ytleechafachkaaa
open Go.RowKit
open Go.Lib (hid)
set_option linter.unusedVariables false

set_option maxRecDepth 100000 in
set_option maxHeartbeats 12800000 in
theorem law_BigIntOk (s : Bool) (a : Option Addr) (n c : Nat) (A : List Int) (hm0 : n ≤ maxLen) (w : World) (r0 : RowI w a n A) :
    Calls Try.prog 3 #[.agg #[.bool s, .slice a n c]] w (RetB (.bool true) w) := by
  have h0 : A.length ≤ n := by have := r0.1; omega
  have X := hid ((Came.of r0).old (below_new' (w := w) (o := .cells #[.bool s, .slice a n c] 24)))
  have B := hid (below_new' (w := w) (o := .cells #[.bool s, .slice a n c] 24))
  have LX := hid (Loc.at (T := 24) (w := w) (b := w.heap.size) (s := s) (v := .slice a n c) rfl)
  have hsz : w.heap.size + 1 ≤ (w.alloc (.cells #[.bool s, .slice a n c] 24)).heap.size := by simp
  clear r0
  generalize hW : w.alloc (.cells #[.bool s, .slice a n c] 24) = W0 at X B LX hsz
  have HW := hid hW
  clear hW
  by_cases hA : 1048576 < (n : Int)
  · have K := hid (szBigInt_no s a n c 1048576 hm0 hA (by decide) (by decide))
    go_enter Try.func3, Try.ntmps3
    go_wp2_with fail
    rw [HW.out]
    (with_reducible refine (K.out _).mono ?_)
    rintro e w1 ⟨rfl, b1⟩
    have B := hid (B.out.trans (b1.mono B.out.size))
    clear b1
    go_wp2
    go_ret
    exact ⟨rfl, B.out⟩
  have hlA : A.length ≤ 1048576 := by omega
  clear h0
  have KZ := hid (szBigInt_yes s a n c 1048576 (by omega) (by decide))
  have hge : ¬ 1048576 - (n : Int) < 0 := by omega
  have KX := hid (fun (W : World) (h : Came W w.heap.size a n A) => toBigInt_came s a n c _ A (by omega) W h)
  have KS := hid (fun (W : World) (v : Value) (b1 : Nat) (h1 : Ints W b1 v A) => spec_BigIntOk_own s v A (by omega) b1 W h1)
  have KI := hid (fun (W : World) (v : Value) (b1 : Nat) (h1 : Ints W b1 v A) => impl_BigIntOk_own s v A (by omega) b1 W h1)
  obtain ⟨z, hz⟩ : ∃ z, z = bok s A := ⟨_, rfl⟩
  rw [← hz] at KS KI
  clear hz
  go_enter Try.func3, Try.ntmps3
  go_wp2_with fail
  rw [HW.out]
  (with_reducible refine (KZ.out _).mono ?_)
  rintro e w1 ⟨rfl, b1⟩
  have t1 : w.heap.size + 1 ≤ w1.heap.size := by have := b1.size; omega
  have X := hid (X.out.old b1)
  have LX := hid (LX.out.old b1)
  have B := hid (B.out.trans (b1.mono B.out.size))
  clear b1
  have q0 := LX.out.c0
  have q1 := LX.out.c1
  go_wp2_with fail
  (with_reducible refine (KX.out _ X.out).mono ?_)
  clear q0 q1
  rintro e w2 ⟨v2, rfl, i1, b1⟩
  have t2 : w1.heap.size ≤ w2.heap.size := by have := b1.size; omega
  have O1 := hid (Obj_at (lo := w1.heap.size) i1 (by simp))
  have X := hid (X.out.old b1)
  have LX := hid (LX.out.old b1)
  have B := hid (B.out.trans (b1.mono B.out.size))
  obtain ⟨a2, c2, rfl, -⟩ := Ints_form i1
  clear i1 b1
  go_wp2_with fail
  (with_reducible refine (KS.out _ _ _ O1.out.ints).mono ?_)
  rintro e w3 ⟨rfl, b1⟩
  have t3 : w2.heap.size ≤ w3.heap.size := by have := b1.size; omega
  have X := hid (X.out.old b1)
  have LX := hid (LX.out.old b1)
  have O1 := hid (O1.out.old b1)
  have B := hid (B.out.trans (b1.mono B.out.size))
  clear b1
  have q0 := LX.out.c0
  have q1 := LX.out.c1
  go_wp2_with fail
  (with_reducible refine (KX.out _ X.out).mono ?_)
  clear q0 q1
  rintro e w4 ⟨v4, rfl, i1, b1⟩
  have t4 : w3.heap.size ≤ w4.heap.size := by have := b1.size; omega
  have O1 := hid (Obj_at (lo := w3.heap.size) i1 (by simp))
  have X := hid (X.out.old b1)
  have LX := hid (LX.out.old b1)
  have B := hid (B.out.trans (b1.mono B.out.size))
  obtain ⟨a4, c4, rfl, -⟩ := Ints_form i1
  clear i1 b1
  have X := hid (X.out.old (below_new' (o := .cells #[.bool s, .slice a4 A.length c4] 27)))
  have LX := hid (LX.out.new1 (o := .cells #[.bool s, .slice a4 A.length c4] 27))
  have O1 := hid (O1.out.old (below_new' (o := .cells #[.bool s, .slice a4 A.length c4] 27)))
  have B := hid (B.out.alloc B.out.size (.cells #[.bool s, .slice a4 A.length c4] 27))
  have LO1 := hid (Loc.new (w := w4) (T := 27) (s := s) (v := .slice a4 A.length c4))
  have q0 := LO1.out.c0
  have q1 := LO1.out.c1
  go_wp2_with fail
  (with_reducible refine (KI.out _ _ _ O1.out.ints).mono ?_)
  clear q0 q1
  rintro e w5 ⟨rfl, b1⟩
  have t5 : w4.heap.size + 1 ≤ w5.heap.size := by have := b1.size; simp at this; omega
  have X := hid (X.out.old b1)
  have LX := hid (LX.out.old b1)
  have O1 := hid (O1.out.old b1)
  have LO1 := hid (LO1.out.old b1)
  have B := hid (B.out.trans (b1.mono B.out.size))
  clear b1
  go_wp2_with fail
  have X := hid (show Came w5.drew _ _ _ _ from X.out)
  have LX := hid (show Loc _ w5.drew _ _ _ from LX.out)
  have O1 := hid (Obj_drew1 O1.out)
  have LO1 := hid (show Loc _ w5.drew _ _ _ from LO1.out)
  have B := hid (Below_drew1 B.out)
  have q0 := LO1.out.c0
  have q1 := LO1.out.c1
  have q2 := LX.out.c0
  have q3 := LX.out.c1
  go_region_held3 (fun w' => w'.cell? ⟨w4.heap.size, 0, none⟩ = some (.bool s) ∧ w'.cell? ⟨w4.heap.size, 1, none⟩ = some (.slice a4 A.length c4) ∧ w'.cell? ⟨w.heap.size, 0, none⟩ = some (.bool s) ∧ w'.cell? ⟨w.heap.size, 1, none⟩ = some (.slice a n c)) (first | exact ⟨q0, q1, q2, q3⟩) (first | (go_at_call 13; (with_reducible refine (KX.out _ X.out).mono ?_); rintro e w6 ⟨v6, rfl, i1, b1⟩; have t6 : w5.heap.size ≤ w6.heap.size := (by have := b1.size; first | exact this | omega); have OC := hid (Obj.of i1); have X := hid (X.out.old b1); have LX := hid (LX.out.old b1); have O1 := hid (O1.out.old b1); have LO1 := hid (LO1.out.old b1); have B := hid (B.out.trans (b1.mono B.out.size)); have q0 := LO1.out.c0; have q1 := LO1.out.c1; have q2 := LX.out.c0; have q3 := LX.out.c1; obtain ⟨a6, c6, rfl, -⟩ := Ints_form i1; clear i1 b1) | (go_at_call 15; (with_reducible refine (eqBigInt_obj _ _ _ A _ _ _ _ (by omega) _ O1.out OC.out).mono ?_); rintro e w7 ⟨rfl, b1⟩; have t7 : w6.heap.size ≤ w7.heap.size := (by have := b1.size; first | omega | (simp at this; omega)); have X := hid (X.out.old b1); have LX := hid (LX.out.old b1); have O1 := hid (O1.out.old b1); have LO1 := hid (LO1.out.old b1); have B := hid (B.out.trans (b1.mono B.out.size)); have q0 := LO1.out.c0; have q1 := LO1.out.c1; have q2 := LX.out.c0; have q3 := LX.out.c1; clear b1))
  clear q0 q1 q2 q3
  go_wp2
  go_ret
  exact ⟨rfl, B.out⟩

set_option maxRecDepth 100000 in
set_option maxHeartbeats 12800000 in
theorem law_BigIntToInt (s : Bool) (a : Option Addr) (n c : Nat) (A : List Int) (hm0 : n ≤ maxLen) (w : World) (r0 : RowI w a n A) :
    Calls Try.prog 5 #[.agg #[.bool s, .slice a n c]] w (RetB (.bool true) w) := by
  have h0 : A.length ≤ n := by have := r0.1; omega
  have X := hid ((Came.of r0).old (below_new' (w := w) (o := .cells #[.bool s, .slice a n c] 24)))
  have B := hid (below_new' (w := w) (o := .cells #[.bool s, .slice a n c] 24))
  have LX := hid (Loc.at (T := 24) (w := w) (b := w.heap.size) (s := s) (v := .slice a n c) rfl)
  have hsz : w.heap.size + 1 ≤ (w.alloc (.cells #[.bool s, .slice a n c] 24)).heap.size := by simp
  clear r0
  generalize hW : w.alloc (.cells #[.bool s, .slice a n c] 24) = W0 at X B LX hsz
  have HW := hid hW
  clear hW
  by_cases hA : 1048576 < (n : Int)
  · have K := hid (szBigInt_no s a n c 1048576 hm0 hA (by decide) (by decide))
    go_enter Try.func5, Try.ntmps5
    go_wp2_with fail
    rw [HW.out]
    (with_reducible refine (K.out _).mono ?_)
    rintro e w1 ⟨rfl, b1⟩
    have B := hid (B.out.trans (b1.mono B.out.size))
    clear b1
    go_wp2
    go_ret
    exact ⟨rfl, B.out⟩
  have hlA : A.length ≤ 1048576 := by omega
  clear h0
  have KZ := hid (szBigInt_yes s a n c 1048576 (by omega) (by decide))
  have hge : ¬ 1048576 - (n : Int) < 0 := by omega
  have KX := hid (fun (W : World) (h : Came W w.heap.size a n A) => toBigInt_came s a n c _ A (by omega) W h)
  have KS := hid (fun (W : World) (v : Value) (b1 : Nat) (h1 : Ints W b1 v A) => spec_BigIntToInt s v A (by omega) b1 W h1)
  have KI := hid (fun (W : World) (v : Value) (b1 : Nat) (h1 : Ints W b1 v A) => impl_BigIntToInt s v A (by omega) b1 W h1)
  obtain ⟨z, hz⟩ : ∃ z, z = btV s A := ⟨_, rfl⟩
  obtain ⟨y, hy⟩ : ∃ y, y = btB s A := ⟨_, rfl⟩
  rw [← hz, ← hy] at KS KI
  clear hz hy
  go_enter Try.func5, Try.ntmps5
  go_wp2_with fail
  rw [HW.out]
  (with_reducible refine (KZ.out _).mono ?_)
  rintro e w1 ⟨rfl, b1⟩
  have t1 : w.heap.size + 1 ≤ w1.heap.size := by have := b1.size; omega
  have X := hid (X.out.old b1)
  have LX := hid (LX.out.old b1)
  have B := hid (B.out.trans (b1.mono B.out.size))
  clear b1
  have q0 := LX.out.c0
  have q1 := LX.out.c1
  go_wp2_with fail
  (with_reducible refine (KX.out _ X.out).mono ?_)
  clear q0 q1
  rintro e w2 ⟨v2, rfl, i1, b1⟩
  have t2 : w1.heap.size ≤ w2.heap.size := by have := b1.size; omega
  have O1 := hid (Obj_at (lo := w1.heap.size) i1 (by simp))
  have X := hid (X.out.old b1)
  have LX := hid (LX.out.old b1)
  have B := hid (B.out.trans (b1.mono B.out.size))
  obtain ⟨a2, c2, rfl, -⟩ := Ints_form i1
  clear i1 b1
  go_wp2_with fail
  (with_reducible refine (KS.out _ _ _ O1.out.ints).mono ?_)
  rintro e w3 ⟨rfl, b1⟩
  have t3 : w2.heap.size ≤ w3.heap.size := by have := b1.size; omega
  have X := hid (X.out.old b1)
  have LX := hid (LX.out.old b1)
  have O1 := hid (O1.out.old b1)
  have B := hid (B.out.trans (b1.mono B.out.size))
  clear b1
  have q0 := LX.out.c0
  have q1 := LX.out.c1
  go_wp2_with fail
  (with_reducible refine (KX.out _ X.out).mono ?_)
  clear q0 q1
  rintro e w4 ⟨v4, rfl, i1, b1⟩
  have t4 : w3.heap.size ≤ w4.heap.size := by have := b1.size; omega
  have O1 := hid (Obj_at (lo := w3.heap.size) i1 (by simp))
  have X := hid (X.out.old b1)
  have LX := hid (LX.out.old b1)
  have B := hid (B.out.trans (b1.mono B.out.size))
  obtain ⟨a4, c4, rfl, -⟩ := Ints_form i1
  clear i1 b1
  have X := hid (X.out.old (below_new' (o := .cells #[.bool s, .slice a4 A.length c4] 27)))
  have LX := hid (LX.out.new1 (o := .cells #[.bool s, .slice a4 A.length c4] 27))
  have O1 := hid (O1.out.old (below_new' (o := .cells #[.bool s, .slice a4 A.length c4] 27)))
  have B := hid (B.out.alloc B.out.size (.cells #[.bool s, .slice a4 A.length c4] 27))
  have LO1 := hid (Loc.new (w := w4) (T := 27) (s := s) (v := .slice a4 A.length c4))
  have q0 := LO1.out.c0
  have q1 := LO1.out.c1
  go_wp2_with fail
  (with_reducible refine (KI.out _ _ _ O1.out.ints).mono ?_)
  clear q0 q1
  rintro e w5 ⟨rfl, b1⟩
  have t5 : w4.heap.size + 1 ≤ w5.heap.size := by have := b1.size; simp at this; omega
  have X := hid (X.out.old b1)
  have LX := hid (LX.out.old b1)
  have O1 := hid (O1.out.old b1)
  have LO1 := hid (LO1.out.old b1)
  have B := hid (B.out.trans (b1.mono B.out.size))
  clear b1
  go_wp2_with fail
  have X := hid (show Came w5.drew _ _ _ _ from X.out)
  have LX := hid (show Loc _ w5.drew _ _ _ from LX.out)
  have O1 := hid (Obj_drew1 O1.out)
  have LO1 := hid (show Loc _ w5.drew _ _ _ from LO1.out)
  have B := hid (Below_drew1 B.out)
  have q0 := LO1.out.c0
  have q1 := LO1.out.c1
  have q2 := LX.out.c0
  have q3 := LX.out.c1
  go_region_held3 (fun w' => w'.cell? ⟨w4.heap.size, 0, none⟩ = some (.bool s) ∧ w'.cell? ⟨w4.heap.size, 1, none⟩ = some (.slice a4 A.length c4) ∧ w'.cell? ⟨w.heap.size, 0, none⟩ = some (.bool s) ∧ w'.cell? ⟨w.heap.size, 1, none⟩ = some (.slice a n c)) (first | exact ⟨q0, q1, q2, q3⟩) (first | (go_at_call 13; (with_reducible refine (KX.out _ X.out).mono ?_); rintro e w6 ⟨v6, rfl, i1, b1⟩; have t6 : w5.heap.size ≤ w6.heap.size := (by have := b1.size; first | exact this | omega); have OC := hid (Obj.of i1); have X := hid (X.out.old b1); have LX := hid (LX.out.old b1); have O1 := hid (O1.out.old b1); have LO1 := hid (LO1.out.old b1); have B := hid (B.out.trans (b1.mono B.out.size)); have q0 := LO1.out.c0; have q1 := LO1.out.c1; have q2 := LX.out.c0; have q3 := LX.out.c1; obtain ⟨a6, c6, rfl, -⟩ := Ints_form i1; clear i1 b1) | (go_at_call 15; (with_reducible refine (eqBigInt_obj _ _ _ A _ _ _ _ (by omega) _ O1.out OC.out).mono ?_); rintro e w7 ⟨rfl, b1⟩; have t7 : w6.heap.size ≤ w7.heap.size := (by have := b1.size; first | omega | (simp at this; omega)); have X := hid (X.out.old b1); have LX := hid (LX.out.old b1); have O1 := hid (O1.out.old b1); have LO1 := hid (LO1.out.old b1); have B := hid (B.out.trans (b1.mono B.out.size)); have q0 := LO1.out.c0; have q1 := LO1.out.c1; have q2 := LX.out.c0; have q3 := LX.out.c1; clear b1))
  clear q0 q1 q2 q3
  go_wp2
  go_ret
  exact ⟨rfl, B.out⟩

set_option maxRecDepth 100000 in
set_option maxHeartbeats 12800000 in
theorem law_BigIntOf (n : Int) (h0 : -9223372036854775808 ≤ n) (h1 : n ≤ 9223372036854775807) (w : World) :
    Calls Try.prog 4 #[.int .i64 n] w (RetB (.bool true) w) := by
  have KS := hid (fun (W : World) => spec_BigIntOf n h0 h1 W)
  have KI := hid (fun (W : World) => impl_BigIntOf n h0 h1 W)
  have hlR : (gzl n).length ≤ 60 := cappedLen
  obtain ⟨R, hR⟩ : ∃ R, R = gzl n := ⟨_, rfl⟩
  obtain ⟨rs, hrs⟩ : ∃ r, r = gzs n := ⟨_, rfl⟩
  rw [← hR, ← hrs] at KS KI
  rw [← hR] at hlR
  clear hR hrs
  have hk1 : ¬ 1 + (R.length : Int) < 0 := by omega
  have B := hid (Below.refl w.heap.size w)
  obtain ⟨w1, hw1⟩ : ∃ w1, w1 = w := ⟨_, rfl⟩
  have t1 : w.heap.size ≤ w1.heap.size := by rw [hw1]; exact Nat.le_refl _
  rw [show Below w.heap.size w w = Below w.heap.size w w1 by rw [hw1]] at B
  go_enter Try.func4, Try.ntmps4
  go_wp2_with fail
  rw [← hw1]
  clear hw1
  (with_reducible refine (KS.out _).mono ?_)
  rintro e w2 ⟨v2, rfl, i1, b1⟩
  have t2 : w1.heap.size ≤ w2.heap.size := by have := b1.size; omega
  have V := hid (Obj_at (lo := w1.heap.size) i1 (by simp))
  have B := hid (B.out.trans (b1.mono B.out.size))
  obtain ⟨a2, c2, rfl, -⟩ := Ints_form i1
  clear i1 b1
  have V := hid (V.out.old (below_new' (o := .cells #[.bool rs, .slice a2 R.length c2] 27)))
  have B := hid (B.out.alloc B.out.size (.cells #[.bool rs, .slice a2 R.length c2] 27))
  have LV := hid (Loc.new (w := w2) (T := 27) (s := rs) (v := .slice a2 R.length c2))
  go_wp2_with fail
  (with_reducible refine (KI.out _).mono ?_)
  rintro e w3 ⟨v3, rfl, i1, b1⟩
  have t3 : w2.heap.size + 1 ≤ w3.heap.size := by have := b1.size; simp at this; omega
  have G := hid (Obj_at (lo := w2.heap.size + 1) i1 (by simp))
  have V := hid (V.out.old b1)
  have LV := hid (LV.out.old b1)
  have B := hid (B.out.trans (b1.mono B.out.size))
  obtain ⟨a3, c3, rfl, -⟩ := Ints_form i1
  clear i1 b1
  have V := hid (V.out.old (below_new' (o := .cells #[.bool rs, .slice a3 R.length c3] 27)))
  have LV := hid (LV.out.new1 (o := .cells #[.bool rs, .slice a3 R.length c3] 27))
  have G := hid (G.out.old (below_new' (o := .cells #[.bool rs, .slice a3 R.length c3] 27)))
  have B := hid (B.out.alloc B.out.size (.cells #[.bool rs, .slice a3 R.length c3] 27))
  have LG := hid (Loc.new (w := w3) (T := 27) (s := rs) (v := .slice a3 R.length c3))
  have q0 := LG.out.c0
  have q1 := LG.out.c1
  have q2 := LV.out.c0
  have q3 := LV.out.c1
  go_wp2_with fail
  (with_reducible refine (eqBigInt_obj _ _ _ R _ _ _ _ (by omega) _ G.out V.out).mono ?_)
  clear q0 q1 q2 q3
  rintro e w4 ⟨rfl, b1⟩
  have t4 : w3.heap.size + 1 ≤ w4.heap.size := by have := b1.size; simp at this; omega
  have V := hid (V.out.old b1)
  have LV := hid (LV.out.old b1)
  have G := hid (G.out.old b1)
  have LG := hid (LG.out.old b1)
  have B := hid (B.out.trans (b1.mono B.out.size))
  clear b1
  have q0 := LG.out.c0
  have q1 := LG.out.c1
  go_wp2_with fail
  (with_reducible refine (markBigInt_obj _ _ R (1) _ _ (by omega) (by omega) (by omega) _ G.out).mono ?_)
  clear q0 q1
  rintro e w5 ⟨rfl, o1, b1⟩
  have t5 : w4.heap.size ≤ w5.heap.size := by have := b1.size; omega
  have G := hid o1
  have V := hid (V.out.onlyG b1 (by omega))
  have LV := hid (LV.out.onlyG b1 (by omega))
  have LG := hid (LG.out.onlyG b1 (by omega))
  have B := hid (in_onlyG B.out b1 (by omega))
  clear o1 b1
  have q0 := LG.out.c0
  have q1 := LG.out.c1
  go_wp2_with fail
  (with_reducible refine (heldBigInt_obj _ _ R.length 1 _ _ (by omega) (by omega) (by omega) _ G.out).mono ?_)
  clear q0 q1
  rintro e w6 ⟨rfl, b1⟩
  have t6 : w5.heap.size ≤ w6.heap.size := by have := b1.size; omega
  have V := hid (V.out.old b1)
  have LV := hid (LV.out.old b1)
  have G := hid (G.out.old b1)
  have LG := hid (LG.out.old b1)
  have B := hid (B.out.trans (b1.mono B.out.size))
  clear b1
  go_wp2_with fail
  (with_reducible refine (KI.out _).mono ?_)
  rintro e w7 ⟨v7, rfl, i1, b1⟩
  have t7 : w6.heap.size ≤ w7.heap.size := by have := b1.size; omega
  have H := hid (Obj_at (lo := w6.heap.size) i1 (by simp))
  have V := hid (V.out.old b1)
  have LV := hid (LV.out.old b1)
  have G := hid (G.out.old b1)
  have LG := hid (LG.out.old b1)
  have B := hid (B.out.trans (b1.mono B.out.size))
  obtain ⟨a7, c7, rfl, -⟩ := Ints_form i1
  clear i1 b1
  have V := hid (V.out.old (below_new' (o := .cells #[.bool rs, .slice a7 R.length c7] 27)))
  have LV := hid (LV.out.new1 (o := .cells #[.bool rs, .slice a7 R.length c7] 27))
  have G := hid (G.out.old (below_new' (o := .cells #[.bool rs, .slice a7 R.length c7] 27)))
  have LG := hid (LG.out.new1 (o := .cells #[.bool rs, .slice a7 R.length c7] 27))
  have H := hid (H.out.old (below_new' (o := .cells #[.bool rs, .slice a7 R.length c7] 27)))
  have B := hid (B.out.alloc B.out.size (.cells #[.bool rs, .slice a7 R.length c7] 27))
  have LH := hid (Loc.new (w := w7) (T := 27) (s := rs) (v := .slice a7 R.length c7))
  have q0 := LH.out.c0
  have q1 := LH.out.c1
  have q2 := LV.out.c0
  have q3 := LV.out.c1
  go_wp2_with fail
  (with_reducible refine (eqBigInt_obj _ _ _ R _ _ _ _ (by omega) _ H.out V.out).mono ?_)
  clear q0 q1 q2 q3
  rintro e w8 ⟨rfl, b1⟩
  have t8 : w7.heap.size + 1 ≤ w8.heap.size := by have := b1.size; simp at this; omega
  have V := hid (V.out.old b1)
  have LV := hid (LV.out.old b1)
  have G := hid (G.out.old b1)
  have LG := hid (LG.out.old b1)
  have H := hid (H.out.old b1)
  have LH := hid (LH.out.old b1)
  have B := hid (B.out.trans (b1.mono B.out.size))
  clear b1
  have q0 := LG.out.c0
  have q1 := LG.out.c1
  go_wp2_with fail
  (with_reducible refine (heldBigInt_obj _ _ R.length 1 _ _ (by omega) (by omega) (by omega) _ G.out).mono ?_)
  clear q0 q1
  rintro e w9 ⟨rfl, b1⟩
  have t9 : w8.heap.size ≤ w9.heap.size := by have := b1.size; omega
  have G := hid (G.out.old b1)
  have LG := hid (LG.out.old b1)
  have B := hid (B.out.trans (b1.mono B.out.size))
  clear b1
  go_wp2
  go_ret
  exact ⟨rfl, B.out⟩

end Go.Proofs.Ytleechafachkaaa
