/- The walk of the law FnExactBigIntCmp. -/
import Derived.Test.YtleechafachkaaaMa
import Derived.Deep.RegionHeld3
import Derived.Deep.DeepCutAuto
namespace Go.Proofs.Ytleechafachkaaa
open Go.RowKit
open Go.Lib (hid)
set_option linter.unusedVariables false

/-- A struct of the law's own has been laid into a variable of its own, at block g. -/
def LaidR (T : TypeId) (W : World) (rs : Bool) (R : List Int) (sl : Value) (wx : World) : Prop := ∃ g a c lo hi, sl = .pointer (some ⟨g, 0, none⟩) ∧ Loc T wx g rs (.slice a R.length c) ∧ Obj wx (.slice a R.length c) R lo hi ∧ W.heap.size ≤ lo ∧ W.heap.size ≤ g ∧ (g < lo ∨ hi ≤ g) ∧ g < wx.heap.size ∧ hi ≤ wx.heap.size ∧ Below W.heap.size W wx
theorem LaidR_a {T : TypeId} {W wf : World} {rs : Bool} {R : List Int} {a : Option Addr} {c B : Nat} (hi : Ints wf B (.slice a R.length c) R) (hB : W.heap.size ≤ B) (hb : Below W.heap.size W wf) :
    LaidR T W rs R (.pointer (some ⟨wf.heap.size, 0, none⟩)) (wf.alloc (.cells #[.bool rs, .slice a R.length c] T)) :=
  ⟨wf.heap.size, a, c, W.heap.size, wf.heap.size, rfl, Loc.new, ⟨Ints_base (addPre hi) hB, fun k hk => (Ints_lt hi k hk).2⟩, Nat.le_refl _, hb.size, .inr (Nat.le_refl _), by simp, by simp, hb.alloc hb.size _⟩
theorem LaidR_b {T : TypeId} {W wf : World} {rs : Bool} {R : List Int} {a : Option Addr} {c B N : Nat} (hT : T ≠ 3) (hL : Loc T wf N false (.slice none 0 0)) (hN : W.heap.size ≤ N) (hNB : N < B) (hi : Ints wf B (.slice a R.length c) R) (hb : Below W.heap.size W wf) :
    LaidR T W rs R (.pointer (some ⟨N, 0, none⟩)) ((wf.setCell ⟨N, 0, none⟩ (.bool rs)).setCell ⟨N, 1, none⟩ (.slice a R.length c)) := by
  have hne := hL.ne hT hi
  have hz : ((wf.setCell ⟨N, 0, none⟩ (.bool rs)).setCell ⟨N, 1, none⟩ (.slice a R.length c)).heap.size = wf.heap.size := by simp [World.setCell]
  have hl := hL.lt
  refine ⟨N, a, c, B, wf.heap.size, rfl, ?_, ⟨Ints_set (Ints_set hi hne) hne, fun k hk => (Ints_lt hi k hk).2⟩, by omega, hN, .inl hNB, by rw [hz]; exact hl, by rw [hz]; exact Nat.le_refl _, (hb.setCell hN _).setCell hN _⟩
  unfold Loc at hL ⊢
  simp [World.setCell, Array.getElem?_modify, hL]
def CutI (z : Int) (W : World) (sl : Value) (wx : World) : Prop := sl = .int .i64 z ∧ Below W.heap.size W wx

set_option maxRecDepth 100000 in
set_option maxHeartbeats 12800000 in
theorem law_BigIntCmp (s : Bool) (a : Option Addr) (n c : Nat) (A : List Int) (t : Bool) (a' : Option Addr) (n' c' : Nat) (A' : List Int) (hm0 : n ≤ maxLen) (hm1 : n' ≤ maxLen) (w : World) (r0 : RowI w a n A) (r1 : RowI w a' n' A') :
    Calls Try.prog 10 #[.agg #[.bool s, .slice a n c], .agg #[.bool t, .slice a' n' c']] w (RetB (.bool true) w) := by
  have h0 : A.length ≤ n := by have := r0.1; omega
  have h1 : A'.length ≤ n' := by have := r1.1; omega
  have X := hid ((Came.of r0).old (below_new2 (w := w) (o := .cells #[.bool s, .slice a n c] 24) (o' := .cells #[.bool t, .slice a' n' c'] 24)))
  have Y := hid ((Came.of r1).old (below_new2 (w := w) (o := .cells #[.bool s, .slice a n c] 24) (o' := .cells #[.bool t, .slice a' n' c'] 24)))
  have B := hid (below_new2 (w := w) (o := .cells #[.bool s, .slice a n c] 24) (o' := .cells #[.bool t, .slice a' n' c'] 24))
  have LX := hid ((Loc.at (T := 24) (w := w) (b := w.heap.size) (s := s) (v := .slice a n c) rfl).new1 (o := .cells #[.bool t, .slice a' n' c'] 24))
  have LY := hid (Loc.at (T := 24) (w := w.alloc (.cells #[.bool s, .slice a n c] 24)) (b := w.heap.size + 1) (s := t) (v := .slice a' n' c') (by simp))
  have hsz : w.heap.size + 2 ≤ ((w.alloc (.cells #[.bool s, .slice a n c] 24)).alloc (.cells #[.bool t, .slice a' n' c'] 24)).heap.size := by simp
  clear r0 r1
  generalize hW : (w.alloc (.cells #[.bool s, .slice a n c] 24)).alloc (.cells #[.bool t, .slice a' n' c'] 24) = W0 at X B LX hsz Y LY
  have HW := hid hW
  clear hW
  by_cases hA : 1048576 < (n : Int)
  · have K := hid (szBigInt_no s a n c 1048576 hm0 hA (by decide) (by decide))
    go_enter Try.func10, Try.ntmps10
    go_wp2_with fail
    rw [HW.out]
    (with_reducible refine (K.out _).mono ?_)
    rintro e w1 ⟨rfl, b1⟩
    have B := hid (B.out.trans (b1.mono B.out.size))
    clear b1
    go_wp2
    go_ret
    exact ⟨rfl, B.out⟩
  have hlA : A.length ≤ 1048576 := by omega
  clear h0
  have KZ := hid (szBigInt_yes s a n c 1048576 (by omega) (by decide))
  by_cases hA' : 1048576 - (n : Int) < (n' : Int)
  · have K := hid (szBigInt_no t a' n' c' (1048576 - (n : Int)) hm1 hA' (by omega) (by omega))
    have hge : ¬ 1048576 - (n : Int) < 0 := by omega
    go_enter Try.func10, Try.ntmps10
    go_wp2_with fail
    rw [HW.out]
    (with_reducible refine (KZ.out _).mono ?_)
    rintro e w1 ⟨rfl, b1⟩
    have B := hid (B.out.trans (b1.mono B.out.size))
    have LY := hid (LY.out.old b1)
    have q0 := LY.out.c0
    have q1 := LY.out.c1
    clear b1
    go_wp2_with fail
    (with_reducible refine (K.out _).mono ?_)
    rintro e w2 ⟨rfl, b1⟩
    have B := hid (B.out.trans (b1.mono B.out.size))
    clear b1
    go_wp2
    go_ret
    exact ⟨rfl, B.out⟩
  have hlB : A'.length ≤ 1048576 := by omega
  clear h1
  have KZ' := hid (szBigInt_yes t a' n' c' (1048576 - (n : Int)) (by omega) (by omega))
  have hge : ¬ 1048576 - (n : Int) < 0 := by omega
  have hge' : ¬ 1048576 - (n : Int) - (n' : Int) < 0 := by omega
  have KX := hid (fun (W : World) (h : Came W w.heap.size a n A) => toBigInt_came s a n c _ A (by omega) W h)
  have KY := hid (fun (W : World) (h : Came W w.heap.size a' n' A') => toBigInt_came t a' n' c' _ A' (by omega) W h)
  have KS := hid (fun (W : World) (v u : Value) (b1 b2 : Nat) (h1 : Ints W b1 v A) (h2 : Ints W b2 u A') => spec_BigIntCmp s t v u A A' (by omega) (by omega) b1 b2 W h1 h2)
  have KI := hid (fun (W : World) (v u : Value) (b1 b2 : Nat) (h1 : Ints W b1 v A) (h2 : Ints W b2 u A') => impl_BigIntCmp s t v u A A' (by omega) (by omega) b1 b2 W h1 h2)
  obtain ⟨z, hz⟩ : ∃ z, z = cmpB s A t A' := ⟨_, rfl⟩
  rw [← hz] at KS KI
  clear hz
  go_enter Try.func10, Try.ntmps10
  go_wp2_with fail
  rw [HW.out]
  (with_reducible refine (KZ.out _).mono ?_)
  rintro e w1 ⟨rfl, b1⟩
  have t1 : w.heap.size + 2 ≤ w1.heap.size := by have := b1.size; omega
  have X := hid (X.out.old b1)
  have LX := hid (LX.out.old b1)
  have Y := hid (Y.out.old b1)
  have LY := hid (LY.out.old b1)
  have B := hid (B.out.trans (b1.mono B.out.size))
  clear b1
  have q0 := LY.out.c0
  have q1 := LY.out.c1
  go_wp2_with fail
  (with_reducible refine (KZ'.out _).mono ?_)
  clear q0 q1
  rintro e w2 ⟨rfl, b1⟩
  have t2 : w1.heap.size ≤ w2.heap.size := by have := b1.size; omega
  have X := hid (X.out.old b1)
  have LX := hid (LX.out.old b1)
  have Y := hid (Y.out.old b1)
  have LY := hid (LY.out.old b1)
  have B := hid (B.out.trans (b1.mono B.out.size))
  clear b1
  go_upto_region 8 with fail
  go_cut [6] (fun sl wx => CutI z w2 sl wx)
  case first =>
    have XD := hid (show Came w2.drew _ _ _ _ from X.out)
    have LXD := hid (show Loc _ w2.drew _ _ _ from LX.out)
    have YD := hid (show Came w2.drew _ _ _ _ from Y.out)
    have LYD := hid (show Loc _ w2.drew _ _ _ from LY.out)
    have CD := hid (show Below w2.heap.size w2 w2.drew from Below_drew1 (Below.refl _ _))
    have hNW : w2.heap.size ≤ w2.heap.size := Nat.le_refl _
    have LTX := LX.out.lt
    have LTY := LY.out.lt
    have q0 := LXD.out.c0
    have q1 := LXD.out.c1
    have q2 := LYD.out.c0
    have q3 := LYD.out.c1
    go_region_held3 (fun w' => w'.cell? ⟨w.heap.size, 0, none⟩ = some (.bool s) ∧ w'.cell? ⟨w.heap.size, 1, none⟩ = some (.slice a n c) ∧ w'.cell? ⟨w.heap.size + 1, 0, none⟩ = some (.bool t) ∧ w'.cell? ⟨w.heap.size + 1, 1, none⟩ = some (.slice a' n' c')) (first | exact ⟨q0, q1, q2, q3⟩) (first | (go_at_call 13; (with_reducible refine (KX.out _ XD.out).mono ?_); rintro e wx ⟨vx, rfl, i1, b1⟩; have CC := hid (CD.out.trans (b1.mono CD.out.size)); have XC := hid (XD.out.old b1); have LXC := hid (LXD.out.old b1); have YC := hid (YD.out.old b1); have LYC := hid (LYD.out.old b1); have q0 := LXC.out.c0; have q1 := LXC.out.c1; have q2 := LYC.out.c0; have q3 := LYC.out.c1; have IX := hid i1; obtain ⟨ax, cx, rfl, -⟩ := Ints_form i1; clear i1 b1) | (go_at_call 13; (with_reducible refine (KX.out _ XC.out).mono ?_); rintro e wx ⟨vx, rfl, i1, b1⟩; (try have NZ := hid (NZ.out.old b1)); have IY := hid (Ints_old IY.out b1); have CC := hid (CC.out.trans (b1.mono CC.out.size)); have XC := hid (XC.out.old b1); have LXC := hid (LXC.out.old b1); have YC := hid (YC.out.old b1); have LYC := hid (LYC.out.old b1); have q0 := LXC.out.c0; have q1 := LXC.out.c1; have q2 := LYC.out.c0; have q3 := LYC.out.c1; have IX := hid i1; obtain ⟨ax, cx, rfl, -⟩ := Ints_form i1; clear i1 b1) | (go_at_call 13; (with_reducible refine (KY.out _ YD.out).mono ?_); rintro e wy ⟨vy, rfl, i1, b1⟩; have CC := hid (CD.out.trans (b1.mono CD.out.size)); have YC := hid (YD.out.old b1); have LYC := hid (LYD.out.old b1); have XC := hid (XD.out.old b1); have LXC := hid (LXD.out.old b1); have q0 := LXC.out.c0; have q1 := LXC.out.c1; have q2 := LYC.out.c0; have q3 := LYC.out.c1; have IY := hid i1; obtain ⟨ay, cy, rfl, -⟩ := Ints_form i1; clear i1 b1) | (go_at_call 13; (with_reducible refine (KY.out _ YC.out).mono ?_); rintro e wy ⟨vy, rfl, i1, b1⟩; (try have NZ := hid (NZ.out.old b1)); have IX := hid (Ints_old IX.out b1); have CC := hid (CC.out.trans (b1.mono CC.out.size)); have YC := hid (YC.out.old b1); have LYC := hid (LYC.out.old b1); have XC := hid (XC.out.old b1); have LXC := hid (LXC.out.old b1); have q0 := LXC.out.c0; have q1 := LXC.out.c1; have q2 := LYC.out.c0; have q3 := LYC.out.c1; have IY := hid i1; obtain ⟨ay, cy, rfl, -⟩ := Ints_form i1; clear i1 b1) | (go_at_call 30; (with_reducible refine (KS.out _ _ _ _ _ IX.out IY.out).mono ?_); rintro e wf ⟨rfl, b1⟩; have CC := hid (CC.out.trans (b1.mono CC.out.size)); have LXC := hid (LXC.out.old b1); have LYC := hid (LYC.out.old b1); have q0 := LXC.out.c0; have q1 := LXC.out.c1; have q2 := LYC.out.c0; have q3 := LYC.out.c1; clear b1))
    all_goals
      go_wp2_with fail
      go_meet
      exact ⟨rfl, CC.out⟩
  case rest =>
    generalize wc = w3 at hcut ⊢
    obtain ⟨rfl, b1⟩ := hcut
    have t3 : w2.heap.size ≤ w3.heap.size := b1.size
    have X := hid (X.out.old b1)
    have LX := hid (LX.out.old b1)
    have Y := hid (Y.out.old b1)
    have LY := hid (LY.out.old b1)
    have B := hid (B.out.trans (b1.mono B.out.size))
    clear b1
    have q0 := LX.out.c0
    have q1 := LX.out.c1
    go_wp2_with fail
    (with_reducible refine (KX.out _ X.out).mono ?_)
    clear q0 q1
    rintro e w4 ⟨v4, rfl, i1, b1⟩
    have t4 : w3.heap.size ≤ w4.heap.size := by have := b1.size; omega
    have O1 := hid (Obj_at (lo := w3.heap.size) i1 (by simp))
    have X := hid (X.out.old b1)
    have LX := hid (LX.out.old b1)
    have Y := hid (Y.out.old b1)
    have LY := hid (LY.out.old b1)
    have B := hid (B.out.trans (b1.mono B.out.size))
    obtain ⟨a4, c4, rfl, -⟩ := Ints_form i1
    clear i1 b1
    have X := hid (X.out.old (below_new' (o := .cells #[.bool s, .slice a4 A.length c4] 27)))
    have LX := hid (LX.out.new1 (o := .cells #[.bool s, .slice a4 A.length c4] 27))
    have Y := hid (Y.out.old (below_new' (o := .cells #[.bool s, .slice a4 A.length c4] 27)))
    have LY := hid (LY.out.new1 (o := .cells #[.bool s, .slice a4 A.length c4] 27))
    have O1 := hid (O1.out.old (below_new' (o := .cells #[.bool s, .slice a4 A.length c4] 27)))
    have B := hid (B.out.alloc B.out.size (.cells #[.bool s, .slice a4 A.length c4] 27))
    have LO1 := hid (Loc.new (w := w4) (T := 27) (s := s) (v := .slice a4 A.length c4))
    have q0 := LY.out.c0
    have q1 := LY.out.c1
    go_wp2_with fail
    (with_reducible refine (KY.out _ Y.out).mono ?_)
    clear q0 q1
    rintro e w5 ⟨v5, rfl, i1, b1⟩
    have t5 : w4.heap.size + 1 ≤ w5.heap.size := by have := b1.size; simp at this; omega
    have O2 := hid (Obj_at (lo := w4.heap.size + 1) i1 (by simp))
    have X := hid (X.out.old b1)
    have LX := hid (LX.out.old b1)
    have Y := hid (Y.out.old b1)
    have LY := hid (LY.out.old b1)
    have O1 := hid (O1.out.old b1)
    have LO1 := hid (LO1.out.old b1)
    have B := hid (B.out.trans (b1.mono B.out.size))
    obtain ⟨a5, c5, rfl, -⟩ := Ints_form i1
    clear i1 b1
    have X := hid (X.out.old (below_new' (o := .cells #[.bool t, .slice a5 A'.length c5] 27)))
    have LX := hid (LX.out.new1 (o := .cells #[.bool t, .slice a5 A'.length c5] 27))
    have Y := hid (Y.out.old (below_new' (o := .cells #[.bool t, .slice a5 A'.length c5] 27)))
    have LY := hid (LY.out.new1 (o := .cells #[.bool t, .slice a5 A'.length c5] 27))
    have O1 := hid (O1.out.old (below_new' (o := .cells #[.bool t, .slice a5 A'.length c5] 27)))
    have LO1 := hid (LO1.out.new1 (o := .cells #[.bool t, .slice a5 A'.length c5] 27))
    have O2 := hid (O2.out.old (below_new' (o := .cells #[.bool t, .slice a5 A'.length c5] 27)))
    have B := hid (B.out.alloc B.out.size (.cells #[.bool t, .slice a5 A'.length c5] 27))
    have LO2 := hid (Loc.new (w := w5) (T := 27) (s := t) (v := .slice a5 A'.length c5))
    have q0 := LO1.out.c0
    have q1 := LO1.out.c1
    have q2 := LO2.out.c0
    have q3 := LO2.out.c1
    go_wp2_with fail
    (with_reducible refine (KI.out _ _ _ _ _ O1.out.ints O2.out.ints).mono ?_)
    clear q0 q1 q2 q3
    rintro e w6 ⟨rfl, b1⟩
    have t6 : w5.heap.size + 1 ≤ w6.heap.size := by have := b1.size; simp at this; omega
    have X := hid (X.out.old b1)
    have LX := hid (LX.out.old b1)
    have Y := hid (Y.out.old b1)
    have LY := hid (LY.out.old b1)
    have O1 := hid (O1.out.old b1)
    have LO1 := hid (LO1.out.old b1)
    have O2 := hid (O2.out.old b1)
    have LO2 := hid (LO2.out.old b1)
    have B := hid (B.out.trans (b1.mono B.out.size))
    clear b1
    go_wp2_with fail
    have X := hid (show Came w6.drew _ _ _ _ from X.out)
    have LX := hid (show Loc _ w6.drew _ _ _ from LX.out)
    have Y := hid (show Came w6.drew _ _ _ _ from Y.out)
    have LY := hid (show Loc _ w6.drew _ _ _ from LY.out)
    have O1 := hid (Obj_drew1 O1.out)
    have LO1 := hid (show Loc _ w6.drew _ _ _ from LO1.out)
    have O2 := hid (Obj_drew1 O2.out)
    have LO2 := hid (show Loc _ w6.drew _ _ _ from LO2.out)
    have B := hid (Below_drew1 B.out)
    have q0 := LO1.out.c0
    have q1 := LO1.out.c1
    have q2 := LX.out.c0
    have q3 := LX.out.c1
    go_region_held3 (fun w' => w'.cell? ⟨w4.heap.size, 0, none⟩ = some (.bool s) ∧ w'.cell? ⟨w4.heap.size, 1, none⟩ = some (.slice a4 A.length c4) ∧ w'.cell? ⟨w.heap.size, 0, none⟩ = some (.bool s) ∧ w'.cell? ⟨w.heap.size, 1, none⟩ = some (.slice a n c)) (first | exact ⟨q0, q1, q2, q3⟩) (first | (go_at_call 13; (with_reducible refine (KX.out _ X.out).mono ?_); rintro e w7 ⟨v7, rfl, i1, b1⟩; have t7 : w6.heap.size ≤ w7.heap.size := (by have := b1.size; first | exact this | omega); have OC := hid (Obj.of i1); have X := hid (X.out.old b1); have LX := hid (LX.out.old b1); have Y := hid (Y.out.old b1); have LY := hid (LY.out.old b1); have O1 := hid (O1.out.old b1); have LO1 := hid (LO1.out.old b1); have O2 := hid (O2.out.old b1); have LO2 := hid (LO2.out.old b1); have B := hid (B.out.trans (b1.mono B.out.size)); have q0 := LO1.out.c0; have q1 := LO1.out.c1; have q2 := LX.out.c0; have q3 := LX.out.c1; obtain ⟨a7, c7, rfl, -⟩ := Ints_form i1; clear i1 b1) | (go_at_call 15; (with_reducible refine (eqBigInt_obj _ _ _ A _ _ _ _ (by omega) _ O1.out OC.out).mono ?_); rintro e w8 ⟨rfl, b1⟩; have t8 : w7.heap.size ≤ w8.heap.size := (by have := b1.size; first | omega | (simp at this; omega)); have X := hid (X.out.old b1); have LX := hid (LX.out.old b1); have Y := hid (Y.out.old b1); have LY := hid (LY.out.old b1); have O1 := hid (O1.out.old b1); have LO1 := hid (LO1.out.old b1); have O2 := hid (O2.out.old b1); have LO2 := hid (LO2.out.old b1); have B := hid (B.out.trans (b1.mono B.out.size)); have q0 := LO1.out.c0; have q1 := LO1.out.c1; have q2 := LX.out.c0; have q3 := LX.out.c1; clear b1))
    clear q0 q1 q2 q3
    go_wp2_with fail
    have X := hid (show Came w8.drew _ _ _ _ from X.out)
    have LX := hid (show Loc _ w8.drew _ _ _ from LX.out)
    have Y := hid (show Came w8.drew _ _ _ _ from Y.out)
    have LY := hid (show Loc _ w8.drew _ _ _ from LY.out)
    have O1 := hid (Obj_drew1 O1.out)
    have LO1 := hid (show Loc _ w8.drew _ _ _ from LO1.out)
    have O2 := hid (Obj_drew1 O2.out)
    have LO2 := hid (show Loc _ w8.drew _ _ _ from LO2.out)
    have B := hid (Below_drew1 B.out)
    have q0 := LO2.out.c0
    have q1 := LO2.out.c1
    have q2 := LY.out.c0
    have q3 := LY.out.c1
    go_region_held3 (fun w' => w'.cell? ⟨w5.heap.size, 0, none⟩ = some (.bool t) ∧ w'.cell? ⟨w5.heap.size, 1, none⟩ = some (.slice a5 A'.length c5) ∧ w'.cell? ⟨w.heap.size + 1, 0, none⟩ = some (.bool t) ∧ w'.cell? ⟨w.heap.size + 1, 1, none⟩ = some (.slice a' n' c')) (first | exact ⟨q0, q1, q2, q3⟩) (first | (go_at_call 13; (with_reducible refine (KY.out _ Y.out).mono ?_); rintro e w9 ⟨v9, rfl, i1, b1⟩; have t9 : w8.heap.size ≤ w9.heap.size := (by have := b1.size; first | exact this | omega); have OC := hid (Obj.of i1); have X := hid (X.out.old b1); have LX := hid (LX.out.old b1); have Y := hid (Y.out.old b1); have LY := hid (LY.out.old b1); have O1 := hid (O1.out.old b1); have LO1 := hid (LO1.out.old b1); have O2 := hid (O2.out.old b1); have LO2 := hid (LO2.out.old b1); have B := hid (B.out.trans (b1.mono B.out.size)); have q0 := LO2.out.c0; have q1 := LO2.out.c1; have q2 := LY.out.c0; have q3 := LY.out.c1; obtain ⟨a9, c9, rfl, -⟩ := Ints_form i1; clear i1 b1) | (go_at_call 15; (with_reducible refine (eqBigInt_obj _ _ _ A' _ _ _ _ (by omega) _ O2.out OC.out).mono ?_); rintro e w10 ⟨rfl, b1⟩; have t10 : w9.heap.size ≤ w10.heap.size := (by have := b1.size; first | omega | (simp at this; omega)); have X := hid (X.out.old b1); have LX := hid (LX.out.old b1); have Y := hid (Y.out.old b1); have LY := hid (LY.out.old b1); have O1 := hid (O1.out.old b1); have LO1 := hid (LO1.out.old b1); have O2 := hid (O2.out.old b1); have LO2 := hid (LO2.out.old b1); have B := hid (B.out.trans (b1.mono B.out.size)); have q0 := LO2.out.c0; have q1 := LO2.out.c1; have q2 := LY.out.c0; have q3 := LY.out.c1; clear b1))
    clear q0 q1 q2 q3
    go_wp2
    go_ret
    exact ⟨rfl, B.out⟩

end Go.Proofs.Ytleechafachkaaa
