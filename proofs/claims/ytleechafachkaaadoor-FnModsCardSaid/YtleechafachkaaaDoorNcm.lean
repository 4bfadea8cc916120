/- Merged: Na Nc Nd. -/
import Derived.Test.YtleechafachkaaaDoorFb
import Derived.Deep.RegionHeld3
import Derived.Deep.DeepCutAuto
import Derived.Test.YtleechafachkaaaDoorBg
import Derived.IntWalk
import Derived.Test.YtleechafachkaaaDoorFdm
/- The walk of the law FnExactFormatBigInt. -/
namespace Go.Proofs.YtleechafachkaaaDoor
open Go.RowKit
open Go.Lib (hid)
set_option linter.unusedVariables false

theorem Obj_at {w' : World} {v : Value} {L : List Int} {B lo : Nat} (h : Ints w' B v L) (hlo : lo ≤ B) : Obj w' v L lo w'.heap.size := ⟨Ints_base h hlo, fun k hk => (Ints_lt h k hk).2⟩
theorem Obj_drew1 {w : World} {v : Value} {L : List Int} {lo hi : Nat} (h : Obj w v L lo hi) : Obj w.drew v L lo hi := ⟨h.ints, h.high⟩

theorem Pow10.old {w w' : World} (h : Pow10 w) (hb : Below w.heap.size w w') : Pow10 w' := pow_below h hb

set_option maxRecDepth 100000 in
set_option maxHeartbeats 12800000 in
theorem law_FormatBigInt (s : Bool) (a : Option Addr) (n c : Nat) (A : List Int) (hm0 : n ≤ maxLen) (w : World) (r0 : RowI w a n A) (hp : Pow10 w) :
    Calls Tryd.prog 5 #[.agg #[.bool s, .slice a n c]] w (RetB (.bool true) w) := by
  have h0 : A.length ≤ n := by have := r0.1; omega
  have X := hid ((Came.of r0).old (below_new' (w := w) (o := .cells #[.bool s, .slice a n c] 40)))
  have PP := hid (hp.old (below_new' (w := w) (o := .cells #[.bool s, .slice a n c] 40)))
  clear hp
  have B := hid (below_new' (w := w) (o := .cells #[.bool s, .slice a n c] 40))
  have LX := hid (Loc.at (T := 40) (w := w) (b := w.heap.size) (s := s) (v := .slice a n c) rfl)
  have hsz : w.heap.size + 1 ≤ (w.alloc (.cells #[.bool s, .slice a n c] 40)).heap.size := by simp
  clear r0
  generalize hW : w.alloc (.cells #[.bool s, .slice a n c] 40) = W0 at X B LX hsz PP
  have HW := hid hW
  clear hW
  by_cases hA : 1048576 < (n : Int)
  · have K := hid (szBigInt_no s a n c 1048576 hm0 hA (by decide) (by decide))
    go_enter Tryd.func5, Tryd.ntmps5
    go_wp2_with fail
    rw [HW.out]
    (with_reducible refine (K.out _).mono ?_)
    rintro e w1 ⟨rfl, b1⟩
    have B := hid (B.out.trans (b1.mono B.out.size))
    clear b1
    go_wp2
    go_ret
    exact ⟨rfl, B.out⟩
  have hlA : A.length ≤ 1048576 := by omega
  clear h0
  have KZ := hid (szBigInt_yes s a n c 1048576 (by omega) (by decide))
  have hge : ¬ 1048576 - (n : Int) < 0 := by omega
  have KX := hid (fun (W : World) (h : Came W w.heap.size a n A) => toBigInt_came s a n c _ A (by omega) W h)
  have KS := hid (fun (W : World) (v : Value) (b1 : Nat) (h1 : Ints W b1 v A) => spec_FormatBigInt s v A (by omega) b1 W h1)
  have KI := hid (fun (W : World) (v : Value) (b1 : Nat) (h1 : Ints W b1 v A) (hp : Pow10 W) => impl_FormatBigInt s v A (by omega) b1 W h1 hp)
  obtain ⟨z, hz⟩ : ∃ z, z = fmtB s A := ⟨_, rfl⟩
  rw [← hz] at KS KI
  clear hz
  go_enter Tryd.func5, Tryd.ntmps5
  go_wp2_with fail
  rw [HW.out]
  (with_reducible refine (KZ.out _).mono ?_)
  rintro e w1 ⟨rfl, b1⟩
  have t1 : w.heap.size + 1 ≤ w1.heap.size := by have := b1.size; omega
  have X := hid (X.out.old b1)
  have LX := hid (LX.out.old b1)
  have PP := hid (PP.out.old b1)
  have B := hid (B.out.trans (b1.mono B.out.size))
  clear b1
  have q0 := LX.out.c0
  have q1 := LX.out.c1
  go_wp2_with fail
  (with_reducible refine (KX.out _ X.out).mono ?_)
  clear q0 q1
  rintro e w2 ⟨v2, rfl, i1, b1⟩
  have t2 : w1.heap.size ≤ w2.heap.size := by have := b1.size; omega
  have O1 := hid (Obj_at (lo := w1.heap.size) i1 (by simp))
  have X := hid (X.out.old b1)
  have LX := hid (LX.out.old b1)
  have PP := hid (PP.out.old b1)
  have B := hid (B.out.trans (b1.mono B.out.size))
  obtain ⟨a2, c2, rfl, -⟩ := Ints_form i1
  clear i1 b1
  go_wp2_with fail
  (with_reducible refine (KS.out _ _ _ O1.out.ints).mono ?_)
  rintro e w3 ⟨rfl, b1⟩
  have t3 : w2.heap.size ≤ w3.heap.size := by have := b1.size; omega
  have X := hid (X.out.old b1)
  have LX := hid (LX.out.old b1)
  have PP := hid (PP.out.old b1)
  have O1 := hid (O1.out.old b1)
  have B := hid (B.out.trans (b1.mono B.out.size))
  clear b1
  have q0 := LX.out.c0
  have q1 := LX.out.c1
  go_wp2_with fail
  (with_reducible refine (KX.out _ X.out).mono ?_)
  clear q0 q1
  rintro e w4 ⟨v4, rfl, i1, b1⟩
  have t4 : w3.heap.size ≤ w4.heap.size := by have := b1.size; omega
  have O1 := hid (Obj_at (lo := w3.heap.size) i1 (by simp))
  have X := hid (X.out.old b1)
  have LX := hid (LX.out.old b1)
  have PP := hid (PP.out.old b1)
  have B := hid (B.out.trans (b1.mono B.out.size))
  obtain ⟨a4, c4, rfl, -⟩ := Ints_form i1
  clear i1 b1
  have X := hid (X.out.old (below_new' (o := .cells #[.bool s, .slice a4 A.length c4] 25)))
  have LX := hid (LX.out.new1 (o := .cells #[.bool s, .slice a4 A.length c4] 25))
  have PP := hid (PP.out.old (below_new' (o := .cells #[.bool s, .slice a4 A.length c4] 25)))
  have O1 := hid (O1.out.old (below_new' (o := .cells #[.bool s, .slice a4 A.length c4] 25)))
  have B := hid (B.out.alloc B.out.size (.cells #[.bool s, .slice a4 A.length c4] 25))
  have LO1 := hid (Loc.new (w := w4) (T := 25) (s := s) (v := .slice a4 A.length c4))
  have q0 := LO1.out.c0
  have q1 := LO1.out.c1
  go_wp2_with fail
  (with_reducible refine (KI.out _ _ _ O1.out.ints PP.out).mono ?_)
  clear q0 q1
  rintro e w5 ⟨rfl, b1⟩
  have t5 : w4.heap.size + 1 ≤ w5.heap.size := by have := b1.size; simp at this; omega
  have X := hid (X.out.old b1)
  have LX := hid (LX.out.old b1)
  have PP := hid (PP.out.old b1)
  have O1 := hid (O1.out.old b1)
  have LO1 := hid (LO1.out.old b1)
  have B := hid (B.out.trans (b1.mono B.out.size))
  clear b1
  go_wp2_with fail
  have X := hid (show Came w5.drew _ _ _ _ from X.out)
  have LX := hid (show Loc _ w5.drew _ _ _ from LX.out)
  have PP := hid (PP.out.old (Below_drew1 (Below.refl _ _)))
  have O1 := hid (Obj_drew1 O1.out)
  have LO1 := hid (show Loc _ w5.drew _ _ _ from LO1.out)
  have B := hid (Below_drew1 B.out)
  have q0 := LO1.out.c0
  have q1 := LO1.out.c1
  have q2 := LX.out.c0
  have q3 := LX.out.c1
  go_region_held3 (fun w' => w'.cell? ⟨w4.heap.size, 0, none⟩ = some (.bool s) ∧ w'.cell? ⟨w4.heap.size, 1, none⟩ = some (.slice a4 A.length c4) ∧ w'.cell? ⟨w.heap.size, 0, none⟩ = some (.bool s) ∧ w'.cell? ⟨w.heap.size, 1, none⟩ = some (.slice a n c)) (first | exact ⟨q0, q1, q2, q3⟩) (first | (go_at_call 23; (with_reducible refine (KX.out _ X.out).mono ?_); rintro e w6 ⟨v6, rfl, i1, b1⟩; have t6 : w5.heap.size ≤ w6.heap.size := (by have := b1.size; first | exact this | omega); have OC := hid (Obj.of i1); have X := hid (X.out.old b1); have LX := hid (LX.out.old b1); have PP := hid (PP.out.old b1); have O1 := hid (O1.out.old b1); have LO1 := hid (LO1.out.old b1); have B := hid (B.out.trans (b1.mono B.out.size)); have q0 := LO1.out.c0; have q1 := LO1.out.c1; have q2 := LX.out.c0; have q3 := LX.out.c1; obtain ⟨a6, c6, rfl, -⟩ := Ints_form i1; clear i1 b1) | (go_at_call 24; (with_reducible refine (eqBigInt_obj _ _ _ A _ _ _ _ (by omega) _ O1.out OC.out).mono ?_); rintro e w7 ⟨rfl, b1⟩; have t7 : w6.heap.size ≤ w7.heap.size := (by have := b1.size; first | omega | (simp at this; omega)); have X := hid (X.out.old b1); have LX := hid (LX.out.old b1); have PP := hid (PP.out.old b1); have O1 := hid (O1.out.old b1); have LO1 := hid (LO1.out.old b1); have B := hid (B.out.trans (b1.mono B.out.size)); have q0 := LO1.out.c0; have q1 := LO1.out.c1; have q2 := LX.out.c0; have q3 := LX.out.c1; clear b1))
  clear q0 q1 q2 q3
  go_wp2
  go_ret
  exact ⟨rfl, B.out⟩

end Go.Proofs.YtleechafachkaaaDoor

/- The walk of the law FnWhole. -/
namespace Go.Proofs.YtleechafachkaaaDoor
open Go.RowKit
open Go.Lib (hid)
set_option linter.unusedVariables false

/-- An integer of the law's own has been laid into a variable of its own. -/
def LaidB (T : TypeId) (W : World) (V : Int) (sl : Value) (wx : World) : Prop := ∃ g s a n c, sl = .pointer (some ⟨g, 0, none⟩) ∧ Loc T wx g s (.slice a n c) ∧ BigV wx s (.slice a n c) V ∧ W.heap.size ≤ g ∧ Below W.heap.size W wx
theorem LaidB_a {T : TypeId} {W wf : World} {V : Int} {s : Bool} {a : Option Addr} {n c : Nat} (hi : BigV wf s (.slice a n c) V) (hb : Below W.heap.size W wf) :
    LaidB T W V (.pointer (some ⟨wf.heap.size, 0, none⟩)) (wf.alloc (.cells #[.bool s, .slice a n c] T)) :=
  ⟨wf.heap.size, s, a, n, c, rfl, Loc.new, hi.old below_new', hb.size, hb.alloc hb.size _⟩
theorem LaidB_b {T : TypeId} {W wf : World} {V : Int} {s : Bool} {a : Option Addr} {n c N : Nat} (hT : T ≠ 3) (hL : Loc T wf N false (.slice none 0 0)) (hN : W.heap.size ≤ N) (hi : BigV wf s (.slice a n c) V) (hb : Below W.heap.size W wf) :
    LaidB T W V (.pointer (some ⟨N, 0, none⟩)) ((wf.setCell ⟨N, 0, none⟩ (.bool s)).setCell ⟨N, 1, none⟩ (.slice a n c)) := by
  obtain ⟨L, lo, hi', o, e1, e2⟩ := hi
  have hne := hL.ne hT o.ints
  refine ⟨N, s, a, n, c, rfl, ?_, ⟨L, lo, hi', ⟨Ints_set (Ints_set o.ints hne) hne, o.high⟩, e1, e2⟩, hN, (hb.setCell hN _).setCell hN _⟩
  unfold Loc at hL ⊢
  simp [World.setCell, Array.getElem?_modify, hL]
theorem ByteRow.old {w w' : World} {a : Option Addr} {n : Nat} {Z : List Int} (h : ByteRow w a n Z) (hb : Below w.heap.size w w') : ByteRow w' a n Z := ByteRow_below h hb
theorem pw_facts : pw 3 + pw 3 < pw 4 ∧ pw 3 * pw 4 < pw 8 ∧ pw 3 * pw 3 < pw 8 ∧ pw 8 + pw 8 < pw 60 ∧ pw 4 < pw 60 := by decide
theorem sgn_flip {x y : Int} : -sgn (-x - -y) = sgn (x - y) := by
  rcases sgn_cases (-x - -y) with ⟨h, e⟩ | ⟨h, e⟩ | ⟨h, e⟩ <;> rcases sgn_cases (x - y) with ⟨h', e'⟩ | ⟨h', e'⟩ | ⟨h', e'⟩ <;> omega

set_option maxRecDepth 100000 in
set_option maxHeartbeats 12800000 in
theorem law_Whole (a : Option Addr) (n c : Nat) (Z : List Int) (hn : n ≤ maxLen) (w : World) (hr : ByteRow w a n Z) (hp : Pow10 w) :
    Calls Tryd.prog 3 #[.slice a n c] w (RetB (.bool true) w) := by
  unfold maxLen at hn
  by_cases hA : 1048576 < (n : Int)
  · go_enter Tryd.func3, Tryd.ntmps3
    go_wp2
    go_ret
    exact ⟨rfl, Below.refl _ _⟩
  have hZ : Z.length ≤ 1048576 := by have := hr.1; omega
  have KM := hid (fun (W : World) (h : ByteRow W a n Z) (t : Int) t0 t1 => make_big a n c Z t hZ W h t0 t1)
  have R := hid hr
  have PP := hid hp
  have B := hid (Below.refl w.heap.size w)
  clear hr hp
  go_enter Tryd.func3, Tryd.ntmps3
  go_wp2_with fail
  (with_reducible refine (KM.out _ R.out 1 (by decide) (by decide)).mono ?_)
  rintro e w1 ⟨x, s1, a1, n1, c1, x0, x1, rfl, hv, b1⟩
  have X := hid hv
  have R := hid (R.out.old b1)
  have PP := hid (PP.out.old b1)
  have B := hid (B.out.trans (b1.mono B.out.size))
  clear hv b1
  have R := hid (R.out.old (below_new' (o := .cells #[.bool s1, .slice a1 n1 c1] 25)))
  have PP := hid (PP.out.old (below_new' (o := .cells #[.bool s1, .slice a1 n1 c1] 25)))
  have X := hid (X.out.old (below_new' (o := .cells #[.bool s1, .slice a1 n1 c1] 25)))
  have B := hid (B.out.alloc B.out.size (.cells #[.bool s1, .slice a1 n1 c1] 25))
  have LX := hid (Loc.new (w := w1) (T := 25) (s := s1) (v := .slice a1 n1 c1))
  go_wp2_with fail
  (with_reducible refine (KM.out _ R.out 2 (by decide) (by decide)).mono ?_)
  rintro e w2 ⟨y, s2, a2, n2, c2, y0, y1, rfl, hv, b1⟩
  have Y := hid hv
  have R := hid (R.out.old b1)
  have PP := hid (PP.out.old b1)
  have X := hid (X.out.old b1)
  have LX := hid (LX.out.old b1)
  have B := hid (B.out.trans (b1.mono B.out.size))
  clear hv b1
  have R := hid (R.out.old (below_new' (o := .cells #[.bool s2, .slice a2 n2 c2] 25)))
  have PP := hid (PP.out.old (below_new' (o := .cells #[.bool s2, .slice a2 n2 c2] 25)))
  have X := hid (X.out.old (below_new' (o := .cells #[.bool s2, .slice a2 n2 c2] 25)))
  have LX := hid (LX.out.old (below_new' (o := .cells #[.bool s2, .slice a2 n2 c2] 25)))
  have Y := hid (Y.out.old (below_new' (o := .cells #[.bool s2, .slice a2 n2 c2] 25)))
  have B := hid (B.out.alloc B.out.size (.cells #[.bool s2, .slice a2 n2 c2] 25))
  have LY := hid (Loc.new (w := w2) (T := 25) (s := s2) (v := .slice a2 n2 c2))
  go_wp2_with fail
  (with_reducible refine (KM.out _ R.out 3 (by decide) (by decide)).mono ?_)
  rintro e w3 ⟨z, s3, a3, n3, c3, z0, z1, rfl, hv, b1⟩
  have ZZ := hid hv
  have R := hid (R.out.old b1)
  have PP := hid (PP.out.old b1)
  have X := hid (X.out.old b1)
  have LX := hid (LX.out.old b1)
  have Y := hid (Y.out.old b1)
  have LY := hid (LY.out.old b1)
  have B := hid (B.out.trans (b1.mono B.out.size))
  clear hv b1
  have R := hid (R.out.old (below_new' (o := .cells #[.bool s3, .slice a3 n3 c3] 25)))
  have PP := hid (PP.out.old (below_new' (o := .cells #[.bool s3, .slice a3 n3 c3] 25)))
  have X := hid (X.out.old (below_new' (o := .cells #[.bool s3, .slice a3 n3 c3] 25)))
  have LX := hid (LX.out.old (below_new' (o := .cells #[.bool s3, .slice a3 n3 c3] 25)))
  have Y := hid (Y.out.old (below_new' (o := .cells #[.bool s3, .slice a3 n3 c3] 25)))
  have LY := hid (LY.out.old (below_new' (o := .cells #[.bool s3, .slice a3 n3 c3] 25)))
  have ZZ := hid (ZZ.out.old (below_new' (o := .cells #[.bool s3, .slice a3 n3 c3] 25)))
  have B := hid (B.out.alloc B.out.size (.cells #[.bool s3, .slice a3 n3 c3] 25))
  have LZ := hid (Loc.new (w := w3) (T := 25) (s := s3) (v := .slice a3 n3 c3))
  obtain ⟨p1, p2, p3, p4, p5⟩ := pw_facts
  have hxy := mul_ab ⟨z0, z1⟩ (show -(pw 4) < x + y ∧ x + y < pw 4 by omega)
  have hzx := mul_ab ⟨z0, z1⟩ ⟨x0, x1⟩
  have hzy := mul_ab ⟨z0, z1⟩ ⟨y0, y1⟩
  have F := hid (show ((x + y).natAbs : Int) < pw 60 ∧ ((z * (x + y)).natAbs : Int) < pw 60 ∧ ((z * x).natAbs : Int) < pw 60 ∧ ((z * y).natAbs : Int) < pw 60 ∧ ((z * x + z * y).natAbs : Int) < pw 60 ∧ z * x + z * y = z * (x + y) ∧ ((x + y - y).natAbs : Int) < pw 60 ∧ x + y - y = x from
    ⟨by omega, by omega, by omega, by omega, by omega, (Int.mul_add z x y).symm, by omega, by omega⟩)
  obtain ⟨d, hd⟩ : ∃ d, d = sgn (-x - -y) := ⟨_, rfl⟩
  have HD := hid hd
  have hdb := sgn_cases (-x - -y)
  rw [← hd] at hdb
  have hd0 : -1 ≤ d := by omega
  have hd1 : d ≤ 1 := by omega
  have HDN := hid (show -d = sgn (x - y) by rw [hd]; exact sgn_flip)
  clear hd hdb p1 p2 p3 p4 p5 hxy hzx hzy x0 x1 y0 y1 z0 z1 KM
  have KMX := hid (fun (W : World) (h1 : BigV W s3 (.slice a3 n3 c3) z) (h2 : BigV W s1 (.slice a1 n1 c1) x) => mul_big h1 h2 F.out.2.2.1)
  have KMY := hid (fun (W : World) (h1 : BigV W s3 (.slice a3 n3 c3) z) (h2 : BigV W s2 (.slice a2 n2 c2) y) => mul_big h1 h2 F.out.2.2.2.1)
  have KAQ := hid (fun (W : World) (s t : Bool) (u v : Value) (h1 : BigV W s u (z * x)) (h2 : BigV W t v (z * y)) => add_big h1 h2 F.out.2.2.2.2.1)
  rw [F.out.2.2.2.2.2.1] at KAQ
  have q0 := LX.out.c0
  have q1 := LX.out.c1
  have q2 := LY.out.c0
  have q3 := LY.out.c1
  go_wp2_with fail
  (with_reducible refine (add_big X.out Y.out F.out.1).mono ?_)
  clear q0 q1 q2 q3
  rintro e w4 ⟨s4, a4, n4, c4, rfl, hv, b1⟩
  have SS := hid hv
  have R := hid (R.out.old b1)
  have PP := hid (PP.out.old b1)
  have X := hid (X.out.old b1)
  have LX := hid (LX.out.old b1)
  have Y := hid (Y.out.old b1)
  have LY := hid (LY.out.old b1)
  have ZZ := hid (ZZ.out.old b1)
  have LZ := hid (LZ.out.old b1)
  have B := hid (B.out.trans (b1.mono B.out.size))
  clear hv b1
  have R := hid (R.out.old (below_new' (o := .cells #[.bool s4, .slice a4 n4 c4] 25)))
  have PP := hid (PP.out.old (below_new' (o := .cells #[.bool s4, .slice a4 n4 c4] 25)))
  have X := hid (X.out.old (below_new' (o := .cells #[.bool s4, .slice a4 n4 c4] 25)))
  have LX := hid (LX.out.old (below_new' (o := .cells #[.bool s4, .slice a4 n4 c4] 25)))
  have Y := hid (Y.out.old (below_new' (o := .cells #[.bool s4, .slice a4 n4 c4] 25)))
  have LY := hid (LY.out.old (below_new' (o := .cells #[.bool s4, .slice a4 n4 c4] 25)))
  have ZZ := hid (ZZ.out.old (below_new' (o := .cells #[.bool s4, .slice a4 n4 c4] 25)))
  have LZ := hid (LZ.out.old (below_new' (o := .cells #[.bool s4, .slice a4 n4 c4] 25)))
  have SS := hid (SS.out.old (below_new' (o := .cells #[.bool s4, .slice a4 n4 c4] 25)))
  have B := hid (B.out.alloc B.out.size (.cells #[.bool s4, .slice a4 n4 c4] 25))
  have LS := hid (Loc.new (w := w4) (T := 25) (s := s4) (v := .slice a4 n4 c4))
  have q0 := LZ.out.c0
  have q1 := LZ.out.c1
  have q2 := LS.out.c0
  have q3 := LS.out.c1
  go_wp2_with fail
  (with_reducible refine (mul_big ZZ.out SS.out F.out.2.1).mono ?_)
  clear q0 q1 q2 q3
  rintro e w5 ⟨s5, a5, n5, c5, rfl, hv, b1⟩
  have P := hid hv
  have R := hid (R.out.old b1)
  have PP := hid (PP.out.old b1)
  have X := hid (X.out.old b1)
  have LX := hid (LX.out.old b1)
  have Y := hid (Y.out.old b1)
  have LY := hid (LY.out.old b1)
  have ZZ := hid (ZZ.out.old b1)
  have LZ := hid (LZ.out.old b1)
  have SS := hid (SS.out.old b1)
  have LS := hid (LS.out.old b1)
  have B := hid (B.out.trans (b1.mono B.out.size))
  clear hv b1
  have R := hid (R.out.old (below_new' (o := .cells #[.bool s5, .slice a5 n5 c5] 25)))
  have PP := hid (PP.out.old (below_new' (o := .cells #[.bool s5, .slice a5 n5 c5] 25)))
  have X := hid (X.out.old (below_new' (o := .cells #[.bool s5, .slice a5 n5 c5] 25)))
  have LX := hid (LX.out.old (below_new' (o := .cells #[.bool s5, .slice a5 n5 c5] 25)))
  have Y := hid (Y.out.old (below_new' (o := .cells #[.bool s5, .slice a5 n5 c5] 25)))
  have LY := hid (LY.out.old (below_new' (o := .cells #[.bool s5, .slice a5 n5 c5] 25)))
  have ZZ := hid (ZZ.out.old (below_new' (o := .cells #[.bool s5, .slice a5 n5 c5] 25)))
  have LZ := hid (LZ.out.old (below_new' (o := .cells #[.bool s5, .slice a5 n5 c5] 25)))
  have SS := hid (SS.out.old (below_new' (o := .cells #[.bool s5, .slice a5 n5 c5] 25)))
  have LS := hid (LS.out.old (below_new' (o := .cells #[.bool s5, .slice a5 n5 c5] 25)))
  have P := hid (P.out.old (below_new' (o := .cells #[.bool s5, .slice a5 n5 c5] 25)))
  have B := hid (B.out.alloc B.out.size (.cells #[.bool s5, .slice a5 n5 c5] 25))
  have LP := hid (Loc.new (w := w5) (T := 25) (s := s5) (v := .slice a5 n5 c5))
  obtain ⟨V, hV⟩ : ∃ V, V = z * (x + y) := ⟨_, rfl⟩
  rw [← hV] at P KAQ
  obtain ⟨zp, hzp⟩ : ∃ r, r = fmtZ V := ⟨_, rfl⟩
  obtain ⟨zx, hzx⟩ : ∃ r, r = fmtZ x := ⟨_, rfl⟩
  have HZP := hid hzp
  have HZX := hid hzx
  clear hV hzp hzx
  obtain ⟨W, hW⟩ : ∃ W, W = w5.alloc (.cells #[.bool s5, .slice a5 n5 c5] 25) := ⟨_, rfl⟩
  go_upto_region 8 with fail
  rw [← hW] at R PP X LX Y LY ZZ LZ SS LS P LP B ⊢
  have hgP : w5.heap.size < W.heap.size := LP.out.lt
  clear hW
  go_cut [8] (fun sl wx => LaidB 25 W V sl wx)
  case first =>
    have XD := hid (X.out.old (Below_drew1 (Below.refl W.heap.size W)))
    have XE := hid (X.out.old (Below_drew1 (below_new' (w := W) (o := .cells #[.bool false, .slice none 0 0] 25))))
    have YD := hid (Y.out.old (Below_drew1 (Below.refl W.heap.size W)))
    have YE := hid (Y.out.old (Below_drew1 (below_new' (w := W) (o := .cells #[.bool false, .slice none 0 0] 25))))
    have ZZD := hid (ZZ.out.old (Below_drew1 (Below.refl W.heap.size W)))
    have ZZE := hid (ZZ.out.old (Below_drew1 (below_new' (w := W) (o := .cells #[.bool false, .slice none 0 0] 25))))
    have LXD := hid (LX.out.old (Below_drew1 (Below.refl W.heap.size W)))
    have LXE := hid (LX.out.old (Below_drew1 (below_new' (w := W) (o := .cells #[.bool false, .slice none 0 0] 25))))
    have LYD := hid (LY.out.old (Below_drew1 (Below.refl W.heap.size W)))
    have LYE := hid (LY.out.old (Below_drew1 (below_new' (w := W) (o := .cells #[.bool false, .slice none 0 0] 25))))
    have LZD := hid (LZ.out.old (Below_drew1 (Below.refl W.heap.size W)))
    have LZE := hid (LZ.out.old (Below_drew1 (below_new' (w := W) (o := .cells #[.bool false, .slice none 0 0] 25))))
    have CD := hid (show Below W.heap.size W W.drew from Below_drew1 (Below.refl _ _))
    have CE := hid (show Below W.heap.size W (W.alloc (.cells #[.bool false, .slice none 0 0] 25)).drew from Below_drew1 below_new')
    have NE := hid (show Loc 25 (W.alloc (.cells #[.bool false, .slice none 0 0] 25)).drew W.heap.size false (.slice none 0 0) from Loc.new)
    have hNW : W.heap.size ≤ W.heap.size := Nat.le_refl _
    have ltx := LX.out.lt
    have lty := LY.out.lt
    have ltz := LZ.out.lt
    have q0 := LXD.out.c0
    have q1 := LXD.out.c1
    have q2 := LYD.out.c0
    have q3 := LYD.out.c1
    have q4 := LZD.out.c0
    have q5 := LZD.out.c1
    go_region_held3 (fun w' => w'.cell? ⟨w1.heap.size, 0, none⟩ = some (.bool s1) ∧ w'.cell? ⟨w1.heap.size, 1, none⟩ = some (.slice a1 n1 c1) ∧ w'.cell? ⟨w2.heap.size, 0, none⟩ = some (.bool s2) ∧ w'.cell? ⟨w2.heap.size, 1, none⟩ = some (.slice a2 n2 c2) ∧ w'.cell? ⟨w3.heap.size, 0, none⟩ = some (.bool s3) ∧ w'.cell? ⟨w3.heap.size, 1, none⟩ = some (.slice a3 n3 c3)) (first | exact ⟨q0, q1, q2, q3, q4, q5⟩ | exact ⟨LXE.out.c0, LXE.out.c1, LYE.out.c0, LYE.out.c1, LZE.out.c0, LZE.out.c1⟩ | exact ⟨(LXC.out.new1).c0, (LXC.out.new1).c1, (LYC.out.new1).c0, (LYC.out.new1).c1, (LZC.out.new1).c0, (LZC.out.new1).c1⟩ | exact ⟨(cell_set2 (Nat.ne_of_lt (by omega))).trans q0, (cell_set2 (Nat.ne_of_lt (by omega))).trans q1, (cell_set2 (Nat.ne_of_lt (by omega))).trans q2, (cell_set2 (Nat.ne_of_lt (by omega))).trans q3, (cell_set2 (Nat.ne_of_lt (by omega))).trans q4, (cell_set2 (Nat.ne_of_lt (by omega))).trans q5⟩ | go_keep) (first | (go_at_call 9; (with_reducible refine (KMX.out _ ZZD.out XD.out).mono ?_); rintro e v1 ⟨sv1, av1, nv1, cv1, rfl, hv, b1⟩; have M1 := hid hv; have CC := hid (CD.out.trans (b1.mono CD.out.size)); have XC := hid (XD.out.old b1); have YC := hid (YD.out.old b1); have ZZC := hid (ZZD.out.old b1); have LXC := hid (LXD.out.old b1); have LYC := hid (LYD.out.old b1); have LZC := hid (LZD.out.old b1); have q0 := LXC.out.c0; have q1 := LXC.out.c1; have q2 := LYC.out.c0; have q3 := LYC.out.c1; have q4 := LZC.out.c0; have q5 := LZC.out.c1; clear hv b1) | (go_at_call 9; (with_reducible refine (KMX.out _ ZZE.out XE.out).mono ?_); rintro e v1 ⟨sv1, av1, nv1, cv1, rfl, hv, b1⟩; have M1 := hid hv; have CC := hid (CE.out.trans (b1.mono CE.out.size)); have NZ := hid (NE.out.old b1); have XC := hid (XE.out.old b1); have YC := hid (YE.out.old b1); have ZZC := hid (ZZE.out.old b1); have LXC := hid (LXE.out.old b1); have LYC := hid (LYE.out.old b1); have LZC := hid (LZE.out.old b1); have q0 := LXC.out.c0; have q1 := LXC.out.c1; have q2 := LYC.out.c0; have q3 := LYC.out.c1; have q4 := LZC.out.c0; have q5 := LZC.out.c1; clear hv b1) | (go_at_call 9; (with_reducible refine (KMY.out _ ZZC.out YC.out).mono ?_); rintro e v2 ⟨sv2, av2, nv2, cv2, rfl, hv, b1⟩; have M2 := hid hv; have M1 := hid (M1.out.old b1); have CC := hid (CC.out.trans (b1.mono CC.out.size)); (try have NZ := hid (NZ.out.old b1)); have XC := hid (XC.out.old b1); have YC := hid (YC.out.old b1); have ZZC := hid (ZZC.out.old b1); have LXC := hid (LXC.out.old b1); have LYC := hid (LYC.out.old b1); have LZC := hid (LZC.out.old b1); have q0 := LXC.out.c0; have q1 := LXC.out.c1; have q2 := LYC.out.c0; have q3 := LYC.out.c1; have q4 := LZC.out.c0; have q5 := LZC.out.c1; clear hv b1) | (go_at_call 9; (with_reducible refine (KMY.out _ (ZZC.out.old (below_new' (o := .cells #[.bool false, .slice none 0 0] 25))) (YC.out.old (below_new' (o := .cells #[.bool false, .slice none 0 0] 25)))).mono ?_); rintro e v2 ⟨sv2, av2, nv2, cv2, rfl, hv, b1⟩; have M2 := hid hv; have hNZ : W.heap.size ≤ v1.heap.size := CC.out.size; have NZ := hid ((Loc.new (w := v1) (T := 25) (s := false) (v := .slice none 0 0)).old b1); have M1 := hid ((M1.out.old (below_new' (o := .cells #[.bool false, .slice none 0 0] 25))).old b1); have CC := hid ((CC.out.alloc CC.out.size (.cells #[.bool false, .slice none 0 0] 25)).trans (b1.mono (CC.out.alloc CC.out.size (.cells #[.bool false, .slice none 0 0] 25)).size)); have XC := hid (XC.out.old (below_new' (o := .cells #[.bool false, .slice none 0 0] 25))); have YC := hid (YC.out.old (below_new' (o := .cells #[.bool false, .slice none 0 0] 25))); have ZZC := hid (ZZC.out.old (below_new' (o := .cells #[.bool false, .slice none 0 0] 25))); have LXC := hid (LXC.out.old (below_new' (o := .cells #[.bool false, .slice none 0 0] 25))); have LYC := hid (LYC.out.old (below_new' (o := .cells #[.bool false, .slice none 0 0] 25))); have LZC := hid (LZC.out.old (below_new' (o := .cells #[.bool false, .slice none 0 0] 25))); have XC := hid (XC.out.old b1); have YC := hid (YC.out.old b1); have ZZC := hid (ZZC.out.old b1); have LXC := hid (LXC.out.old b1); have LYC := hid (LYC.out.old b1); have LZC := hid (LZC.out.old b1); have q0 := LXC.out.c0; have q1 := LXC.out.c1; have q2 := LYC.out.c0; have q3 := LYC.out.c1; have q4 := LZC.out.c0; have q5 := LZC.out.c1; clear hv b1) | (go_at_call 8; (with_reducible refine (KAQ.out _ _ _ _ _ M1.out M2.out).mono ?_); rintro e v3 ⟨sv3, av3, nv3, cv3, rfl, hv, b1⟩; have M3 := hid hv; (try (have NZ := hid (NZ.out.old b1); have f0 := NZ.out.f0 0; have f1 := NZ.out.f0 1; have p0 := NZ.out.c0; have p1 := NZ.out.c1)); have CC := hid (CC.out.trans (b1.mono CC.out.size)); have LXC := hid (LXC.out.old b1); have LYC := hid (LYC.out.old b1); have LZC := hid (LZC.out.old b1); have q0 := LXC.out.c0; have q1 := LXC.out.c1; have q2 := LYC.out.c0; have q3 := LYC.out.c1; have q4 := LZC.out.c0; have q5 := LZC.out.c1; clear hv b1) | (go_at_call 8; (with_reducible refine (KAQ.out _ _ _ _ _ (M1.out.old (below_new' (o := .cells #[.bool false, .slice none 0 0] 25))) (M2.out.old (below_new' (o := .cells #[.bool false, .slice none 0 0] 25)))).mono ?_); rintro e v3 ⟨sv3, av3, nv3, cv3, rfl, hv, b1⟩; have M3 := hid hv; have hNZ : W.heap.size ≤ v2.heap.size := CC.out.size; have NZ := hid (Loc.new (w := v2) (T := 25) (s := false) (v := .slice none 0 0)); have NZ := hid (NZ.out.old b1); have f0 := NZ.out.f0 0; have f1 := NZ.out.f0 1; have p0 := NZ.out.c0; have p1 := NZ.out.c1; have CC := hid ((CC.out.alloc CC.out.size (.cells #[.bool false, .slice none 0 0] 25)).trans (b1.mono (CC.out.alloc CC.out.size (.cells #[.bool false, .slice none 0 0] 25)).size)); have LXC := hid (LXC.out.old (below_new' (o := .cells #[.bool false, .slice none 0 0] 25))); have LYC := hid (LYC.out.old (below_new' (o := .cells #[.bool false, .slice none 0 0] 25))); have LZC := hid (LZC.out.old (below_new' (o := .cells #[.bool false, .slice none 0 0] 25))); have LXC := hid (LXC.out.old b1); have LYC := hid (LYC.out.old b1); have LZC := hid (LZC.out.old b1); have q0 := LXC.out.c0; have q1 := LXC.out.c1; have q2 := LYC.out.c0; have q3 := LYC.out.c1; have q4 := LZC.out.c0; have q5 := LZC.out.c1; clear hv b1))
    all_goals
      go_wp2_with fail
      go_meet
      first | exact LaidB_a M3.out CC.out | exact LaidB_b (by decide) NZ.out (by omega) M3.out CC.out
  case rest =>
    generalize wc = w6 at hcut ⊢
    obtain ⟨g6, s6, a6, n6, c6, rfl, hL, hv, y1, b1⟩ := hcut
    have LQ := hid hL
    have QQ := hid hv
    have R := hid (R.out.old b1)
    have PP := hid (PP.out.old b1)
    have X := hid (X.out.old b1)
    have LX := hid (LX.out.old b1)
    have Y := hid (Y.out.old b1)
    have LY := hid (LY.out.old b1)
    have ZZ := hid (ZZ.out.old b1)
    have LZ := hid (LZ.out.old b1)
    have SS := hid (SS.out.old b1)
    have LS := hid (LS.out.old b1)
    have P := hid (P.out.old b1)
    have LP := hid (LP.out.old b1)
    have B := hid (B.out.trans (b1.mono B.out.size))
    clear hL hv b1
    go_wp2_with fail
    have R := hid (R.out.old (Below_drew1 (Below.refl w6.heap.size w6)))
    have PP := hid (PP.out.old (Below_drew1 (Below.refl w6.heap.size w6)))
    have X := hid (X.out.old (Below_drew1 (Below.refl w6.heap.size w6)))
    have LX := hid (LX.out.old (Below_drew1 (Below.refl w6.heap.size w6)))
    have Y := hid (Y.out.old (Below_drew1 (Below.refl w6.heap.size w6)))
    have LY := hid (LY.out.old (Below_drew1 (Below.refl w6.heap.size w6)))
    have ZZ := hid (ZZ.out.old (Below_drew1 (Below.refl w6.heap.size w6)))
    have LZ := hid (LZ.out.old (Below_drew1 (Below.refl w6.heap.size w6)))
    have SS := hid (SS.out.old (Below_drew1 (Below.refl w6.heap.size w6)))
    have LS := hid (LS.out.old (Below_drew1 (Below.refl w6.heap.size w6)))
    have P := hid (P.out.old (Below_drew1 (Below.refl w6.heap.size w6)))
    have LP := hid (LP.out.old (Below_drew1 (Below.refl w6.heap.size w6)))
    have LQ := hid (LQ.out.old (Below_drew1 (Below.refl w6.heap.size w6)))
    have QQ := hid (QQ.out.old (Below_drew1 (Below.refl w6.heap.size w6)))
    have B := hid (Below_drew1 B.out)
    have hwd : IntKind.i64.wrap (-d) = -d := IntWalk.i64_in _ (by omega)
    have q0 := LS.out.c0
    have q1 := LS.out.c1
    have q2 := LP.out.c0
    have q3 := LP.out.c1
    have q4 := LQ.out.c0
    have q5 := LQ.out.c1
    have q6 := LY.out.c0
    have q7 := LY.out.c1
    have q8 := LX.out.c0
    have q9 := LX.out.c1
    go_region_held3 (fun w' => w'.cell? ⟨w4.heap.size, 0, none⟩ = some (.bool s4) ∧ w'.cell? ⟨w4.heap.size, 1, none⟩ = some (.slice a4 n4 c4) ∧ w'.cell? ⟨w5.heap.size, 0, none⟩ = some (.bool s5) ∧ w'.cell? ⟨w5.heap.size, 1, none⟩ = some (.slice a5 n5 c5) ∧ w'.cell? ⟨g6, 0, none⟩ = some (.bool s6) ∧ w'.cell? ⟨g6, 1, none⟩ = some (.slice a6 n6 c6) ∧ w'.cell? ⟨w2.heap.size, 0, none⟩ = some (.bool s2) ∧ w'.cell? ⟨w2.heap.size, 1, none⟩ = some (.slice a2 n2 c2) ∧ w'.cell? ⟨w1.heap.size, 0, none⟩ = some (.bool s1) ∧ w'.cell? ⟨w1.heap.size, 1, none⟩ = some (.slice a1 n1 c1)) (first | exact ⟨q0, q1, q2, q3, q4, q5, q6, q7, q8, q9⟩) (first | (go_at_call 10; (with_reducible refine (ok_big SS.out).mono ?_); rintro e wn ⟨rfl, b1⟩; have R := hid (R.out.old b1); have PP := hid (PP.out.old b1); have X := hid (X.out.old b1); have LX := hid (LX.out.old b1); have Y := hid (Y.out.old b1); have LY := hid (LY.out.old b1); have ZZ := hid (ZZ.out.old b1); have LZ := hid (LZ.out.old b1); have SS := hid (SS.out.old b1); have LS := hid (LS.out.old b1); have P := hid (P.out.old b1); have LP := hid (LP.out.old b1); have LQ := hid (LQ.out.old b1); have QQ := hid (QQ.out.old b1); have B := hid (B.out.trans (b1.mono B.out.size)); have q0 := LS.out.c0; have q1 := LS.out.c1; have q2 := LP.out.c0; have q3 := LP.out.c1; have q4 := LQ.out.c0; have q5 := LQ.out.c1; have q6 := LY.out.c0; have q7 := LY.out.c1; have q8 := LX.out.c0; have q9 := LX.out.c1; clear b1) | (go_at_call 10; (with_reducible refine (ok_big P.out).mono ?_); rintro e wn ⟨rfl, b1⟩; have R := hid (R.out.old b1); have PP := hid (PP.out.old b1); have X := hid (X.out.old b1); have LX := hid (LX.out.old b1); have Y := hid (Y.out.old b1); have LY := hid (LY.out.old b1); have ZZ := hid (ZZ.out.old b1); have LZ := hid (LZ.out.old b1); have SS := hid (SS.out.old b1); have LS := hid (LS.out.old b1); have P := hid (P.out.old b1); have LP := hid (LP.out.old b1); have LQ := hid (LQ.out.old b1); have QQ := hid (QQ.out.old b1); have B := hid (B.out.trans (b1.mono B.out.size)); have q0 := LS.out.c0; have q1 := LS.out.c1; have q2 := LP.out.c0; have q3 := LP.out.c1; have q4 := LQ.out.c0; have q5 := LQ.out.c1; have q6 := LY.out.c0; have q7 := LY.out.c1; have q8 := LX.out.c0; have q9 := LX.out.c1; clear b1) | (go_at_call 11; (with_reducible refine (fmt_big P.out PP.out HZP.out).mono ?_); rintro e wn ⟨rfl, b1⟩; have R := hid (R.out.old b1); have PP := hid (PP.out.old b1); have X := hid (X.out.old b1); have LX := hid (LX.out.old b1); have Y := hid (Y.out.old b1); have LY := hid (LY.out.old b1); have ZZ := hid (ZZ.out.old b1); have LZ := hid (LZ.out.old b1); have SS := hid (SS.out.old b1); have LS := hid (LS.out.old b1); have P := hid (P.out.old b1); have LP := hid (LP.out.old b1); have LQ := hid (LQ.out.old b1); have QQ := hid (QQ.out.old b1); have B := hid (B.out.trans (b1.mono B.out.size)); have q0 := LS.out.c0; have q1 := LS.out.c1; have q2 := LP.out.c0; have q3 := LP.out.c1; have q4 := LQ.out.c0; have q5 := LQ.out.c1; have q6 := LY.out.c0; have q7 := LY.out.c1; have q8 := LX.out.c0; have q9 := LX.out.c1; clear b1) | (go_at_call 11; (with_reducible refine (fmt_big QQ.out PP.out HZP.out).mono ?_); rintro e wn ⟨rfl, b1⟩; have R := hid (R.out.old b1); have PP := hid (PP.out.old b1); have X := hid (X.out.old b1); have LX := hid (LX.out.old b1); have Y := hid (Y.out.old b1); have LY := hid (LY.out.old b1); have ZZ := hid (ZZ.out.old b1); have LZ := hid (LZ.out.old b1); have SS := hid (SS.out.old b1); have LS := hid (LS.out.old b1); have P := hid (P.out.old b1); have LP := hid (LP.out.old b1); have LQ := hid (LQ.out.old b1); have QQ := hid (QQ.out.old b1); have B := hid (B.out.trans (b1.mono B.out.size)); have q0 := LS.out.c0; have q1 := LS.out.c1; have q2 := LP.out.c0; have q3 := LP.out.c1; have q4 := LQ.out.c0; have q5 := LQ.out.c1; have q6 := LY.out.c0; have q7 := LY.out.c1; have q8 := LX.out.c0; have q9 := LX.out.c1; clear b1) | (go_at_call 12; (with_reducible refine (sub_big SS.out Y.out F.out.2.2.2.2.2.2.1).mono ?_); rintro e wn ⟨st1, at1, nt1, ct1, rfl, hv, b1⟩; rw [F.out.2.2.2.2.2.2.2] at hv; have T1 := hid hv; have R := hid (R.out.old b1); have PP := hid (PP.out.old b1); have X := hid (X.out.old b1); have LX := hid (LX.out.old b1); have Y := hid (Y.out.old b1); have LY := hid (LY.out.old b1); have ZZ := hid (ZZ.out.old b1); have LZ := hid (LZ.out.old b1); have SS := hid (SS.out.old b1); have LS := hid (LS.out.old b1); have P := hid (P.out.old b1); have LP := hid (LP.out.old b1); have LQ := hid (LQ.out.old b1); have QQ := hid (QQ.out.old b1); have B := hid (B.out.trans (b1.mono B.out.size)); have q0 := LS.out.c0; have q1 := LS.out.c1; have q2 := LP.out.c0; have q3 := LP.out.c1; have q4 := LQ.out.c0; have q5 := LQ.out.c1; have q6 := LY.out.c0; have q7 := LY.out.c1; have q8 := LX.out.c0; have q9 := LX.out.c1; clear hv b1) | (go_at_call 11; (with_reducible refine (fmt_big T1.out PP.out HZX.out).mono ?_); rintro e wn ⟨rfl, b1⟩; have R := hid (R.out.old b1); have PP := hid (PP.out.old b1); have X := hid (X.out.old b1); have LX := hid (LX.out.old b1); have Y := hid (Y.out.old b1); have LY := hid (LY.out.old b1); have ZZ := hid (ZZ.out.old b1); have LZ := hid (LZ.out.old b1); have SS := hid (SS.out.old b1); have LS := hid (LS.out.old b1); have P := hid (P.out.old b1); have LP := hid (LP.out.old b1); have LQ := hid (LQ.out.old b1); have QQ := hid (QQ.out.old b1); have B := hid (B.out.trans (b1.mono B.out.size)); have q0 := LS.out.c0; have q1 := LS.out.c1; have q2 := LP.out.c0; have q3 := LP.out.c1; have q4 := LQ.out.c0; have q5 := LQ.out.c1; have q6 := LY.out.c0; have q7 := LY.out.c1; have q8 := LX.out.c0; have q9 := LX.out.c1; clear b1) | (go_at_call 11; (with_reducible refine (fmt_big X.out PP.out HZX.out).mono ?_); rintro e wn ⟨rfl, b1⟩; have R := hid (R.out.old b1); have PP := hid (PP.out.old b1); have X := hid (X.out.old b1); have LX := hid (LX.out.old b1); have Y := hid (Y.out.old b1); have LY := hid (LY.out.old b1); have ZZ := hid (ZZ.out.old b1); have LZ := hid (LZ.out.old b1); have SS := hid (SS.out.old b1); have LS := hid (LS.out.old b1); have P := hid (P.out.old b1); have LP := hid (LP.out.old b1); have LQ := hid (LQ.out.old b1); have QQ := hid (QQ.out.old b1); have B := hid (B.out.trans (b1.mono B.out.size)); have q0 := LS.out.c0; have q1 := LS.out.c1; have q2 := LP.out.c0; have q3 := LP.out.c1; have q4 := LQ.out.c0; have q5 := LQ.out.c1; have q6 := LY.out.c0; have q7 := LY.out.c1; have q8 := LX.out.c0; have q9 := LX.out.c1; clear b1) | (go_at_call 13; (with_reducible refine (cmp_big X.out Y.out HDN.out).mono ?_); rintro e wn ⟨rfl, b1⟩; have R := hid (R.out.old b1); have PP := hid (PP.out.old b1); have X := hid (X.out.old b1); have LX := hid (LX.out.old b1); have Y := hid (Y.out.old b1); have LY := hid (LY.out.old b1); have ZZ := hid (ZZ.out.old b1); have LZ := hid (LZ.out.old b1); have SS := hid (SS.out.old b1); have LS := hid (LS.out.old b1); have P := hid (P.out.old b1); have LP := hid (LP.out.old b1); have LQ := hid (LQ.out.old b1); have QQ := hid (QQ.out.old b1); have B := hid (B.out.trans (b1.mono B.out.size)); have q0 := LS.out.c0; have q1 := LS.out.c1; have q2 := LP.out.c0; have q3 := LP.out.c1; have q4 := LQ.out.c0; have q5 := LQ.out.c1; have q6 := LY.out.c0; have q7 := LY.out.c1; have q8 := LX.out.c0; have q9 := LX.out.c1; clear b1) | (go_at_call 14; (with_reducible refine (neg_big X.out).mono ?_); rintro e wn ⟨st2, at2, nt2, ct2, rfl, hv, b1⟩; have T2 := hid hv; have R := hid (R.out.old b1); have PP := hid (PP.out.old b1); have X := hid (X.out.old b1); have LX := hid (LX.out.old b1); have Y := hid (Y.out.old b1); have LY := hid (LY.out.old b1); have ZZ := hid (ZZ.out.old b1); have LZ := hid (LZ.out.old b1); have SS := hid (SS.out.old b1); have LS := hid (LS.out.old b1); have P := hid (P.out.old b1); have LP := hid (LP.out.old b1); have LQ := hid (LQ.out.old b1); have QQ := hid (QQ.out.old b1); have B := hid (B.out.trans (b1.mono B.out.size)); have q0 := LS.out.c0; have q1 := LS.out.c1; have q2 := LP.out.c0; have q3 := LP.out.c1; have q4 := LQ.out.c0; have q5 := LQ.out.c1; have q6 := LY.out.c0; have q7 := LY.out.c1; have q8 := LX.out.c0; have q9 := LX.out.c1; clear hv b1) | (go_at_call 14; (with_reducible refine (neg_big Y.out).mono ?_); rintro e wn ⟨st3, at3, nt3, ct3, rfl, hv, b1⟩; have T3 := hid hv; have T2 := hid (T2.out.old b1); have R := hid (R.out.old b1); have PP := hid (PP.out.old b1); have X := hid (X.out.old b1); have LX := hid (LX.out.old b1); have Y := hid (Y.out.old b1); have LY := hid (LY.out.old b1); have ZZ := hid (ZZ.out.old b1); have LZ := hid (LZ.out.old b1); have SS := hid (SS.out.old b1); have LS := hid (LS.out.old b1); have P := hid (P.out.old b1); have LP := hid (LP.out.old b1); have LQ := hid (LQ.out.old b1); have QQ := hid (QQ.out.old b1); have B := hid (B.out.trans (b1.mono B.out.size)); have q0 := LS.out.c0; have q1 := LS.out.c1; have q2 := LP.out.c0; have q3 := LP.out.c1; have q4 := LQ.out.c0; have q5 := LQ.out.c1; have q6 := LY.out.c0; have q7 := LY.out.c1; have q8 := LX.out.c0; have q9 := LX.out.c1; clear hv b1) | (go_at_call 13; (with_reducible refine (cmp_big T2.out T3.out HD.out).mono ?_); rintro e wn ⟨rfl, b1⟩; have R := hid (R.out.old b1); have PP := hid (PP.out.old b1); have X := hid (X.out.old b1); have LX := hid (LX.out.old b1); have Y := hid (Y.out.old b1); have LY := hid (LY.out.old b1); have ZZ := hid (ZZ.out.old b1); have LZ := hid (LZ.out.old b1); have SS := hid (SS.out.old b1); have LS := hid (LS.out.old b1); have P := hid (P.out.old b1); have LP := hid (LP.out.old b1); have LQ := hid (LQ.out.old b1); have QQ := hid (QQ.out.old b1); have B := hid (B.out.trans (b1.mono B.out.size)); have q0 := LS.out.c0; have q1 := LS.out.c1; have q2 := LP.out.c0; have q3 := LP.out.c1; have q4 := LQ.out.c0; have q5 := LQ.out.c1; have q6 := LY.out.c0; have q7 := LY.out.c1; have q8 := LX.out.c0; have q9 := LX.out.c1; clear b1) | (go_at_call 15; (with_reducible refine (of_big (n := -7) (by decide) (by decide) _).mono ?_); rintro e wn ⟨st4, at4, nt4, ct4, rfl, hv, b1⟩; have T4 := hid hv; have R := hid (R.out.old b1); have PP := hid (PP.out.old b1); have X := hid (X.out.old b1); have LX := hid (LX.out.old b1); have Y := hid (Y.out.old b1); have LY := hid (LY.out.old b1); have ZZ := hid (ZZ.out.old b1); have LZ := hid (LZ.out.old b1); have SS := hid (SS.out.old b1); have LS := hid (LS.out.old b1); have P := hid (P.out.old b1); have LP := hid (LP.out.old b1); have LQ := hid (LQ.out.old b1); have QQ := hid (QQ.out.old b1); have B := hid (B.out.trans (b1.mono B.out.size)); have q0 := LS.out.c0; have q1 := LS.out.c1; have q2 := LP.out.c0; have q3 := LP.out.c1; have q4 := LQ.out.c0; have q5 := LQ.out.c1; have q6 := LY.out.c0; have q7 := LY.out.c1; have q8 := LX.out.c0; have q9 := LX.out.c1; clear hv b1) | (go_at_call 11; (with_reducible refine (fmt_big T4.out PP.out fmt_m7.symm).mono ?_); rintro e wn ⟨rfl, b1⟩; have R := hid (R.out.old b1); have PP := hid (PP.out.old b1); have X := hid (X.out.old b1); have LX := hid (LX.out.old b1); have Y := hid (Y.out.old b1); have LY := hid (LY.out.old b1); have ZZ := hid (ZZ.out.old b1); have LZ := hid (LZ.out.old b1); have SS := hid (SS.out.old b1); have LS := hid (LS.out.old b1); have P := hid (P.out.old b1); have LP := hid (LP.out.old b1); have LQ := hid (LQ.out.old b1); have QQ := hid (QQ.out.old b1); have B := hid (B.out.trans (b1.mono B.out.size)); have q0 := LS.out.c0; have q1 := LS.out.c1; have q2 := LP.out.c0; have q3 := LP.out.c1; have q4 := LQ.out.c0; have q5 := LQ.out.c1; have q6 := LY.out.c0; have q7 := LY.out.c1; have q8 := LX.out.c0; have q9 := LX.out.c1; clear b1))
    go_wp2
    go_ret
    exact ⟨rfl, B.out⟩

end Go.Proofs.YtleechafachkaaaDoor

/- The walk of the law FnMods. -/
namespace Go.Proofs.YtleechafachkaaaDoor
open Go.RowKit
open Go.Lib (hid)
set_option linter.unusedVariables false

theorem NumO.form {w : World} {v : Value} {V : Int} (h : NumO w v V) : ∃ (a : Option Addr) (n c : Nat), v = .slice a n c := by
  obtain ⟨L, lo, hi, o, a, b⟩ := h
  obtain ⟨x, y, e, -⟩ := Ints_form o.ints
  exact ⟨x, _, y, e⟩
theorem NumO_one {w : World} : NumO (w.alloc (.cells #[.int .i64 1] 3)) (.slice (some ⟨w.heap.size, 0, none⟩) 1 1) 1 :=
  ⟨[1], w.heap.size, w.heap.size + 1, ⟨⟨rfl, .inr ⟨w.heap.size, 1, #[.int .i64 1], rfl, Nat.le_refl _, heap_alloc_new w _, Nat.le_refl _, by decide, rfl, rfl⟩⟩, fun k hk => by simp [Value.ownBlock] at hk; omega⟩, by decide, rfl⟩
def FdB (q r : Int) (w : World) (e : Ending) (w' : World) : Prop := ∃ s a n c a' n' c', e = .returned (.tuple #[.agg #[.bool s, .slice a n c], .slice a' n' c']) ∧ BigV w' s (.slice a n c) q ∧ NumO w' (.slice a' n' c') r ∧ Below w.heap.size w w'
theorem fd_big {w : World} {s : Bool} {u v : Value} {X M : Int} (h1 : BigV w s u X) (h2 : NumO w v M) (hM : 0 < M) :
    Calls Tryd.prog 18 #[.agg #[.bool s, u], v] w (FdB (X / M) (X % M) w) := by
  have hX := h1.bound
  have hMb := h2.nonneg
  obtain ⟨A, l1, u1, o1, a1, rfl⟩ := h1
  obtain ⟨B, l2, u2, o2, a2, rfl⟩ := h2
  have hne : B ≠ [] := by
    intro e
    subst e
    simp [val] at hM
  refine (impl_BigIntFloorDiv s u v A B (big_len a1) (nok_big a2) _ _ w o1.ints o2.ints).mono fun e w' h => ?_
  obtain ⟨e1, e2⟩ := fd_yes a1 a2 hne
  rw [e1, e2] at h
  obtain ⟨z, r, he, hi, hr, -, hb⟩ := h
  have hq : ((sval s (val A) / val B).natAbs : Int) < pw 60 := by
    have := Int.natAbs_ediv_le_natAbs (sval s (val A)) (val B)
    omega
  have hr0 := Int.emod_nonneg (sval s (val A)) (show val B ≠ 0 by omega)
  have hr1 := Int.emod_lt_of_pos (sval s (val A)) hM
  have hrn := nok_rep (V := sval s (val A) % val B) hr0 (by omega)
  obtain ⟨g1, g2⟩ := gz_ok hq
  obtain ⟨az, cz, rfl, -⟩ := Ints_form hi
  obtain ⟨ar, cr, rfl, -⟩ := Ints_form hr
  exact ⟨_, _, _, _, _, _, _, he, ⟨_, _, _, Obj.of hi, g1, g2⟩, ⟨_, _, _, Obj.of hr, hrn.1, hrn.2⟩, hb⟩

set_option maxRecDepth 100000 in
set_option maxHeartbeats 12800000 in
theorem law_Mods (a : Option Addr) (n c : Nat) (Z : List Int) (hn : n ≤ maxLen) (w : World) (hr : ByteRow w a n Z) (hp : Pow10 w) :
    Calls Tryd.prog 4 #[.slice a n c] w (RetB (.bool true) w) := by
  unfold maxLen at hn
  by_cases hA : 1048576 < (n : Int)
  · go_enter Tryd.func4, Tryd.ntmps4
    go_wp2
    go_ret
    exact ⟨rfl, Below.refl _ _⟩
  have hZ : Z.length ≤ 1048576 := by have := hr.1; omega
  have KM := hid (fun (W : World) (h : ByteRow W a n Z) (t : Int) t0 t1 => make_big a n c Z t hZ W h t0 t1)
  have R := hid hr
  have PP := hid hp
  have B := hid (Below.refl w.heap.size w)
  have KN := hid (fun (W : World) (h : ByteRow W a n Z) (t : Int) t0 t1 => make_num a n c Z t hZ W h t0 t1)
  clear hr hp
  go_enter Tryd.func4, Tryd.ntmps4
  go_wp2_with fail
  (with_reducible refine (KM.out _ R.out 1 (by decide) (by decide)).mono ?_)
  rintro e w1 ⟨x, s1, a1, n1, c1, x0, x1, rfl, hv, b1⟩
  have X := hid hv
  have R := hid (R.out.old b1)
  have PP := hid (PP.out.old b1)
  have B := hid (B.out.trans (b1.mono B.out.size))
  clear hv b1
  have R := hid (R.out.old (below_new' (o := .cells #[.bool s1, .slice a1 n1 c1] 25)))
  have PP := hid (PP.out.old (below_new' (o := .cells #[.bool s1, .slice a1 n1 c1] 25)))
  have X := hid (X.out.old (below_new' (o := .cells #[.bool s1, .slice a1 n1 c1] 25)))
  have B := hid (B.out.alloc B.out.size (.cells #[.bool s1, .slice a1 n1 c1] 25))
  have LX := hid (Loc.new (w := w1) (T := 25) (s := s1) (v := .slice a1 n1 c1))
  go_wp2_with fail
  (with_reducible refine (KN.out _ R.out 2 (by decide) (by decide)).mono ?_)
  rintro e w2 ⟨v2, y, rfl, y0, y1, hv, b1⟩
  have M0 := hid hv
  obtain ⟨a2, n2, c2, rfl⟩ := hv.form
  have R := hid (R.out.old b1)
  have PP := hid (PP.out.old b1)
  have X := hid (X.out.old b1)
  have LX := hid (LX.out.old b1)
  have B := hid (B.out.trans (b1.mono B.out.size))
  clear hv b1
  have R := hid (R.out.old (below_new' (o := .cells #[.int .i64 1] 3)))
  have PP := hid (PP.out.old (below_new' (o := .cells #[.int .i64 1] 3)))
  have X := hid (X.out.old (below_new' (o := .cells #[.int .i64 1] 3)))
  have LX := hid (LX.out.old (below_new' (o := .cells #[.int .i64 1] 3)))
  have M0 := hid (M0.out.old (below_new' (o := .cells #[.int .i64 1] 3)))
  have B := hid (B.out.alloc B.out.size (.cells #[.int .i64 1] 3))
  have ONE := hid (NumO_one (w := w2))
  obtain ⟨p1, p2, p3, p4, p5⟩ := pw_facts
  have p6 : pw 4 + pw 4 < pw 60 := by decide
  have F := hid (show y + 1 < pw 60 ∧ 0 < y + 1 ∧ x % (y + 1) < y + 1 ∧ ((x / (y + 1) * (y + 1)).natAbs : Int) < pw 60 ∧ x / (y + 1) * (y + 1) + x % (y + 1) = x ∧ ((x / (y + 1) * (y + 1) + x % (y + 1)).natAbs : Int) < pw 60 by
    have a1 := Int.emod_lt_of_pos x (show 0 < y + 1 by omega)
    have a2 := Int.emod_add_ediv_mul x (y + 1)
    have a3 := Int.emod_nonneg x (show y + 1 ≠ 0 by omega)
    omega)
  clear p1 p2 p3 p4 p5 p6 x0 x1 y0 y1 KM KN
  go_wp2_with fail
  (with_reducible refine (add_num M0.out ONE.out F.out.1).mono ?_)
  rintro e w3 ⟨v3, rfl, hv, b1⟩
  have M := hid hv
  obtain ⟨a3, n3, c3, rfl⟩ := hv.form
  have PP := hid (PP.out.old b1)
  have X := hid (X.out.old b1)
  have LX := hid (LX.out.old b1)
  have B := hid (B.out.trans (b1.mono B.out.size))
  clear hv b1
  have q0 := LX.out.c0
  have q1 := LX.out.c1
  go_wp2_with fail
  (with_reducible refine (fd_big X.out M.out F.out.2.1).mono ?_)
  clear q0 q1
  rintro e w4 ⟨s4, a4, n4, c4, e4, m4, d4, rfl, hv, hr, b1⟩
  have Q := hid hv
  have RR := hid hr
  have PP := hid (PP.out.old b1)
  have X := hid (X.out.old b1)
  have LX := hid (LX.out.old b1)
  have M := hid (M.out.old b1)
  have B := hid (B.out.trans (b1.mono B.out.size))
  clear hv hr b1
  have PP := hid (PP.out.old (below_new' (o := .cells #[.bool s4, .slice a4 n4 c4] 25)))
  have X := hid (X.out.old (below_new' (o := .cells #[.bool s4, .slice a4 n4 c4] 25)))
  have LX := hid (LX.out.old (below_new' (o := .cells #[.bool s4, .slice a4 n4 c4] 25)))
  have M := hid (M.out.old (below_new' (o := .cells #[.bool s4, .slice a4 n4 c4] 25)))
  have Q := hid (Q.out.old (below_new' (o := .cells #[.bool s4, .slice a4 n4 c4] 25)))
  have RR := hid (RR.out.old (below_new' (o := .cells #[.bool s4, .slice a4 n4 c4] 25)))
  have B := hid (B.out.alloc B.out.size (.cells #[.bool s4, .slice a4 n4 c4] 25))
  have LQ := hid (Loc.new (w := w4) (T := 25) (s := s4) (v := .slice a4 n4 c4))
  have q0 := LQ.out.c0
  have q1 := LQ.out.c1
  go_wp2_with fail
  (with_reducible refine (mul_big Q.out (BigV.ofNum M.out) F.out.2.2.2.1).mono ?_)
  clear q0 q1
  rintro e w5 ⟨s5, a5, n5, c5, rfl, hv, b1⟩
  have T := hid hv
  have PP := hid (PP.out.old b1)
  have X := hid (X.out.old b1)
  have LX := hid (LX.out.old b1)
  have M := hid (M.out.old b1)
  have Q := hid (Q.out.old b1)
  have RR := hid (RR.out.old b1)
  have LQ := hid (LQ.out.old b1)
  have B := hid (B.out.trans (b1.mono B.out.size))
  clear hv b1
  go_wp2_with fail
  (with_reducible refine (add_big T.out (BigV.ofNum RR.out) F.out.2.2.2.2.2).mono ?_)
  rintro e w6 ⟨s6, a6, n6, c6, rfl, hv, b1⟩
  have BK := hid hv
  have PP := hid (PP.out.old b1)
  have X := hid (X.out.old b1)
  have LX := hid (LX.out.old b1)
  have M := hid (M.out.old b1)
  have Q := hid (Q.out.old b1)
  have RR := hid (RR.out.old b1)
  have LQ := hid (LQ.out.old b1)
  have T := hid (T.out.old b1)
  have B := hid (B.out.trans (b1.mono B.out.size))
  clear hv b1
  rw [F.out.2.2.2.2.1] at BK
  have PP := hid (PP.out.old (below_new' (o := .cells #[.bool s6, .slice a6 n6 c6] 25)))
  have X := hid (X.out.old (below_new' (o := .cells #[.bool s6, .slice a6 n6 c6] 25)))
  have LX := hid (LX.out.old (below_new' (o := .cells #[.bool s6, .slice a6 n6 c6] 25)))
  have M := hid (M.out.old (below_new' (o := .cells #[.bool s6, .slice a6 n6 c6] 25)))
  have RR := hid (RR.out.old (below_new' (o := .cells #[.bool s6, .slice a6 n6 c6] 25)))
  have BK := hid (BK.out.old (below_new' (o := .cells #[.bool s6, .slice a6 n6 c6] 25)))
  have B := hid (B.out.alloc B.out.size (.cells #[.bool s6, .slice a6 n6 c6] 25))
  have LB := hid (Loc.new (w := w6) (T := 25) (s := s6) (v := .slice a6 n6 c6))
  obtain ⟨zx, hzx⟩ : ∃ r, r = fmtZ x := ⟨_, rfl⟩
  have HZX := hid hzx
  clear hzx
  obtain ⟨W, hW⟩ : ∃ W, W = w6.alloc (.cells #[.bool s6, .slice a6 n6 c6] 25) := ⟨_, rfl⟩
  go_upto_region 7 with fail
  rw [← hW] at PP X LX M RR BK LB B ⊢
  clear hW
  have PP := hid (PP.out.old (Below_drew1 (Below.refl W.heap.size W)))
  have X := hid (X.out.old (Below_drew1 (Below.refl W.heap.size W)))
  have LX := hid (LX.out.old (Below_drew1 (Below.refl W.heap.size W)))
  have M := hid (M.out.old (Below_drew1 (Below.refl W.heap.size W)))
  have RR := hid (RR.out.old (Below_drew1 (Below.refl W.heap.size W)))
  have BK := hid (BK.out.old (Below_drew1 (Below.refl W.heap.size W)))
  have LB := hid (LB.out.old (Below_drew1 (Below.refl W.heap.size W)))
  have B := hid (Below_drew1 B.out)
  have q0 := LB.out.c0
  have q1 := LB.out.c1
  have q2 := LX.out.c0
  have q3 := LX.out.c1
  go_region_held3 (fun w' => w'.cell? ⟨w6.heap.size, 0, none⟩ = some (.bool s6) ∧ w'.cell? ⟨w6.heap.size, 1, none⟩ = some (.slice a6 n6 c6) ∧ w'.cell? ⟨w1.heap.size, 0, none⟩ = some (.bool s1) ∧ w'.cell? ⟨w1.heap.size, 1, none⟩ = some (.slice a1 n1 c1)) (first | exact ⟨q0, q1, q2, q3⟩) (first | (go_at_call 19; (with_reducible refine (cmp_num RR.out M.out (sgn_neg F.out.2.2.1)).mono ?_); rintro e wn ⟨rfl, b1⟩; have PP := hid (PP.out.old b1); have X := hid (X.out.old b1); have LX := hid (LX.out.old b1); have M := hid (M.out.old b1); have RR := hid (RR.out.old b1); have BK := hid (BK.out.old b1); have LB := hid (LB.out.old b1); have B := hid (B.out.trans (b1.mono B.out.size)); have q0 := LB.out.c0; have q1 := LB.out.c1; have q2 := LX.out.c0; have q3 := LX.out.c1; clear b1) | (go_at_call 20; (with_reducible refine (ok_num RR.out).mono ?_); rintro e wn ⟨rfl, b1⟩; have PP := hid (PP.out.old b1); have X := hid (X.out.old b1); have LX := hid (LX.out.old b1); have M := hid (M.out.old b1); have RR := hid (RR.out.old b1); have BK := hid (BK.out.old b1); have LB := hid (LB.out.old b1); have B := hid (B.out.trans (b1.mono B.out.size)); have q0 := LB.out.c0; have q1 := LB.out.c1; have q2 := LX.out.c0; have q3 := LX.out.c1; clear b1) | (go_at_call 13; (with_reducible refine (cmp_big BK.out X.out (sgn_zero rfl)).mono ?_); rintro e wn ⟨rfl, b1⟩; have PP := hid (PP.out.old b1); have X := hid (X.out.old b1); have LX := hid (LX.out.old b1); have M := hid (M.out.old b1); have RR := hid (RR.out.old b1); have BK := hid (BK.out.old b1); have LB := hid (LB.out.old b1); have B := hid (B.out.trans (b1.mono B.out.size)); have q0 := LB.out.c0; have q1 := LB.out.c1; have q2 := LX.out.c0; have q3 := LX.out.c1; clear b1) | (go_at_call 11; (with_reducible refine (fmt_big BK.out PP.out HZX.out).mono ?_); rintro e wn ⟨rfl, b1⟩; have PP := hid (PP.out.old b1); have X := hid (X.out.old b1); have LX := hid (LX.out.old b1); have M := hid (M.out.old b1); have RR := hid (RR.out.old b1); have BK := hid (BK.out.old b1); have LB := hid (LB.out.old b1); have B := hid (B.out.trans (b1.mono B.out.size)); have q0 := LB.out.c0; have q1 := LB.out.c1; have q2 := LX.out.c0; have q3 := LX.out.c1; clear b1) | (go_at_call 11; (with_reducible refine (fmt_big X.out PP.out HZX.out).mono ?_); rintro e wn ⟨rfl, b1⟩; have PP := hid (PP.out.old b1); have X := hid (X.out.old b1); have LX := hid (LX.out.old b1); have M := hid (M.out.old b1); have RR := hid (RR.out.old b1); have BK := hid (BK.out.old b1); have LB := hid (LB.out.old b1); have B := hid (B.out.trans (b1.mono B.out.size)); have q0 := LB.out.c0; have q1 := LB.out.c1; have q2 := LX.out.c0; have q3 := LX.out.c1; clear b1))
  go_wp2
  go_ret
  exact ⟨rfl, B.out⟩

end Go.Proofs.YtleechafachkaaaDoor
