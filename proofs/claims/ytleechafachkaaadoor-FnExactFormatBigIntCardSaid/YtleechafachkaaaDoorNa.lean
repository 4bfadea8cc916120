/- The walk of the law FnExactFormatBigInt. -/
import Derived.Test.YtleechafachkaaaDoorFb
import Derived.Deep.RegionHeld3
import Derived.Deep.DeepCutAuto
namespace Go.Proofs.YtleechafachkaaaDoor
open Go.RowKit
open Go.Lib (hid)
set_option linter.unusedVariables false

theorem Obj_at {w' : World} {v : Value} {L : List Int} {B lo : Nat} (h : Ints w' B v L) (hlo : lo ≤ B) : Obj w' v L lo w'.heap.size := ⟨Ints_base h hlo, fun k hk => (Ints_lt h k hk).2⟩
theorem Obj_drew1 {w : World} {v : Value} {L : List Int} {lo hi : Nat} (h : Obj w v L lo hi) : Obj w.drew v L lo hi := ⟨h.ints, h.high⟩

theorem Pow10.old {w w' : World} (h : Pow10 w) (hb : Below w.heap.size w w') : Pow10 w' := pow_below h hb

set_option maxRecDepth 100000 in
set_option maxHeartbeats 12800000 in
theorem law_FormatBigInt (s : Bool) (a : Option Addr) (n c : Nat) (A : List Int) (hm0 : n ≤ maxLen) (w : World) (r0 : RowI w a n A) (hp : Pow10 w) :
    Calls Tryd.prog 5 #[.agg #[.bool s, .slice a n c]] w (RetB (.bool true) w) := by
  have h0 : A.length ≤ n := by have := r0.1; omega
  have X := hid ((Came.of r0).old (below_new' (w := w) (o := .cells #[.bool s, .slice a n c] 40)))
  have PP := hid (hp.old (below_new' (w := w) (o := .cells #[.bool s, .slice a n c] 40)))
  clear hp
  have B := hid (below_new' (w := w) (o := .cells #[.bool s, .slice a n c] 40))
  have LX := hid (Loc.at (T := 40) (w := w) (b := w.heap.size) (s := s) (v := .slice a n c) rfl)
  have hsz : w.heap.size + 1 ≤ (w.alloc (.cells #[.bool s, .slice a n c] 40)).heap.size := by simp
  clear r0
  generalize hW : w.alloc (.cells #[.bool s, .slice a n c] 40) = W0 at X B LX hsz PP
  have HW := hid hW
  clear hW
  by_cases hA : 1048576 < (n : Int)
  · have K := hid (szBigInt_no s a n c 1048576 hm0 hA (by decide) (by decide))
    go_enter Tryd.func5, Tryd.ntmps5
    go_wp2_with fail
    rw [HW.out]
    (with_reducible refine (K.out _).mono ?_)
    rintro e w1 ⟨rfl, b1⟩
    have B := hid (B.out.trans (b1.mono B.out.size))
    clear b1
    go_wp2
    go_ret
    exact ⟨rfl, B.out⟩
  have hlA : A.length ≤ 1048576 := by omega
  clear h0
  have KZ := hid (szBigInt_yes s a n c 1048576 (by omega) (by decide))
  have hge : ¬ 1048576 - (n : Int) < 0 := by omega
  have KX := hid (fun (W : World) (h : Came W w.heap.size a n A) => toBigInt_came s a n c _ A (by omega) W h)
  have KS := hid (fun (W : World) (v : Value) (b1 : Nat) (h1 : Ints W b1 v A) => spec_FormatBigInt s v A (by omega) b1 W h1)
  have KI := hid (fun (W : World) (v : Value) (b1 : Nat) (h1 : Ints W b1 v A) (hp : Pow10 W) => impl_FormatBigInt s v A (by omega) b1 W h1 hp)
  obtain ⟨z, hz⟩ : ∃ z, z = fmtB s A := ⟨_, rfl⟩
  rw [← hz] at KS KI
  clear hz
  go_enter Tryd.func5, Tryd.ntmps5
  go_wp2_with fail
  rw [HW.out]
  (with_reducible refine (KZ.out _).mono ?_)
  rintro e w1 ⟨rfl, b1⟩
  have t1 : w.heap.size + 1 ≤ w1.heap.size := by have := b1.size; omega
  have X := hid (X.out.old b1)
  have LX := hid (LX.out.old b1)
  have PP := hid (PP.out.old b1)
  have B := hid (B.out.trans (b1.mono B.out.size))
  clear b1
  have q0 := LX.out.c0
  have q1 := LX.out.c1
  go_wp2_with fail
  (with_reducible refine (KX.out _ X.out).mono ?_)
  clear q0 q1
  rintro e w2 ⟨v2, rfl, i1, b1⟩
  have t2 : w1.heap.size ≤ w2.heap.size := by have := b1.size; omega
  have O1 := hid (Obj_at (lo := w1.heap.size) i1 (by simp))
  have X := hid (X.out.old b1)
  have LX := hid (LX.out.old b1)
  have PP := hid (PP.out.old b1)
  have B := hid (B.out.trans (b1.mono B.out.size))
  obtain ⟨a2, c2, rfl, -⟩ := Ints_form i1
  clear i1 b1
  go_wp2_with fail
  (with_reducible refine (KS.out _ _ _ O1.out.ints).mono ?_)
  rintro e w3 ⟨rfl, b1⟩
  have t3 : w2.heap.size ≤ w3.heap.size := by have := b1.size; omega
  have X := hid (X.out.old b1)
  have LX := hid (LX.out.old b1)
  have PP := hid (PP.out.old b1)
  have O1 := hid (O1.out.old b1)
  have B := hid (B.out.trans (b1.mono B.out.size))
  clear b1
  have q0 := LX.out.c0
  have q1 := LX.out.c1
  go_wp2_with fail
  (with_reducible refine (KX.out _ X.out).mono ?_)
  clear q0 q1
  rintro e w4 ⟨v4, rfl, i1, b1⟩
  have t4 : w3.heap.size ≤ w4.heap.size := by have := b1.size; omega
  have O1 := hid (Obj_at (lo := w3.heap.size) i1 (by simp))
  have X := hid (X.out.old b1)
  have LX := hid (LX.out.old b1)
  have PP := hid (PP.out.old b1)
  have B := hid (B.out.trans (b1.mono B.out.size))
  obtain ⟨a4, c4, rfl, -⟩ := Ints_form i1
  clear i1 b1
  have X := hid (X.out.old (below_new' (o := .cells #[.bool s, .slice a4 A.length c4] 25)))
  have LX := hid (LX.out.new1 (o := .cells #[.bool s, .slice a4 A.length c4] 25))
  have PP := hid (PP.out.old (below_new' (o := .cells #[.bool s, .slice a4 A.length c4] 25)))
  have O1 := hid (O1.out.old (below_new' (o := .cells #[.bool s, .slice a4 A.length c4] 25)))
  have B := hid (B.out.alloc B.out.size (.cells #[.bool s, .slice a4 A.length c4] 25))
  have LO1 := hid (Loc.new (w := w4) (T := 25) (s := s) (v := .slice a4 A.length c4))
  have q0 := LO1.out.c0
  have q1 := LO1.out.c1
  go_wp2_with fail
  (with_reducible refine (KI.out _ _ _ O1.out.ints PP.out).mono ?_)
  clear q0 q1
  rintro e w5 ⟨rfl, b1⟩
  have t5 : w4.heap.size + 1 ≤ w5.heap.size := by have := b1.size; simp at this; omega
  have X := hid (X.out.old b1)
  have LX := hid (LX.out.old b1)
  have PP := hid (PP.out.old b1)
  have O1 := hid (O1.out.old b1)
  have LO1 := hid (LO1.out.old b1)
  have B := hid (B.out.trans (b1.mono B.out.size))
  clear b1
  go_wp2_with fail
  have X := hid (show Came w5.drew _ _ _ _ from X.out)
  have LX := hid (show Loc _ w5.drew _ _ _ from LX.out)
  have PP := hid (PP.out.old (Below_drew1 (Below.refl _ _)))
  have O1 := hid (Obj_drew1 O1.out)
  have LO1 := hid (show Loc _ w5.drew _ _ _ from LO1.out)
  have B := hid (Below_drew1 B.out)
  have q0 := LO1.out.c0
  have q1 := LO1.out.c1
  have q2 := LX.out.c0
  have q3 := LX.out.c1
  go_region_held3 (fun w' => w'.cell? ⟨w4.heap.size, 0, none⟩ = some (.bool s) ∧ w'.cell? ⟨w4.heap.size, 1, none⟩ = some (.slice a4 A.length c4) ∧ w'.cell? ⟨w.heap.size, 0, none⟩ = some (.bool s) ∧ w'.cell? ⟨w.heap.size, 1, none⟩ = some (.slice a n c)) (first | exact ⟨q0, q1, q2, q3⟩) (first | (go_at_call 23; (with_reducible refine (KX.out _ X.out).mono ?_); rintro e w6 ⟨v6, rfl, i1, b1⟩; have t6 : w5.heap.size ≤ w6.heap.size := (by have := b1.size; first | exact this | omega); have OC := hid (Obj.of i1); have X := hid (X.out.old b1); have LX := hid (LX.out.old b1); have PP := hid (PP.out.old b1); have O1 := hid (O1.out.old b1); have LO1 := hid (LO1.out.old b1); have B := hid (B.out.trans (b1.mono B.out.size)); have q0 := LO1.out.c0; have q1 := LO1.out.c1; have q2 := LX.out.c0; have q3 := LX.out.c1; obtain ⟨a6, c6, rfl, -⟩ := Ints_form i1; clear i1 b1) | (go_at_call 24; (with_reducible refine (eqBigInt_obj _ _ _ A _ _ _ _ (by omega) _ O1.out OC.out).mono ?_); rintro e w7 ⟨rfl, b1⟩; have t7 : w6.heap.size ≤ w7.heap.size := (by have := b1.size; first | omega | (simp at this; omega)); have X := hid (X.out.old b1); have LX := hid (LX.out.old b1); have PP := hid (PP.out.old b1); have O1 := hid (O1.out.old b1); have LO1 := hid (LO1.out.old b1); have B := hid (B.out.trans (b1.mono B.out.size)); have q0 := LO1.out.c0; have q1 := LO1.out.c1; have q2 := LX.out.c0; have q3 := LX.out.c1; clear b1))
  clear q0 q1 q2 q3
  go_wp2
  go_ret
  exact ⟨rfl, B.out⟩

end Go.Proofs.YtleechafachkaaaDoor
