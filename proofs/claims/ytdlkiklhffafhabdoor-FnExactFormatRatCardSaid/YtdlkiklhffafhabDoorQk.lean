/- The walk of the law FnExactFormatRat. -/
import Derived.Test.YtdlkiklhffafhabDoorRhi
import Derived.Test.YtdlkiklhffafhabDoorFf
import Derived.Deep.RegionHeld3
import Derived.Deep.DeepCutAuto
namespace Go.Proofs.YtdlkiklhffafhabDoor
open Go.RowKit
open Go.Lib (hid)
set_option linter.unusedVariables false

set_option maxRecDepth 100000 in
set_option maxHeartbeats 25600000 in
theorem law_FormatRat (s : Bool) (a : Option Addr) (n c : Nat) (A : List Int) (b : Option Addr) (m d : Nat) (D : List Int) (hmX : n ≤ maxLen) (hkX : m ≤ maxLen) (w : World) (rX : RowI w a n A) (pX : RowI w b m D) (hp : Pow10 w) :
    Calls Tryd.prog 3 #[.agg #[.bool s, .slice a n c, .slice b m d]] w (RetB (.bool true) w) := by
  have hX : A.length ≤ n := by have := rX.1; omega
  have gX : D.length ≤ m := by have := pX.1; omega
  have X := hid (CameR.old ⟨Came.of rX, Came.of pX⟩ (below_new' (w := w) (o := .cells #[.bool s, .slice a n c, .slice b m d] 26)))
  have PP := hid (hp.old (below_new' (w := w) (o := .cells #[.bool s, .slice a n c, .slice b m d] 26)))
  clear hp
  have B := hid (below_new' (w := w) (o := .cells #[.bool s, .slice a n c, .slice b m d] 26))
  have LX := hid (LocA.at (T := 26) (w := w) (b := w.heap.size) (cs := #[.bool s, .slice a n c, .slice b m d]) (by simp))
  have hsz : w.heap.size + 1 ≤ (w.alloc (.cells #[.bool s, .slice a n c, .slice b m d] 26)).heap.size := by simp
  clear rX pX
  generalize hW : w.alloc (.cells #[.bool s, .slice a n c, .slice b m d] 26) = W0 at B hsz PP X LX
  have HW := hid hW
  clear hW
  by_cases hAX : 1048576 < (n : Int) + (m : Int)
  · have K := hid (szRat_no s a n c b m d (1048576) hmX hkX hAX (by omega) (by omega))
    go_enter Tryd.func3, Tryd.ntmps3
    go_wp2_with fail
    rw [HW.out]
    (with_reducible refine (K.out _).mono ?_)
    rintro e w1 ⟨rfl, b1⟩
    have B := hid (B.out.trans (b1.mono B.out.size))
    clear b1
    go_wp2
    go_ret
    exact ⟨rfl, B.out⟩
  have KZX := hid (szRat_yes s a n c b m d (1048576) (by omega) (by omega))
  have hgeX : ¬ 1048576 - (n : Int) - (m : Int) < 0 := by omega
  have lX : A.length ≤ 1048576 := by omega
  have kX : D.length ≤ 1048576 := by omega
  have hsum : (A.length : Int) + (D.length : Int) ≤ 1048576 := by omega
  have KX := hid (fun (W : World) (h : CameR W w.heap.size a n A b m D) => toRat_came s a n c b m d _ A D (by omega) (by omega) W h)
  have KS := hid (fun (W : World) (v0 u0 : Value) (h0 : RL W v0 u0 A D) => spec_FormatRat s v0 u0 A D W h0)
  have KI := hid (fun (W : World) (v0 u0 : Value) (h0 : RL W v0 u0 A D) (hp : Pow10 W) => impl_FormatRat s v0 u0 A D W h0 hp)
  obtain ⟨z, hz⟩ : ∃ z, z = fmtR s A D := ⟨_, rfl⟩
  rw [← hz] at KS KI
  clear hz
  clear hX gX
  go_enter Tryd.func3, Tryd.ntmps3
  go_wp2_with fail
  rw [HW.out]
  (with_reducible refine (KZX.out _).mono ?_)
  rintro e w1 ⟨rfl, b1⟩
  have t1 : w.heap.size + 1 ≤ w1.heap.size := by have := b1.size; omega
  have X := hid (X.out.old b1)
  have LX := hid (LX.out.old b1)
  have PP := hid (PP.out.old b1)
  have B := hid (B.out.trans (b1.mono B.out.size))
  clear b1
  have q0 := LX.out.c 0 rfl
  have q1 := LX.out.c 1 rfl
  have q2 := LX.out.c 2 rfl
  go_wp2_with fail
  (with_reducible refine (KX.out _ X.out).mono ?_)
  clear q0 q1 q2
  rintro e w2 ⟨v2, u2, rfl, i1, b1⟩
  have t2 : w1.heap.size ≤ w2.heap.size := by have := b1.size; omega
  have O1 := hid (ROb.at (lo := w1.heap.size) i1 (by simp))
  have X := hid (X.out.old b1)
  have LX := hid (LX.out.old b1)
  have PP := hid (PP.out.old b1)
  have B := hid (B.out.trans (b1.mono B.out.size))
  obtain ⟨a2, c2, b2, d2, rfl, rfl⟩ := i1.form
  clear i1 b1
  go_wp2_with fail
  (with_reducible refine (KS.out _ _ _ (O1.out.rl (by omega) (by omega))).mono ?_)
  rintro e w3 ⟨rfl, b1⟩
  have t3 : w2.heap.size ≤ w3.heap.size := by have := b1.size; omega
  have X := hid (X.out.old b1)
  have LX := hid (LX.out.old b1)
  have PP := hid (PP.out.old b1)
  have O1 := hid (O1.out.old b1)
  have B := hid (B.out.trans (b1.mono B.out.size))
  clear b1
  have q0 := LX.out.c 0 rfl
  have q1 := LX.out.c 1 rfl
  have q2 := LX.out.c 2 rfl
  go_wp2_with fail
  (with_reducible refine (KX.out _ X.out).mono ?_)
  clear q0 q1 q2
  rintro e w4 ⟨v4, u4, rfl, i1, b1⟩
  have t4 : w3.heap.size ≤ w4.heap.size := by have := b1.size; omega
  have O1 := hid (ROb.at (lo := w3.heap.size) i1 (by simp))
  have X := hid (X.out.old b1)
  have LX := hid (LX.out.old b1)
  have PP := hid (PP.out.old b1)
  have B := hid (B.out.trans (b1.mono B.out.size))
  obtain ⟨a4, c4, b4, d4, rfl, rfl⟩ := i1.form
  clear i1 b1
  have X := hid (X.out.old (below_new' (o := .cells #[.bool s, .slice a4 A.length c4, .slice b4 D.length d4] 31)))
  have LX := hid (LX.out.old (below_new' (o := .cells #[.bool s, .slice a4 A.length c4, .slice b4 D.length d4] 31)))
  have PP := hid (PP.out.old (below_new' (o := .cells #[.bool s, .slice a4 A.length c4, .slice b4 D.length d4] 31)))
  have O1 := hid (O1.out.old (below_new' (o := .cells #[.bool s, .slice a4 A.length c4, .slice b4 D.length d4] 31)))
  have B := hid (B.out.alloc B.out.size (.cells #[.bool s, .slice a4 A.length c4, .slice b4 D.length d4] 31))
  have LO1 := hid (LocA.new (w := w4) (T := 31) (cs := #[.bool s, .slice a4 A.length c4, .slice b4 D.length d4]))
  have q0 := LO1.out.c 0 rfl
  have q1 := LO1.out.c 1 rfl
  have q2 := LO1.out.c 2 rfl
  go_wp2_with fail
  (with_reducible refine (KI.out _ _ _ (O1.out.rl (by omega) (by omega)) PP.out).mono ?_)
  clear q0 q1 q2
  rintro e w5 ⟨rfl, b1⟩
  have t5 : w4.heap.size + 1 ≤ w5.heap.size := by have := b1.size; simp at this; omega
  have X := hid (X.out.old b1)
  have LX := hid (LX.out.old b1)
  have PP := hid (PP.out.old b1)
  have O1 := hid (O1.out.old b1)
  have LO1 := hid (LO1.out.old b1)
  have B := hid (B.out.trans (b1.mono B.out.size))
  clear b1
  go_wp2_with fail
  have X := hid (X.out.old (Below_drew1 (Below.refl _ _)))
  have LX := hid (LX.out.old (Below_drew1 (Below.refl _ _)))
  have PP := hid (PP.out.old (Below_drew1 (Below.refl _ _)))
  have O1 := hid (O1.out.old (Below_drew1 (Below.refl _ _)))
  have LO1 := hid (LO1.out.old (Below_drew1 (Below.refl _ _)))
  have B := hid (Below_drew1 B.out)
  have q0 := LO1.out.c 0 rfl
  have q1 := LO1.out.c 1 rfl
  have q2 := LO1.out.c 2 rfl
  have q3 := LX.out.c 0 rfl
  have q4 := LX.out.c 1 rfl
  have q5 := LX.out.c 2 rfl
  go_region_held3 (fun w' => w'.cell? ⟨w4.heap.size, 0, none⟩ = some (.bool s) ∧ w'.cell? ⟨w4.heap.size, 1, none⟩ = some (.slice a4 A.length c4) ∧ w'.cell? ⟨w4.heap.size, 2, none⟩ = some (.slice b4 D.length d4) ∧ w'.cell? ⟨w.heap.size, 0, none⟩ = some (.bool s) ∧ w'.cell? ⟨w.heap.size, 1, none⟩ = some (.slice a n c) ∧ w'.cell? ⟨w.heap.size, 2, none⟩ = some (.slice b m d)) (first | exact ⟨q0, q1, q2, q3, q4, q5⟩) (first | (go_at_call 6; (with_reducible refine (KX.out _ X.out).mono ?_); rintro e w6 ⟨v6, u6, rfl, i1, b1⟩; have t6 : w5.heap.size ≤ w6.heap.size := (by have := b1.size; first | exact this | omega | (simp at this; omega)); have OC := hid i1; have X := hid (X.out.old b1); have LX := hid (LX.out.old b1); have PP := hid (PP.out.old b1); have O1 := hid (O1.out.old b1); have LO1 := hid (LO1.out.old b1); have B := hid (B.out.trans (b1.mono B.out.size)); have q0 := LO1.out.c 0 rfl; have q1 := LO1.out.c 1 rfl; have q2 := LO1.out.c 2 rfl; have q3 := LX.out.c 0 rfl; have q4 := LX.out.c 1 rfl; have q5 := LX.out.c 2 rfl; obtain ⟨a6, c6, b6, d6, rfl, rfl⟩ := i1.form; clear i1 b1) | (go_at_call 8; (with_reducible refine (eqRat_w _ _ _ _ _ A D _ _ _ _ (by omega) (by omega) _ O1.out.w OC.out.w).mono ?_); rintro e w7 ⟨rfl, b1⟩; have t7 : w6.heap.size ≤ w7.heap.size := (by have := b1.size; first | exact this | omega | (simp at this; omega)); have X := hid (X.out.old b1); have LX := hid (LX.out.old b1); have PP := hid (PP.out.old b1); have O1 := hid (O1.out.old b1); have LO1 := hid (LO1.out.old b1); have B := hid (B.out.trans (b1.mono B.out.size)); have q0 := LO1.out.c 0 rfl; have q1 := LO1.out.c 1 rfl; have q2 := LO1.out.c 2 rfl; have q3 := LX.out.c 0 rfl; have q4 := LX.out.c 1 rfl; have q5 := LX.out.c 2 rfl; clear b1))
  clear q0 q1 q2 q3 q4 q5
  go_wp2
  go_ret
  exact ⟨rfl, B.out⟩

end Go.Proofs.YtdlkiklhffafhabDoor
