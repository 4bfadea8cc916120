/- The program's negation of a struct. -/
import Derived.Test.YtleechafachkaaaDoorWk
namespace Go.Proofs.YtleechafachkaaaDoor
open Go.RowKit
open Go.Lib (hid)
set_option linter.unusedVariables false

def una (f : Int → Int) (s : Bool) (A : List Int) : Int := if bok s A then f (sval s (val A)) else 0
theorem una_no {f : Int → Int} {s : Bool} {A : List Int} (h : bok s A = false) : una f s A = 0 := by simp [una, h]
theorem una_yes {f : Int → Int} {s : Bool} {A : List Int} (h : bok s A = true) : una f s A = f (sval s (val A)) := by simp [una, h]
theorem IsNat.setNeg {s t : Bool} {w : World} {S : Nat → Prop} {N : Nat} {v : Value} {L : List Int} (h : IsNat (wholeQ s) w S N v L) : IsNat (wholeQ t) (w.setCell ⟨N, 1, none⟩ (.bool t)) S N v L := by
  refine ⟨?_, h.mine, Ints_block h.ints fun k hk => Below.heap_setCell _ _ _ _ ?_, h.own⟩
  · have := h.cell1
    simp [World.setCell, Array.getElem?_modify, this, Rest.obj, wholeQ]
  · rintro rfl
    exact h.ne hk
theorem IsNat.freeAt {Q : Rest} {w : World} {S : Nat → Prop} {N : Nat} {v : Value} {L : List Int} (h : IsNat Q w S N v L) (i : Nat) : w.frozen? ⟨N, i, none⟩ = false := by
  have := h.cell1
  simp [World.frozen?, this, Rest.obj]
/-- The world in which a struct and a result have been laid. -/
def W2 (w : World) (s : Bool) (v : Value) (T : TypeId) : World := (w.alloc (.cells #[.bool s, v] T)).alloc (.cells #[.bool false, .slice none 0 0] T)
theorem W2_below {w : World} {s : Bool} {v : Value} {T : TypeId} : Below w.heap.size w (W2 w s v T) := ((Below.refl _ _).alloc (Nat.le_refl _) _).alloc (by simp) _
theorem W2_1 {w : World} {s : Bool} {v : Value} {T : TypeId} : Loc T (W2 w s v T) w.heap.size s v := (Loc.at rfl).new1
theorem W2_2 {w : World} {s : Bool} {v : Value} {T : TypeId} : Loc T (W2 w s v T) (w.heap.size + 1) false (.slice none 0 0) := Loc.at (by simp)
theorem OwnG_zero1 {s : Bool} {L : List Int} {Z : Int} {w w4 : World} {b : Nat} (hs : s = gzs Z) (hl : L = gzl Z) (hz : Z = 0) (hb : w.heap.size ≤ b) (hB : Below w.heap.size w w4) :
    OwnG s L w (.returned (.agg #[.bool false, .slice none 0 0])) ((w4.setCell ⟨b, 0, none⟩ (.bool false)).setCell ⟨b, 1, none⟩ (.slice none 0 0)) := by
  rw [hs, hl, hz, gzs_zero, gzl_zero]
  exact OwnG_mk (Nat.le_refl _) rfl (Ints_nil _ _) ((hB.setCell hb _).setCell hb _)
theorem OwnG_out1 {s : Bool} {L : List Int} {w w4 : World} {r : Value} {lo b : Nat} {T : TypeId} (hlo : w.heap.size ≤ lo) (hb : w.heap.size ≤ b) (hL : Loc T w4 b false (.slice none 0 0)) (hT : T ≠ 3) (hi : Ints w4 lo r L) (hB : Below w.heap.size w w4) :
    OwnG s L w (.returned (.agg #[.bool s, r])) ((w4.setCell ⟨b, 0, none⟩ (.bool s)).setCell ⟨b, 1, none⟩ r) :=
  OwnG_mk hlo rfl (Ints_set (Ints_set hi (hL.ne hT hi)) (hL.ne hT hi)) ((hB.setCell hb _).setCell hb _)

set_option maxRecDepth 100000 in
set_option maxHeartbeats 3200000 in
theorem impl_BigIntNeg (s : Bool) (v : Value) (A : List Int) (hA : A.length ≤ 1073741824) (b1 : Nat) (w : World) (h1 : Ints w b1 v A) :
    Calls Tryd.prog 14 #[.agg #[.bool s, v]] w (OwnG (gzs (una (fun x => -x) s A)) (gzl (una (fun x => -x) s A)) w) := by
  obtain ⟨Z, hZ⟩ : ∃ Z, Z = una (fun x => -x) s A := ⟨_, rfl⟩
  have HZ := hid hZ
  rw [← hZ]
  clear hZ
  obtain ⟨gs, hgs⟩ : ∃ g, g = gzs Z := ⟨_, rfl⟩
  rw [← hgs]
  have HGS := hid hgs
  clear hgs
  have KA := hid (fun (W : World) (h : Ints W b1 v A) => impl_BigIntOk_own s v A hA b1 W h)
  have B0 := hid (W2_below (w := w) (s := s) (v := v) (T := 25))
  have L1 := hid (W2_1 (w := w) (s := s) (v := v) (T := 25))
  have L3 := hid (W2_2 (w := w) (s := s) (v := v) (T := 25))
  have I1 := hid (Ints_old h1 B0.out)
  obtain ⟨a, c, rfl, -⟩ := Ints_form h1
  clear h1
  cases e1 : bok s A with
  | false =>
    have hE := hid (HZ.out.trans (una_no e1))
    rw [e1] at KA
    clear e1
    go_enter Tryd.func14, Tryd.ntmps14
    go_wp2_with fail
    change Calls _ _ _ (W2 w s (.slice a A.length c) 25) _
    refine (KA.out _ I1.out).mono ?_
    rintro e w1 ⟨rfl, b1⟩
    have B0 := hid (B0.out.trans (b1.mono B0.out.size))
    have L3 := hid (L3.out.old b1)
    clear b1
    have f0 := L3.out.f0 0
    have f1 := L3.out.f0 1
    have p0 := L3.out.c0
    have p1 := L3.out.c1
    have R := hid (OwnG_zero1 (b := w.heap.size + 1) HGS.out rfl hE.out (by omega) B0.out)
    clear hE
    go_wp2
    exact bodyPost_ret (v := .agg #[.bool false, .slice none 0 0]) (by simp [results, Tryd.results14, go_sem, p0, p1]) rfl R.out
  | true =>
    have hE := hid (HZ.out.trans (una_yes e1))
    rw [e1] at KA
    have nA := hid (bok_iff.1 e1).1
    clear e1
    go_enter Tryd.func14, Tryd.ntmps14
    go_wp2_with fail
    change Calls _ _ _ (W2 w s (.slice a A.length c) 25) _
    refine (KA.out _ I1.out).mono ?_
    rintro e w1 ⟨rfl, b1⟩
    have B0 := hid (B0.out.trans (b1.mono B0.out.size))
    have I1 := hid (Ints_old I1.out b1)
    have L1 := hid (L1.out.old b1)
    have L3 := hid (L3.out.old b1)
    have q0 := L1.out.c0
    have q1 := L1.out.c1
    have hl3 := L3.out.lt
    clear b1
    go_wp2_with fail
    refine (newWhole_own s _ _ A hA _ I1.out).mono ?_
    rintro e w2 ⟨N, x, rfl, h1, b1⟩
    have L3 := hid (L3.out.old b1)
    have hN : w1.heap.size ≤ N := h1.mine
    have hs0 : w.heap.size ≤ w1.heap.size := by omega
    have B0 := hid ((B0.out.trans (b1.mono B0.out.size)).setCell (p := ⟨N, 1, none⟩) (Nat.le_trans hs0 hN) (.bool (!s)))
    have L3 := hid (L3.out.block (set_block w2 N 1 _ (.bool (!s)) (show w.heap.size + 1 ≠ N by omega)))
    have H1 := hid (IsNat.setNeg (t := !s) h1)
    rw [← rep_val (nok_iff.1 nA.out).2] at H1
    have r0 := h1.neg
    have r1 := h1.freeAt 1
    clear h1 b1 q0 q1
    have hE2 := hid (show sval (!s) (val A) = Z from by rw [hE.out, neg_sval])
    go_wp2_with fail
    refine (bigInt_own _ (!s) N x _ (val_nonneg (nok_lim nA.out)) _ H1.out).mono ?_
    rintro e w4 ⟨r, rfl, ir, b4⟩
    rw [hE2.out] at ir
    rw [hE2.out, ← HGS.out]
    have L3 := hid (L3.out.old b4)
    have BB := hid (B0.out.trans (b4.mono B0.out.size))
    have R := hid (OwnG_out1 (s := gs) (b := w.heap.size + 1) hs0 (by omega) L3.out (by decide) ir BB.out)
    obtain ⟨ar, cr, rfl, -⟩ := Ints_form ir
    have f0 := L3.out.f0 0
    have f1 := L3.out.f0 1
    have p0 := L3.out.c0
    have p1 := L3.out.c1
    clear ir b4 r0 r1 hN hs0 hl3
    go_wp2
    exact bodyPost_ret (v := .agg #[.bool gs, .slice ar _ cr]) (by simp [results, Tryd.results14, go_sem, p0, p1]) rfl R.out
end Go.Proofs.YtleechafachkaaaDoor
