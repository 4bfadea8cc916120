/- The program's negation of a struct. -/
import Derived.Test.YtleechafachkaabWk
namespace Go.Proofs.Ytleechafachkaab
open Go.RowKit
open Go.Lib (hid)
set_option linter.unusedVariables false

def una (f : Int → Int) (s : Bool) (A : List Int) : Int := if bok s A then f (sval s (val A)) else 0
theorem una_no {f : Int → Int} {s : Bool} {A : List Int} (h : bok s A = false) : una f s A = 0 := by simp [una, h]
theorem una_yes {f : Int → Int} {s : Bool} {A : List Int} (h : bok s A = true) : una f s A = f (sval s (val A)) := by simp [una, h]
theorem IsNat.setNeg {s t : Bool} {w : World} {S : Nat → Prop} {N : Nat} {v : Value} {L : List Int} (h : IsNat (wholeQ s) w S N v L) : IsNat (wholeQ t) (w.setCell ⟨N, 1, none⟩ (.bool t)) S N v L := by
  refine ⟨?_, h.mine, Ints_block h.ints fun k hk => Below.heap_setCell _ _ _ _ ?_, h.own⟩
  · have := h.cell1
    simp [World.setCell, Array.getElem?_modify, this, Rest.obj, wholeQ]
  · rintro rfl
    exact h.ne hk
theorem IsNat.freeAt {Q : Rest} {w : World} {S : Nat → Prop} {N : Nat} {v : Value} {L : List Int} (h : IsNat Q w S N v L) (i : Nat) : w.frozen? ⟨N, i, none⟩ = false := by
  have := h.cell1
  simp [World.frozen?, this, Rest.obj]
/-- The world in which a struct and a result have been laid. -/
def W2 (w : World) (s : Bool) (v : Value) (T : TypeId) : World := (w.alloc (.cells #[.bool s, v] T)).alloc (.cells #[.bool false, .slice none 0 0] T)
theorem W2_below {w : World} {s : Bool} {v : Value} {T : TypeId} : Below w.heap.size w (W2 w s v T) := ((Below.refl _ _).alloc (Nat.le_refl _) _).alloc (by simp) _
theorem W2_1 {w : World} {s : Bool} {v : Value} {T : TypeId} : Loc T (W2 w s v T) w.heap.size s v := (Loc.at rfl).new1
theorem W2_2 {w : World} {s : Bool} {v : Value} {T : TypeId} : Loc T (W2 w s v T) (w.heap.size + 1) false (.slice none 0 0) := Loc.at (by simp)
theorem OwnG_zero1 {s : Bool} {L : List Int} {Z : Int} {w w4 : World} {b : Nat} (hs : s = gzs Z) (hl : L = gzl Z) (hz : Z = 0) (hb : w.heap.size ≤ b) (hB : Below w.heap.size w w4) :
    OwnG s L w (.returned (.agg #[.bool false, .slice none 0 0])) ((w4.setCell ⟨b, 0, none⟩ (.bool false)).setCell ⟨b, 1, none⟩ (.slice none 0 0)) := by
  rw [hs, hl, hz, gzs_zero, gzl_zero]
  exact OwnG_mk (Nat.le_refl _) rfl (Ints_nil _ _) ((hB.setCell hb _).setCell hb _)
theorem OwnG_out1 {s : Bool} {L : List Int} {w w4 : World} {r : Value} {lo b : Nat} {T : TypeId} (hlo : w.heap.size ≤ lo) (hb : w.heap.size ≤ b) (hL : Loc T w4 b false (.slice none 0 0)) (hT : T ≠ 3) (hi : Ints w4 lo r L) (hB : Below w.heap.size w w4) :
    OwnG s L w (.returned (.agg #[.bool s, r])) ((w4.setCell ⟨b, 0, none⟩ (.bool s)).setCell ⟨b, 1, none⟩ r) :=
  OwnG_mk hlo rfl (Ints_set (Ints_set hi (hL.ne hT hi)) (hL.ne hT hi)) ((hB.setCell hb _).setCell hb _)

end Go.Proofs.Ytleechafachkaab
