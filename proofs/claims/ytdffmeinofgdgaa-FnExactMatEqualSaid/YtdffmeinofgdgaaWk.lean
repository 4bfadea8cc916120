/- The program's signed sum and difference of two structs. -/
import Derived.Test.YtdffmeinofgdgaaWj
namespace Go.Proofs.Ytdffmeinofgdgaa
open Go.RowKit
open Go.Lib (hid)
set_option linter.unusedVariables false

/-- A function of two integers on pairs of sign and limbs; 0 where one is not valid. -/
def bin (f : Int → Int → Int) (s : Bool) (A : List Int) (t : Bool) (B : List Int) : Int := if bok s A && bok t B then f (sval s (val A)) (sval t (val B)) else 0
theorem bin_no {f : Int → Int → Int} {s t : Bool} {A B : List Int} (h : bok s A = false ∨ bok t B = false) : bin f s A t B = 0 := by
  unfold bin; rcases h with h | h <;> simp [h]
theorem bin_yes {f : Int → Int → Int} {s t : Bool} {A B : List Int} (h : bok s A = true) (h' : bok t B = true) : bin f s A t B = f (sval s (val A)) (sval t (val B)) := by simp [bin, h, h']
theorem OwnG_zero {s : Bool} {L : List Int} {Z : Int} {w w4 : World} {b : Nat} {T : TypeId} (hs : s = gzs Z) (hl : L = gzl Z) (hz : Z = 0) (hb : b = w.heap.size + 1 + 1) (hB : Below w.heap.size w w4) :
    OwnG s L w (.returned (.agg #[.bool false, .slice none 0 0])) ((w4.setCell ⟨b, 0, none⟩ (.bool false)).setCell ⟨b, 1, none⟩ (.slice none 0 0)) := by
  rw [hs, hl, hz, gzs_zero, gzl_zero]
  exact OwnG_mk (Nat.le_refl _) rfl (Ints_nil _ _) ((hB.setCell (by simp [hb]; omega) _).setCell (by simp [hb]; omega) _)
theorem OwnG_out2 {s : Bool} {L : List Int} {w w4 : World} {r : Value} {lo b : Nat} {T : TypeId} (hlo : w.heap.size ≤ lo) (hb : b = w.heap.size + 1 + 1) (hL : Loc T w4 b false (.slice none 0 0)) (hT : T ≠ 3) (hi : Ints w4 lo r L) (hB : Below w.heap.size w w4) :
    OwnG s L w (.returned (.agg #[.bool s, r])) ((w4.setCell ⟨b, 0, none⟩ (.bool s)).setCell ⟨b, 1, none⟩ r) :=
  OwnG_mk hlo rfl (Ints_set (Ints_set hi (hL.ne hT hi)) (hL.ne hT hi)) ((hB.setCell (by simp [hb]; omega) _).setCell (by simp [hb]; omega) _)
theorem neg_sval {t : Bool} {y : Int} : sval (!t) y = - sval t y := by cases t <;> simp [sval]

/-- The world in which two structs and a result have been laid. -/
def W3 (w : World) (s : Bool) (v : Value) (t : Bool) (u : Value) (T : TypeId) : World := ((w.alloc (.cells #[.bool s, v] T)).alloc (.cells #[.bool t, u] T)).alloc (.cells #[.bool false, .slice none 0 0] T)
theorem W3_below {w : World} {s t : Bool} {v u : Value} {T : TypeId} : Below w.heap.size w (W3 w s v t u T) := (((Below.refl _ _).alloc (Nat.le_refl _) _).alloc (by simp) _).alloc (by simp; omega) _
theorem W3_1 {w : World} {s t : Bool} {v u : Value} {T : TypeId} : Loc T (W3 w s v t u T) w.heap.size s v := (Loc.at rfl).new1.new1
theorem W3_2 {w : World} {s t : Bool} {v u : Value} {T : TypeId} : Loc T (W3 w s v t u T) (w.heap.size + 1) t u := (Loc.at (by simp)).new1
theorem W3_3 {w : World} {s t : Bool} {v u : Value} {T : TypeId} : Loc T (W3 w s v t u T) (w.heap.size + 1 + 1) false (.slice none 0 0) := Loc.at (by simp)
theorem W3_size {w : World} {s t : Bool} {v u : Value} {T : TypeId} : w.heap.size ≤ (W3 w s v t u T).heap.size := W3_below.size

end Go.Proofs.Ytdffmeinofgdgaa
