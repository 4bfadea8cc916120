/- The program's integer that is computed in place: a number with a sign behind it. -/
import Derived.Test.YtdffmeinofgdgaaBi
import Derived.BigRegion
namespace Go.Proofs.Ytdffmeinofgdgaa
open Go.RowKit
open Go.Lib (hid)
set_option linter.unusedVariables false

/-- The program's number with a sign behind it. -/
def wholeQ (s : Bool) : Rest := ⟨[.bool s], 88, by decide⟩
theorem Below_drew1 {B : Nat} {a w : World} (h : Below B a w) : Below B a w.drew := ⟨h.os, h.tape, h.output, h.size, h.block⟩
def NewW (s : Bool) (L : List Int) (w : World) (e : Ending) (w' : World) : Prop := ∃ N v, e = .returned (.pointer (some ⟨N, 0, none⟩)) ∧ IsNat (wholeQ s) w' (fun k => w.heap.size ≤ k) N v L ∧ Below w.heap.size w w'
theorem IsNat.neg {s : Bool} {w : World} {S : Nat → Prop} {N : Nat} {v : Value} {L : List Int} (h : IsNat (wholeQ s) w S N v L) : w.cell? ⟨N, 1, none⟩ = some (.bool s) := by
  have := h.cell1
  simp [World.cell?, this, Rest.obj, wholeQ]
theorem IsNat_whole {w w1 : World} {B : Nat} {s : Bool} {v : Value} {L : List Int} (h : Ints w1 B v L) (hb : Below w.heap.size w w1) (hB : w.heap.size ≤ B) :
    IsNat (wholeQ s) (w1.alloc (.cells #[v, .bool s] 88)) (fun k => w.heap.size ≤ k) w1.heap.size v L ∧ Below w.heap.size w (w1.alloc (.cells #[v, .bool s] 88)) :=
  ⟨⟨heap_alloc_new w1 _, hb.size, Ints_base (Ints_below h ((Below.refl _ _).alloc (Nat.le_refl _) _) fun k hk => (Ints_lt h k hk).2) (Nat.zero_le _), fun k hk => by have := (Ints_lt h k hk).1; omega⟩,
    hb.alloc hb.size _⟩

end Go.Proofs.Ytdffmeinofgdgaa
