/- A struct copied as it is: the program and the reference. -/
import Derived.Test.YthkehmnodcmlcaaGreatDoorTbe
import Derived.Deep.RegionHeld3
namespace Go.Proofs.YthkehmnodcmlcaaGreatDoor
open Go.RowKit
open Go.Lib (hid)
set_option linter.unusedVariables false

/-- A struct of a sign, limbs and limbs of the call's own (perhaps not apart). -/
def OwnLS (s : Bool) (A D : List Int) (w : World) (e : Ending) (w' : World) : Prop := ∃ v u, e = .returned (.agg #[.bool s, v, u]) ∧ Ints w' w.heap.size v A ∧ Ints w' w.heap.size u D ∧ Below w.heap.size w w'
theorem OwnLS_out {s : Bool} {A D : List Int} {w w4 : World} {v u : Value} {B C N : Nat} {T : TypeId} (hN : w.heap.size ≤ N) {cs : Array Value} (hL : LocA T w4 N cs) (hT : T ≠ 3) (hB : w.heap.size ≤ B) (hC : w.heap.size ≤ C) (h1 : Ints w4 B v A) (h2 : Ints w4 C u D) (hb : Below w.heap.size w w4) :
    OwnLS s A D w (.returned (.agg #[.bool s, v, u])) (((w4.setCell ⟨N, 0, none⟩ (.bool s)).setCell ⟨N, 1, none⟩ v).setCell ⟨N, 2, none⟩ u) := by
  have n1 := hL.ne hT h1
  have n2 := hL.ne hT h2
  exact ⟨v, u, rfl, Ints_base (Ints_set (Ints_set (Ints_set h1 n1) n1) n1) hB, Ints_base (Ints_set (Ints_set (Ints_set h2 n2) n2) n2) hC, ((hb.setCell hN _).setCell hN _).setCell hN _⟩
/-- A struct of a call's own by what it holds (p: its slices share no memory). -/
structure RF (p : Bool) (w : World) (lo : Nat) (v u : Value) (A D : List Int) : Prop where
  i : Ints w lo v A
  j : Ints w lo u D
  nd : p = true → ∀ k, v.ownBlock = some k → u.ownBlock ≠ some k
  la : A.length ≤ 1048576
  ld : D.length ≤ 1048576
theorem RF.old {p : Bool} {w w' : World} {lo : Nat} {v u : Value} {A D : List Int} (h : RF p w lo v u A D) (hb : Below w.heap.size w w') : RF p w' lo v u A D := ⟨Ints_old h.i hb, Ints_old h.j hb, h.nd, h.la, h.ld⟩
def RatF (p : Bool) (s : Bool) (A D : List Int) (w : World) (e : Ending) (w' : World) : Prop := ∃ a c b d, e = .returned (.agg #[.bool s, .slice a A.length c, .slice b D.length d]) ∧ RF p w' w.heap.size (.slice a A.length c) (.slice b D.length d) A D ∧ Below w.heap.size w w'
theorem RO.rf {p : Bool} {w : World} {lo : Nat} {s : Bool} {v u : Value} {o : Option Rat} (h : RO p w lo s v u o) : RF p w lo v u (fqo o).A (fqo o).D := by
  obtain ⟨-, -, l1, l2⟩ := rval_parts h.ft
  exact ⟨by rw [fqo_A]; exact h.i, by rw [fqo_D]; exact h.j, h.nd, by rw [fqo_A]; omega, by rw [fqo_D]; omega⟩
theorem RF.rl {p : Bool} {w : World} {lo : Nat} {v u : Value} {A D : List Int} (h : RF p w lo v u A D) : RL w v u A D := ⟨⟨_, h.i⟩, ⟨_, h.j⟩, h.la, h.ld⟩
end Go.Proofs.YthkehmnodcmlcaaGreatDoor
