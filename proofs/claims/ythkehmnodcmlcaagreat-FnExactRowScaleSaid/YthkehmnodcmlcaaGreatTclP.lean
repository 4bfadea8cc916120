import Derived.Test.YthkehmnodcmlcaaGreatTbeP
import Derived.Deep.RegionHeld3
set_option maxRecDepth 100000
set_option maxHeartbeats 3200000
set_option linter.unusedVariables false
set_option linter.unusedSimpArgs false
namespace Go.Proofs.YthkehmnodcmlcaaGreat
open Go.RowKit
open Go.Lib (hid)
structure RF (p : Bool) (w : World) (lo : Nat) (v u : Value) (A D : List Int) : Prop where
 i : Ints w lo v A
 j : Ints w lo u D
 nd : p = true → ∀ k, v.ownBlock = some k → u.ownBlock ≠ some k
 la : A.length ≤ 1048576
 ld : D.length ≤ 1048576
theorem RF.old {p : Bool} {w w' : World} {lo : Nat} {v u : Value} {A D : List Int} (h : RF p w lo v u A D) (hb : Below w.heap.size w w') : RF p w' lo v u A D := ⟨Ints_old h.i hb, Ints_old h.j hb, h.nd, h.la, h.ld⟩
theorem RO.rf {p : Bool} {w : World} {lo : Nat} {s : Bool} {v u : Value} {o : Option Rat} (h : RO p w lo s v u o) : RF p w lo v u (fqo o).A (fqo o).D := by
 obtain ⟨-, -, l1, l2⟩ := rval_parts h.ft
 exact ⟨by rw [fqo_A]; exact h.i, by rw [fqo_D]; exact h.j, h.nd, by rw [fqo_A]; omega, by rw [fqo_D]; omega⟩
theorem RF.rl {p : Bool} {w : World} {lo : Nat} {v u : Value} {A D : List Int} (h : RF p w lo v u A D) : RL w v u A D := ⟨⟨_, h.i⟩, ⟨_, h.j⟩, h.la, h.ld⟩
end Go.Proofs.YthkehmnodcmlcaaGreat
