/- Vectors of zeros and of one 1 (the program). -/
import Derived.Test.YteanocjkdehhgaaVf
import Derived.Deep.RegionHeld3
import Derived.Deep.DeepCutAuto
namespace Go.Proofs.Yteanocjkdehhgaa
open Go.RowKit
open Go.Lib (hid)
set_option linter.unusedVariables false

/-- A vector of n zeros, if there is one. -/
def zeroK (n : Int) : List Fq := if 0 ≤ n ∧ n ≤ 40 then List.replicate n.toNat (fqo (some ((0 : Int) : Rat))) else []
theorem zeroK_yes {N : Nat} (h : N ≤ 40) : zeroK (N : Int) = List.replicate N (fqo (some ((0 : Int) : Rat))) := by
  unfold zeroK; rw [if_pos ⟨by omega, by omega⟩]; rfl
theorem zeroK_no {n : Int} (h : n < 0 ∨ 40 < n) : zeroK n = [] := by
  unfold zeroK; rw [if_neg (by omega)]
def unitK (n i : Int) : List Fq := if 0 ≤ i ∧ i < (zeroK n).length then (zeroK n).set i.toNat (fqo (some ((1 : Int) : Rat))) else []
theorem rep_snoc {α : Type} (k : Nat) (x : α) : List.replicate k x ++ [x] = List.replicate (k + 1) x := List.replicate_succ'.symm
end Go.Proofs.Yteanocjkdehhgaa
