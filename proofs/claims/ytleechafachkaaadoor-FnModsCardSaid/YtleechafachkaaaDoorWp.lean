/- BigIntToInt of the program and of the reference. -/
import Derived.Test.YtleechafachkaaaDoorWn
import Derived.Test.YtleechafachkaaaDoorToI
namespace Go.Proofs.YtleechafachkaaaDoor
open Go.RowKit
open Go.Lib (hid)
set_option linter.unusedVariables false

def btB (s : Bool) (A : List Int) : Bool := bok s A && tiB A
def btV (s : Bool) (A : List Int) : Int := if btB s A then sval s (val A) else 0
theorem bt_no {s : Bool} {A : List Int} (h : bok s A = false ∨ tiB A = false) : btB s A = false ∧ btV s A = 0 := by
  have : btB s A = false := by unfold btB; rcases h with h | h <;> simp [h]
  exact ⟨this, by unfold btV; rw [this]; rfl⟩
theorem bt_yes {s : Bool} {A : List Int} (h : bok s A = true) (h' : tiB A = true) : btB s A = true ∧ btV s A = sval s (tiV A) := by
  have : btB s A = true := by unfold btB; simp [h, h']
  exact ⟨this, by unfold btV tiV; rw [this, h']; rfl⟩
theorem tiV_bd {A : List Int} : 0 ≤ tiV A ∧ tiV A ≤ 9223372036854775807 := by
  unfold tiV
  split
  · next h =>
    unfold tiB at h
    simp only [Bool.and_eq_true, decide_eq_true_eq] at h
    exact ⟨val_nonneg (nok_lim h.1), h.2⟩
  · decide
theorem tiV_no {A : List Int} (h : tiB A = false) : tiV A = 0 := by unfold tiV; rw [h]; rfl
end Go.Proofs.YtleechafachkaaaDoor
