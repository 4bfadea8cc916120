/- Numbers into ints. -/
import Derived.Test.YtleechafachkaaaDoorObj
namespace Go.Proofs.YtleechafachkaaaDoor
open Go.RowKit
open Go.Lib (hid)
set_option linter.unusedVariables false

def maxI : Int := 9223372036854775807
def tiB (L : List Int) : Bool := nok L && decide (val L ≤ maxI)
def tiV (L : List Int) : Int := if tiB L then val L else 0
theorem ti_no {L : List Int} (h : nok L = false ∨ maxI < val L) : tiB L = false ∧ tiV L = 0 := by
  have : tiB L = false := by
    unfold tiB
    rcases h with h | h
    · rw [h]; rfl
    · have : ¬ val L ≤ maxI := by omega
      simp [this]
  exact ⟨this, by simp [tiV, this]⟩
theorem ti_yes {L : List Int} (h : nok L = true) (h' : val L ≤ maxI) : tiB L = true ∧ tiV L = val L := by
  have : tiB L = true := by simp [tiB, h, h']
  exact ⟨this, by simp [tiV, this]⟩
theorem val_max : val [854775807, 223372036, 9] = maxI := by decide
theorem Can_max : Can [854775807, 223372036, 9] := by
  refine ⟨fun x hx => ?_, fun h => by simp⟩
  simp at hx
  rcases hx with rfl | rfl | rfl <;> decide
theorem rep_max : rep maxI.toNat = [854775807, 223372036, 9] := by rw [← val_max, rep_val Can_max]
theorem cmp_max {L M : List Int} (hM : M = rep maxI.toNat) (h : nok L = true) : (val L ≤ maxI → cmpL L M ≤ 0) ∧ (maxI < val L → 0 < cmpL L M) := by
  subst hM
  have hc := (nok_iff.1 h).2
  rw [cmpL_val hc (Can_rep _), val_rep]
  have : ((maxI.toNat : Nat) : Int) = maxI := by decide
  rw [this]
  rcases sgn_cases (val L - maxI) with ⟨a, b⟩ | ⟨a, b⟩ | ⟨a, b⟩ <;> rw [b] <;> constructor <;> intro _ <;> omega

def Ret2 (x : Int) (b : Bool) (w : World) (e : Ending) (w' : World) : Prop := e = .returned (.tuple #[.int .i64 x, .bool b]) ∧ Below w.heap.size w w'
theorem Ret2_mk {x y : Int} {b c : Bool} {w w' : World} (h : b = c ∧ x = y) (hb : Below w.heap.size w w') : Ret2 x b w (.returned (.tuple #[.int .i64 y, .bool c])) w' := by
  obtain ⟨rfl, rfl⟩ := h; exact ⟨rfl, hb⟩

theorem below_new {w : World} {o : Go.Obj} : Below w.heap.size w (w.alloc o) := (Below.refl _ _).alloc (Nat.le_refl _) _
theorem Ints_lit3 {w : World} {x y z : Int} : Ints (w.alloc (.cells #[.int .i64 x, .int .i64 y, .int .i64 z] 3)) w.heap.size (.slice (some ⟨w.heap.size, 0, none⟩) 3 3) [x, y, z] :=
  World.ownsRow_lit w #[.int .i64 x, .int .i64 y, .int .i64 z] 3 (Nat.le_refl _) (by decide) rfl

end Go.Proofs.YtleechafachkaaaDoor
