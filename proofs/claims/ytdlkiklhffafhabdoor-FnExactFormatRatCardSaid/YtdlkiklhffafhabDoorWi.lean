/- The program's integer is given out; the signed sum. -/
import Derived.Test.YtdlkiklhffafhabDoorWh
namespace Go.Proofs.YtdlkiklhffafhabDoor
open Go.RowKit
open Go.Lib (hid)
set_option linter.unusedVariables false
variable {Q : Rest}

/-- The value of a sign and a magnitude. -/
def sval (s : Bool) (V : Int) : Int := if s then -V else V
/-- The sign and the limbs of an integer; an integer that is too large becomes 0. -/
def gzs (Z : Int) : Bool := decide (Z < 0 ∧ -Z < pw 60)
def gzl (Z : Int) : List Int := capped (Z.natAbs : Int)
theorem sval_abs {s : Bool} {V : Int} (h : 0 ≤ V) : ((sval s V).natAbs : Int) = V := by unfold sval; split <;> omega
theorem gzl_sval {s : Bool} {V : Int} (h : 0 ≤ V) : gzl (sval s V) = capped V := by unfold gzl; rw [sval_abs h]
theorem gzs_sval {s : Bool} {V : Int} (h0 : 0 < V) (h : V < pw 60) : gzs (sval s V) = s := by
  unfold gzs sval
  cases s
  · simp; omega
  · simp; omega
theorem gzs_zero : gzs 0 = false := by simp [gzs]
theorem gzl_zero : gzl 0 = [] := by
  unfold gzl capped
  simp [rep_zero]
theorem gzs_big {Z : Int} (h : pw 60 ≤ (Z.natAbs : Int)) : gzs Z = false := by unfold gzs; simp; omega
theorem gzl_big {Z : Int} (h : pw 60 ≤ (Z.natAbs : Int)) : gzl Z = [] := by unfold gzl capped; rw [if_neg (by omega)]
/-- A struct is given out whose slice lies from lo on. -/
def GivB (lo : Nat) (s : Bool) (L : List Int) (w : World) (e : Ending) (w' : World) : Prop := ∃ u, e = .returned (.agg #[.bool s, u]) ∧ Ints w' lo u L ∧ Below w.heap.size w w'
theorem GivB_mk {lo : Nat} {s t : Bool} {L M : List Int} {w w' : World} {u : Value} (hs : t = s) (hL : M = L) (h : Ints w' lo u M) (hb : Below w.heap.size w w') : GivB lo s L w (.returned (.agg #[.bool t, u])) w' := by
  subst hs; subst hL; exact ⟨u, rfl, h, hb⟩
end Go.Proofs.YtdlkiklhffafhabDoor
