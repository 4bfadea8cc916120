/- Merged: Smp Smr. -/
import Derived.Test.YtamhmpjadnfpdaaGreatFra
/- The simplest fraction of an interval, and how deep its search goes: arithmetic of natural numbers. No program text. -/
namespace Go.Proofs.YtamhmpjadnfpdaaGreat
set_option linter.unusedVariables false

end Go.Proofs.YtamhmpjadnfpdaaGreat

/- Floors, ceilings and the simplest fraction, as values. No program text. -/
namespace Go.Proofs.YtamhmpjadnfpdaaGreat
open Go.RowKit
open Go.Lib (hid)
set_option linter.unusedVariables false

def flF (x : Rat) : Rat := ((x.floor : Int) : Rat)
def ceF (x : Rat) : Rat := ((x.ceil : Int) : Rat)
theorem fit_int {z : Int} (h : (z.natAbs : Int) < pw 24) : fit ((z : Int) : Rat) := ⟨by rw [Rat.num_intCast]; exact h, by rw [Rat.den_intCast]; decide⟩
end Go.Proofs.YtamhmpjadnfpdaaGreat
