/- The program's integer that is computed in place: a number with a sign behind it. -/
import Derived.Test.YtdlkiklhffafhabDoorBi
import Derived.BigRegion
namespace Go.Proofs.YtdlkiklhffafhabDoor
open Go.RowKit
open Go.Lib (hid)
set_option linter.unusedVariables false

theorem Below_drew1 {B : Nat} {a w : World} (h : Below B a w) : Below B a w.drew := ⟨h.os, h.tape, h.output, h.size, h.block⟩
end Go.Proofs.YtdlkiklhffafhabDoor
