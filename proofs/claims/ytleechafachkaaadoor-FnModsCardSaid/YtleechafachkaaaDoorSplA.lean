/- The reference's SplitAny returns the pieces. -/
import Derived.Test.YtleechafachkaaaDoorProg
import Derived.Test.YtleechafachkaaaDoorCut
import Derived.WalkKit
import Derived.Lib.Hide
import Derived.Maps.AppendAt
import Derived.Deep.QuietTactic
import Derived.BigQuiet
namespace Go.Proofs.YtleechafachkaaaDoor
open Go.RowKit
open Go.Lib (hid)

theorem Tryd.info9 : (Tryd.prog.info? 9).map (fun i => (i.zero, i.size, i.bytes)) = some (some (.string ByteArray.empty), 1, 16) := by kernel_rfl

def SplitPost (s t : ByteArray) (B : Nat) (w : World) (e : Ending) (w' : World) : Prop := ∃ v, e = .returned v ∧ Strs w' 9 B v (pieces s t) ∧ Below B w w'

theorem Strs_made {w : World} {B : Nat} (h : B = w.heap.size) : Strs (w.alloc (.cells #[] 9)) 9 B (.slice (some ⟨w.heap.size, 0, none⟩) 0 0) [] :=
  World.ownsRow_made w #[] 0 (by omega) (by decide) rfl

end Go.Proofs.YtleechafachkaaaDoor
