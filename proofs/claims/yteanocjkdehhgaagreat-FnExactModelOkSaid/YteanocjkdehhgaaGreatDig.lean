import Derived.Test.YteanocjkdehhgaaGreatProg
import Derived.WalkKit
import Derived.Lib.Hide
set_option maxRecDepth 512
set_option maxHeartbeats 200000
set_option linter.unusedVariables false
set_option linter.unusedSimpArgs false
namespace Go.Proofs.YteanocjkdehhgaaGreat
open Go.RowKit
open Go.Lib (hid)
def isDigB (c : UInt8) : Bool := decide (48 ≤ c.toNat) && decide (c.toNat ≤ 57)
theorem ret_boolS {a b : Bool} (h : a = b) : Ending.returned (.bool a) = .returned (.bool b) := by rw [h]
theorem nonempty_iff (s : ByteArray) : (!s.toList.isEmpty) = decide (0 < s.size) := by
 rw [ByteArray.toList_eq]
 have h : s.size = s.data.toList.length := by simp
 rw [h]
 cases s.data.toList <;> simp
end Go.Proofs.YteanocjkdehhgaaGreat
