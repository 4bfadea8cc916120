/- What the rows' listed variables give a walk: the table of powers of ten. -/
import Derived.Test.YthkehmnodcmlcaaGreatDoorRows
import Derived.Test.YthkehmnodcmlcaaGreatDoorDtx
import Derived.ProofKit
import Derived.LaidMore
import Derived.OpenShut
import Derived.Stop.Joined
import Derived.Stop.LaidErr
import Derived.Lib.LaidTab
namespace Go.Proofs.YthkehmnodcmlcaaGreatDoor
open Go.RowKit

theorem tPow : (Tryz.prog.globals[5]?).map (·.type) = some 199 := by kernel_rfl
theorem pow_same : (Rows.laid_internal_strconv_uint64pow10 : DataW Unit) = Lib.tabData .u64 Lib.pow10Tab := by kernel_rfl
theorem pow_fnExactFormatRow {W : World} (h : laidMetH Tryz.prog Rows.fnExactFormatRowRow.laid W) : Pow10 W := by
  rw [MakeChecks.laidMetH_plain _ _ _ (by kernel_rfl)] at h
  have h2 : laidMet Tryz.prog [("internal/strconv.uint64pow10", Lib.tabData .u64 Lib.pow10Tab)] W := by
    rw [← pow_same]; exact h.tail.tail
  exact Lib.tabIs_of_head gPow tPow Tryz.underlying199 Tryz.underlying166 (by kernel_rfl) (by kernel_rfl) h2
theorem met_fnExactFormatRow (os : Os) (args : Array Value) : laidMetH Tryz.prog Rows.fnExactFormatRowRow.laid ((World.doorLaid Tryz.prog 400 os).forCall (fun _ _ => 0) ⟨#[], args, []⟩).memory :=
  laidMetH_of_parts3 (fuel := 8) (laidMet_of_run' 8 (by kernel_rfl) (by kernel_rfl)) (by kernel_rfl) (by kernel_rfl)
end Go.Proofs.YthkehmnodcmlcaaGreatDoor
