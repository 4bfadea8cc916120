/- What the rows' listed variables give a walk: the table of powers of ten. -/
import Derived.Test.YtleechafachkaaaDoorRows
import Derived.Test.YtleechafachkaaaDoorFmtW
import Derived.ProofKit
import Derived.LaidMore
import Derived.OpenShut
import Derived.Stop.Joined
import Derived.Stop.LaidErr
import Derived.Lib.LaidTab
namespace Go.Proofs.YtleechafachkaaaDoor
open Go.RowKit

theorem tPow : (Tryd.prog.globals[4]?).map (·.type) = some 146 := by kernel_rfl
theorem pow_same : (Rows.laid_internal_strconv_uint64pow10 : DataW Unit) = Lib.tabData .u64 Lib.pow10Tab := by kernel_rfl
theorem pow_fnWhole {W : World} (h : laidMetH Tryd.prog Rows.fnWholeRow.laid W) : Pow10 W := by
  rw [MakeChecks.laidMetH_plain _ _ _ (by kernel_rfl)] at h
  have h2 : laidMet Tryd.prog [("internal/strconv.uint64pow10", Lib.tabData .u64 Lib.pow10Tab)] W := by
    rw [← pow_same]; exact h.tail.tail
  exact Lib.tabIs_of_head gPow tPow Tryd.underlying146 Tryd.underlying111 (by kernel_rfl) (by kernel_rfl) h2
theorem met_fnWhole (os : Os) (args : Array Value) : laidMetH Tryd.prog Rows.fnWholeRow.laid ((World.doorLaid Tryd.prog 400 os).forCall (fun _ _ => 0) ⟨#[], args, []⟩).memory :=
  laidMetH_of_parts3 (fuel := 8) (laidMet_of_run' 8 (by kernel_rfl) (by kernel_rfl)) (by kernel_rfl) (by kernel_rfl)
theorem pow_fnMods {W : World} (h : laidMetH Tryd.prog Rows.fnModsRow.laid W) : Pow10 W := by
  rw [MakeChecks.laidMetH_plain _ _ _ (by kernel_rfl)] at h
  have h2 : laidMet Tryd.prog [("internal/strconv.uint64pow10", Lib.tabData .u64 Lib.pow10Tab)] W := by
    rw [← pow_same]; exact h.tail.tail
  exact Lib.tabIs_of_head gPow tPow Tryd.underlying146 Tryd.underlying111 (by kernel_rfl) (by kernel_rfl) h2
theorem met_fnMods (os : Os) (args : Array Value) : laidMetH Tryd.prog Rows.fnModsRow.laid ((World.doorLaid Tryd.prog 400 os).forCall (fun _ _ => 0) ⟨#[], args, []⟩).memory :=
  laidMetH_of_parts3 (fuel := 8) (laidMet_of_run' 8 (by kernel_rfl) (by kernel_rfl)) (by kernel_rfl) (by kernel_rfl)
theorem pow_fnExactFormatBigInt {W : World} (h : laidMetH Tryd.prog Rows.fnExactFormatBigIntRow.laid W) : Pow10 W := by
  rw [MakeChecks.laidMetH_plain _ _ _ (by kernel_rfl)] at h
  have h2 : laidMet Tryd.prog [("internal/strconv.uint64pow10", Lib.tabData .u64 Lib.pow10Tab)] W := by
    rw [← pow_same]; exact h.tail.tail
  exact Lib.tabIs_of_head gPow tPow Tryd.underlying146 Tryd.underlying111 (by kernel_rfl) (by kernel_rfl) h2
theorem met_fnExactFormatBigInt (os : Os) (args : Array Value) : laidMetH Tryd.prog Rows.fnExactFormatBigIntRow.laid ((World.doorLaid Tryd.prog 400 os).forCall (fun _ _ => 0) ⟨#[], args, []⟩).memory :=
  laidMetH_of_parts3 (fuel := 8) (laidMet_of_run' 8 (by kernel_rfl) (by kernel_rfl)) (by kernel_rfl) (by kernel_rfl)
theorem met_fnExactParseBigInt (os : Os) (args : Array Value) : laidMetH Tryd.prog Rows.fnExactParseBigIntRow.laid ((World.doorLaid Tryd.prog 400 os).forCall (fun _ _ => 0) ⟨#[], args, []⟩).memory :=
  laidMetH_of_parts3 (fuel := 8) (laidMet_of_run' 8 (by kernel_rfl) (by kernel_rfl)) (by kernel_rfl) (by kernel_rfl)
end Go.Proofs.YtleechafachkaaaDoor
