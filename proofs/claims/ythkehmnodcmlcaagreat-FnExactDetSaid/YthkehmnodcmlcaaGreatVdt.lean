import Derived.Test.YthkehmnodcmlcaaGreatVw
import Derived.Test.YthkehmnodcmlcaaGreatVs
import Derived.Deep.RegionHeld3
import Derived.Deep.DeepCutAuto
set_option maxRecDepth 512
set_option maxHeartbeats 200000
set_option linter.unusedVariables false
set_option linter.unusedSimpArgs false
namespace Go.Proofs.YthkehmnodcmlcaaGreat
open Go.RowKit
open Go.Lib (hid)
def dacc (ps : List (Option Rat)) : Option Rat := ps.foldl (fun acc o => bq addF acc o) (some ((0 : Int) : Rat))
theorem dacc_take {ps : List (Option Rat)} {k : Nat} (h : k < ps.length) : dacc (ps.take (k + 1)) = bq addF (dacc (ps.take k)) ps[k] := by
 unfold dacc
 rw [List.take_succ_eq_append_getElem h, List.foldl_append]; rfl
theorem dacc_fit {ps : List (Option Rat)} (k : Nat) : fitO (dacc (ps.take k)) := by
 induction k with
 | zero => simp only [List.take_zero, dacc, List.foldl_nil]; exact fitO_zero
 |succ k ih =>
  by_cases h : k < ps.length
  ·rw [dacc_take h]; exact fitO_bq fitO_add _ _
  ·rw [List.take_of_length_le (by omega)]
   rw [List.take_of_length_le (by omega)] at ih
   exact ih
end Go.Proofs.YthkehmnodcmlcaaGreat
namespace Go.Proofs.YthkehmnodcmlcaaGreat
open Go.RowKit
open Go.Lib (hid)
end Go.Proofs.YthkehmnodcmlcaaGreat
