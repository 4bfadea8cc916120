/-
  No cell of these rows narrows 'for every input' (looked for: loops, veiled, ifaces, maps, wideKeys, modest, calm, conditions, laid).
  DERIVED. THE GIVEN ROWS OF THIS SEAT. 10 by the template 'for every input the law returns true; each argument reads behind the call as it read before'; 0 by the template 'total and deterministic' (their statements: YthkehmnodcmlcaaGreatTotals.lean).
  GIVEN WITH THE SEED: the statements are not yours to turn. If you find one false, say at which input.
  Laid BY PROGRAM, IN A SANDBOX (cutbox-rows.mjs): the forced cells as the released guide's own fill.sh prints them over the translation 018423e99221bdab… (all of the seat's roots in one cut). By AI agents, Wed Nov 11 2026. No macro, syntax, notation, axiom, sorry.
-/
import Derived.Test.YthkehmnodcmlcaaGreatChecked
import GoSem.Claim
import GoSem.ClaimJoined
import GoSem.ClaimMapViews
import Derived.JoinedTies
import Derived.KernelRfl
namespace Go.Proofs.YthkehmnodcmlcaaGreat
/- THE CELL 'sum', in the pinned program and in every row, IS THE sha256 OF THE DUMP (.gsa) THAT YthkehmnodcmlcaaGreatProg.lean LOADS. Nothing in Lean hashes anything: it is a label: what it is worth is what the hold of that sum in a sandbox is worth. -/
noncomputable def Tryz.pinned : Pinned := { name := "ythkehmnodcmlcaagreat", sum := "018423e99221bdab90ed326e2f719152958e710011126305270c28257ba01639", checked := Tryz.checked }
namespace Rows
def none {H : Type} : Left H := { results := [], args := [] }

/-- 'laws.FnExactRowHolds': WHATEVER THE INPUT: true; the input reads as it did. -/
def fnExactRowHoldsSpec : ChangeSpec := { name := "fnExactRowHolds", fn := fun _ => fun
  | [d1, d2] => { results := [.lit (.bool true)], args := [d1, d2] }
  | _ => none }
def fnExactRowHoldsRow : OpenClaim := { program := "ythkehmnodcmlcaagreat", sum := "018423e99221bdab90ed326e2f719152958e710011126305270c28257ba01639", func := "loop.example/g00802/laws.FnExactRowHolds", spec := "fnExactRowHolds", inPlace := ["math/bits.Add64"], unfollowed := true, recurses := true, named := ["math/bits.divideError", "math/bits.overflowError"], apart := false }
def FnExactRowHoldsSaid : Prop := fnExactRowHoldsRow.holds Tryz.pinned (OpenSpec.ofChange fnExactRowHoldsSpec)

/-- ITS FALSE NEIGHBOUR: 'it returns false'. Refute it at one input. -/
def fnExactRowHoldsWrong : ChangeSpec := { name := "fnExactRowHolds", fn := fun _ => fun
  | [d1, d2] => { results := [.lit (.bool false)], args := [d1, d2] }
  | _ => none }
def FnExactRowHoldsWrongFalsely : Prop := fnExactRowHoldsRow.holds Tryz.pinned (OpenSpec.ofChange fnExactRowHoldsWrong)

/-- 'laws.FnExactRowSlack': WHATEVER THE INPUT: true; the input reads as it did. -/
def fnExactRowSlackSpec : ChangeSpec := { name := "fnExactRowSlack", fn := fun _ => fun
  | [d1, d2] => { results := [.lit (.bool true)], args := [d1, d2] }
  | _ => none }
def fnExactRowSlackRow : OpenClaim := { program := "ythkehmnodcmlcaagreat", sum := "018423e99221bdab90ed326e2f719152958e710011126305270c28257ba01639", func := "loop.example/g00802/laws.FnExactRowSlack", spec := "fnExactRowSlack", inPlace := ["math/bits.Add64"], unfollowed := true, recurses := true, named := ["math/bits.divideError", "math/bits.overflowError"], apart := false }
def FnExactRowSlackSaid : Prop := fnExactRowSlackRow.holds Tryz.pinned (OpenSpec.ofChange fnExactRowSlackSpec)

/-- ITS FALSE NEIGHBOUR: 'it returns false'. Refute it at one input. -/
def fnExactRowSlackWrong : ChangeSpec := { name := "fnExactRowSlack", fn := fun _ => fun
  | [d1, d2] => { results := [.lit (.bool false)], args := [d1, d2] }
  | _ => none }
def FnExactRowSlackWrongFalsely : Prop := fnExactRowSlackRow.holds Tryz.pinned (OpenSpec.ofChange fnExactRowSlackWrong)

/-- 'laws.FnExactRowScale': WHATEVER THE INPUT: true; the input reads as it did. -/
def fnExactRowScaleSpec : ChangeSpec := { name := "fnExactRowScale", fn := fun _ => fun
  | [d1, d2] => { results := [.lit (.bool true)], args := [d1, d2] }
  | _ => none }
def fnExactRowScaleRow : OpenClaim := { program := "ythkehmnodcmlcaagreat", sum := "018423e99221bdab90ed326e2f719152958e710011126305270c28257ba01639", func := "loop.example/g00802/laws.FnExactRowScale", spec := "fnExactRowScale", inPlace := ["math/bits.Add64"], unfollowed := true, recurses := true, named := ["math/bits.divideError", "math/bits.overflowError"], apart := false }
def FnExactRowScaleSaid : Prop := fnExactRowScaleRow.holds Tryz.pinned (OpenSpec.ofChange fnExactRowScaleSpec)

/-- ITS FALSE NEIGHBOUR: 'it returns false'. Refute it at one input. -/
def fnExactRowScaleWrong : ChangeSpec := { name := "fnExactRowScale", fn := fun _ => fun
  | [d1, d2] => { results := [.lit (.bool false)], args := [d1, d2] }
  | _ => none }
def FnExactRowScaleWrongFalsely : Prop := fnExactRowScaleRow.holds Tryz.pinned (OpenSpec.ofChange fnExactRowScaleWrong)

/-- 'laws.FnExactRowNegate': WHATEVER THE INPUT: true; the input reads as it did. -/
def fnExactRowNegateSpec : ChangeSpec := { name := "fnExactRowNegate", fn := fun _ => fun
  | [d] => { results := [.lit (.bool true)], args := [d] }
  | _ => none }
def fnExactRowNegateRow : OpenClaim := { program := "ythkehmnodcmlcaagreat", sum := "018423e99221bdab90ed326e2f719152958e710011126305270c28257ba01639", func := "loop.example/g00802/laws.FnExactRowNegate", spec := "fnExactRowNegate", inPlace := ["math/bits.Add64"], unfollowed := true, recurses := true, named := ["math/bits.divideError", "math/bits.overflowError"], apart := false }
def FnExactRowNegateSaid : Prop := fnExactRowNegateRow.holds Tryz.pinned (OpenSpec.ofChange fnExactRowNegateSpec)

/-- ITS FALSE NEIGHBOUR: 'it returns false'. Refute it at one input. -/
def fnExactRowNegateWrong : ChangeSpec := { name := "fnExactRowNegate", fn := fun _ => fun
  | [d] => { results := [.lit (.bool false)], args := [d] }
  | _ => none }
def FnExactRowNegateWrongFalsely : Prop := fnExactRowNegateRow.holds Tryz.pinned (OpenSpec.ofChange fnExactRowNegateWrong)

/-- 'laws.FnExactRowInfeasible': WHATEVER THE INPUT: true; the input reads as it did. -/
def fnExactRowInfeasibleSpec : ChangeSpec := { name := "fnExactRowInfeasible", fn := fun _ => fun
  | [d] => { results := [.lit (.bool true)], args := [d] }
  | _ => none }
def fnExactRowInfeasibleRow : OpenClaim := { program := "ythkehmnodcmlcaagreat", sum := "018423e99221bdab90ed326e2f719152958e710011126305270c28257ba01639", func := "loop.example/g00802/laws.FnExactRowInfeasible", spec := "fnExactRowInfeasible", inPlace := ["math/bits.Add64"], unfollowed := true, recurses := true, named := ["math/bits.divideError", "math/bits.overflowError"], apart := false }
def FnExactRowInfeasibleSaid : Prop := fnExactRowInfeasibleRow.holds Tryz.pinned (OpenSpec.ofChange fnExactRowInfeasibleSpec)

/-- ITS FALSE NEIGHBOUR: 'it returns false'. Refute it at one input. -/
def fnExactRowInfeasibleWrong : ChangeSpec := { name := "fnExactRowInfeasible", fn := fun _ => fun
  | [d] => { results := [.lit (.bool false)], args := [d] }
  | _ => none }
def FnExactRowInfeasibleWrongFalsely : Prop := fnExactRowInfeasibleRow.holds Tryz.pinned (OpenSpec.ofChange fnExactRowInfeasibleWrong)

/-- 'laws.FnExactRowTrivial': WHATEVER THE INPUT: true; the input reads as it did. -/
def fnExactRowTrivialSpec : ChangeSpec := { name := "fnExactRowTrivial", fn := fun _ => fun
  | [d] => { results := [.lit (.bool true)], args := [d] }
  | _ => none }
def fnExactRowTrivialRow : OpenClaim := { program := "ythkehmnodcmlcaagreat", sum := "018423e99221bdab90ed326e2f719152958e710011126305270c28257ba01639", func := "loop.example/g00802/laws.FnExactRowTrivial", spec := "fnExactRowTrivial", inPlace := ["math/bits.Add64"], unfollowed := true, recurses := true, named := ["math/bits.divideError", "math/bits.overflowError"], apart := false }
def FnExactRowTrivialSaid : Prop := fnExactRowTrivialRow.holds Tryz.pinned (OpenSpec.ofChange fnExactRowTrivialSpec)

/-- ITS FALSE NEIGHBOUR: 'it returns false'. Refute it at one input. -/
def fnExactRowTrivialWrong : ChangeSpec := { name := "fnExactRowTrivial", fn := fun _ => fun
  | [d] => { results := [.lit (.bool false)], args := [d] }
  | _ => none }
def FnExactRowTrivialWrongFalsely : Prop := fnExactRowTrivialRow.holds Tryz.pinned (OpenSpec.ofChange fnExactRowTrivialWrong)

/-- 'laws.FnExactRowImplies': WHATEVER THE INPUT: true; the input reads as it did. -/
def fnExactRowImpliesSpec : ChangeSpec := { name := "fnExactRowImplies", fn := fun _ => fun
  | [d1, d2] => { results := [.lit (.bool true)], args := [d1, d2] }
  | _ => none }
def fnExactRowImpliesRow : OpenClaim := { program := "ythkehmnodcmlcaagreat", sum := "018423e99221bdab90ed326e2f719152958e710011126305270c28257ba01639", func := "loop.example/g00802/laws.FnExactRowImplies", spec := "fnExactRowImplies", inPlace := ["math/bits.Add64"], unfollowed := true, recurses := true, named := ["math/bits.divideError", "math/bits.overflowError"], apart := false }
def FnExactRowImpliesSaid : Prop := fnExactRowImpliesRow.holds Tryz.pinned (OpenSpec.ofChange fnExactRowImpliesSpec)

/-- ITS FALSE NEIGHBOUR: 'it returns false'. Refute it at one input. -/
def fnExactRowImpliesWrong : ChangeSpec := { name := "fnExactRowImplies", fn := fun _ => fun
  | [d1, d2] => { results := [.lit (.bool false)], args := [d1, d2] }
  | _ => none }
def FnExactRowImpliesWrongFalsely : Prop := fnExactRowImpliesRow.holds Tryz.pinned (OpenSpec.ofChange fnExactRowImpliesWrong)

/-- 'laws.FnRow': WHATEVER THE INPUT: true; the input reads as it did. -/
def fnRowSpec : ChangeSpec := { name := "fnRow", fn := fun _ => fun
  | [d] => { results := [.lit (.bool true)], args := [d] }
  | _ => none }
def fnRowRow : OpenClaim := { program := "ythkehmnodcmlcaagreat", sum := "018423e99221bdab90ed326e2f719152958e710011126305270c28257ba01639", func := "loop.example/g00802/laws.FnRow", spec := "fnRow", inPlace := ["math/bits.Add64"], unfollowed := true, recurses := true, named := ["math/bits.divideError", "math/bits.overflowError"], apart := false }
def FnRowSaid : Prop := fnRowRow.holds Tryz.pinned (OpenSpec.ofChange fnRowSpec)

/-- ITS FALSE NEIGHBOUR: 'it returns false'. Refute it at one input. -/
def fnRowWrong : ChangeSpec := { name := "fnRow", fn := fun _ => fun
  | [d] => { results := [.lit (.bool false)], args := [d] }
  | _ => none }
def FnRowWrongFalsely : Prop := fnRowRow.holds Tryz.pinned (OpenSpec.ofChange fnRowWrong)

/-- 'laws.FnImplies': WHATEVER THE INPUT: true; the input reads as it did. -/
def fnImpliesSpec : ChangeSpec := { name := "fnImplies", fn := fun _ => fun
  | [d] => { results := [.lit (.bool true)], args := [d] }
  | _ => none }
def fnImpliesRow : OpenClaim := { program := "ythkehmnodcmlcaagreat", sum := "018423e99221bdab90ed326e2f719152958e710011126305270c28257ba01639", func := "loop.example/g00802/laws.FnImplies", spec := "fnImplies", inPlace := ["math/bits.Add64"], unfollowed := true, recurses := true, named := ["math/bits.divideError", "math/bits.overflowError"], apart := false }
def FnImpliesSaid : Prop := fnImpliesRow.holds Tryz.pinned (OpenSpec.ofChange fnImpliesSpec)

/-- ITS FALSE NEIGHBOUR: 'it returns false'. Refute it at one input. -/
def fnImpliesWrong : ChangeSpec := { name := "fnImplies", fn := fun _ => fun
  | [d] => { results := [.lit (.bool false)], args := [d] }
  | _ => none }
def FnImpliesWrongFalsely : Prop := fnImpliesRow.holds Tryz.pinned (OpenSpec.ofChange fnImpliesWrong)

/-- 'laws.FnExactDet': WHATEVER THE INPUT: true; the input reads as it did. -/
def fnExactDetSpec : ChangeSpec := { name := "fnExactDet", fn := fun _ => fun
  | [d] => { results := [.lit (.bool true)], args := [d] }
  | _ => none }
def fnExactDetRow : OpenClaim := { program := "ythkehmnodcmlcaagreat", sum := "018423e99221bdab90ed326e2f719152958e710011126305270c28257ba01639", func := "loop.example/g00802/laws.FnExactDet", spec := "fnExactDet", inPlace := ["math/bits.Add64"], unfollowed := true, recurses := true, named := ["math/bits.divideError", "math/bits.overflowError"], apart := false }
def FnExactDetSaid : Prop := fnExactDetRow.holds Tryz.pinned (OpenSpec.ofChange fnExactDetSpec)

/-- ITS FALSE NEIGHBOUR: 'it returns false'. Refute it at one input. -/
def fnExactDetWrong : ChangeSpec := { name := "fnExactDet", fn := fun _ => fun
  | [d] => { results := [.lit (.bool false)], args := [d] }
  | _ => none }
def FnExactDetWrongFalsely : Prop := fnExactDetRow.holds Tryz.pinned (OpenSpec.ofChange fnExactDetWrong)

/- THE SECOND FORM. 'bulk': how many values and letters a reading holds, each counted each time it is reached (what is shared counts as often as it is met; a slice's spare places count too). A statement '..UptoSaid' is the law's where the arguments, and the package variables that the reading takes, are together of bulk at most 1048576: NARROWER than '..Said'. Prove '..Said' where nothing that the law and all that it calls make is longer than what came in: it says more and counts as full. Else prove '..UptoSaid'. A law counts once. -/
mutual
def uptoBulk {H : Type} : DataW H → Nat
  | .lit (.string bytes) => bytes.length + 1
  | .lit _ => 1
  | .nil => 1
  | .ptr d => uptoBulk d + 1
  | .slice elems spare => uptoBulkAll elems + uptoBulkAll spare + 1
  | .agg parts => uptoBulkAll parts + 1
  | .iface _ d => uptoBulk d + 1
  | .map entries => uptoBulkEntries entries + 1
  | .held _ => 1
def uptoBulkAll {H : Type} : List (DataW H) → Nat
  | [] => 0
  | d :: r => uptoBulk d + uptoBulkAll r
def uptoBulkEntries {H : Type} : List (Lit × DataW H) → Nat
  | [] => 0
  | x :: r => uptoBulkEntry x + uptoBulkEntries r
def uptoBulkEntry {H : Type} : Lit × DataW H → Nat
  | (.string bytes, d) => bytes.length + uptoBulk d + 1
  | (_, d) => uptoBulk d + 1
 end
def uptoSmall : (H : Type) → List (DataW H) → Bool := fun _ ds => decide (uptoBulkAll ds ≤ 1048576)
def OpenSpec.upto (s : _root_.Go.ChangeSpec) : _root_.Go.OpenSpec := { _root_.Go.OpenSpec.ofChange s with cond := some uptoSmall }

/-- 'laws.FnExactRowHolds', WHERE WHAT IT READS IS OF BULK AT MOST 1048576: true; the input reads as it did. -/
def fnExactRowHoldsUptoRow : OpenClaim := { program := "ythkehmnodcmlcaagreat", sum := "018423e99221bdab90ed326e2f719152958e710011126305270c28257ba01639", func := "loop.example/g00802/laws.FnExactRowHolds", spec := "fnExactRowHolds", inPlace := ["math/bits.Add64"], unfollowed := true, recurses := true, named := ["math/bits.divideError", "math/bits.overflowError"], apart := false, narrowed := true }
def FnExactRowHoldsUptoSaid : Prop := fnExactRowHoldsUptoRow.holds Tryz.pinned (OpenSpec.upto fnExactRowHoldsSpec)

/-- 'laws.FnExactRowSlack', WHERE WHAT IT READS IS OF BULK AT MOST 1048576: true; the input reads as it did. -/
def fnExactRowSlackUptoRow : OpenClaim := { program := "ythkehmnodcmlcaagreat", sum := "018423e99221bdab90ed326e2f719152958e710011126305270c28257ba01639", func := "loop.example/g00802/laws.FnExactRowSlack", spec := "fnExactRowSlack", inPlace := ["math/bits.Add64"], unfollowed := true, recurses := true, named := ["math/bits.divideError", "math/bits.overflowError"], apart := false, narrowed := true }
def FnExactRowSlackUptoSaid : Prop := fnExactRowSlackUptoRow.holds Tryz.pinned (OpenSpec.upto fnExactRowSlackSpec)

/-- 'laws.FnExactRowScale', WHERE WHAT IT READS IS OF BULK AT MOST 1048576: true; the input reads as it did. -/
def fnExactRowScaleUptoRow : OpenClaim := { program := "ythkehmnodcmlcaagreat", sum := "018423e99221bdab90ed326e2f719152958e710011126305270c28257ba01639", func := "loop.example/g00802/laws.FnExactRowScale", spec := "fnExactRowScale", inPlace := ["math/bits.Add64"], unfollowed := true, recurses := true, named := ["math/bits.divideError", "math/bits.overflowError"], apart := false, narrowed := true }
def FnExactRowScaleUptoSaid : Prop := fnExactRowScaleUptoRow.holds Tryz.pinned (OpenSpec.upto fnExactRowScaleSpec)

/-- 'laws.FnExactRowNegate', WHERE WHAT IT READS IS OF BULK AT MOST 1048576: true; the input reads as it did. -/
def fnExactRowNegateUptoRow : OpenClaim := { program := "ythkehmnodcmlcaagreat", sum := "018423e99221bdab90ed326e2f719152958e710011126305270c28257ba01639", func := "loop.example/g00802/laws.FnExactRowNegate", spec := "fnExactRowNegate", inPlace := ["math/bits.Add64"], unfollowed := true, recurses := true, named := ["math/bits.divideError", "math/bits.overflowError"], apart := false, narrowed := true }
def FnExactRowNegateUptoSaid : Prop := fnExactRowNegateUptoRow.holds Tryz.pinned (OpenSpec.upto fnExactRowNegateSpec)

/-- 'laws.FnExactRowInfeasible', WHERE WHAT IT READS IS OF BULK AT MOST 1048576: true; the input reads as it did. -/
def fnExactRowInfeasibleUptoRow : OpenClaim := { program := "ythkehmnodcmlcaagreat", sum := "018423e99221bdab90ed326e2f719152958e710011126305270c28257ba01639", func := "loop.example/g00802/laws.FnExactRowInfeasible", spec := "fnExactRowInfeasible", inPlace := ["math/bits.Add64"], unfollowed := true, recurses := true, named := ["math/bits.divideError", "math/bits.overflowError"], apart := false, narrowed := true }
def FnExactRowInfeasibleUptoSaid : Prop := fnExactRowInfeasibleUptoRow.holds Tryz.pinned (OpenSpec.upto fnExactRowInfeasibleSpec)

/-- 'laws.FnExactRowTrivial', WHERE WHAT IT READS IS OF BULK AT MOST 1048576: true; the input reads as it did. -/
def fnExactRowTrivialUptoRow : OpenClaim := { program := "ythkehmnodcmlcaagreat", sum := "018423e99221bdab90ed326e2f719152958e710011126305270c28257ba01639", func := "loop.example/g00802/laws.FnExactRowTrivial", spec := "fnExactRowTrivial", inPlace := ["math/bits.Add64"], unfollowed := true, recurses := true, named := ["math/bits.divideError", "math/bits.overflowError"], apart := false, narrowed := true }
def FnExactRowTrivialUptoSaid : Prop := fnExactRowTrivialUptoRow.holds Tryz.pinned (OpenSpec.upto fnExactRowTrivialSpec)

/-- 'laws.FnExactRowImplies', WHERE WHAT IT READS IS OF BULK AT MOST 1048576: true; the input reads as it did. -/
def fnExactRowImpliesUptoRow : OpenClaim := { program := "ythkehmnodcmlcaagreat", sum := "018423e99221bdab90ed326e2f719152958e710011126305270c28257ba01639", func := "loop.example/g00802/laws.FnExactRowImplies", spec := "fnExactRowImplies", inPlace := ["math/bits.Add64"], unfollowed := true, recurses := true, named := ["math/bits.divideError", "math/bits.overflowError"], apart := false, narrowed := true }
def FnExactRowImpliesUptoSaid : Prop := fnExactRowImpliesUptoRow.holds Tryz.pinned (OpenSpec.upto fnExactRowImpliesSpec)

/-- 'laws.FnRow', WHERE WHAT IT READS IS OF BULK AT MOST 1048576: true; the input reads as it did. -/
def fnRowUptoRow : OpenClaim := { program := "ythkehmnodcmlcaagreat", sum := "018423e99221bdab90ed326e2f719152958e710011126305270c28257ba01639", func := "loop.example/g00802/laws.FnRow", spec := "fnRow", inPlace := ["math/bits.Add64"], unfollowed := true, recurses := true, named := ["math/bits.divideError", "math/bits.overflowError"], apart := false, narrowed := true }
def FnRowUptoSaid : Prop := fnRowUptoRow.holds Tryz.pinned (OpenSpec.upto fnRowSpec)

/-- 'laws.FnImplies', WHERE WHAT IT READS IS OF BULK AT MOST 1048576: true; the input reads as it did. -/
def fnImpliesUptoRow : OpenClaim := { program := "ythkehmnodcmlcaagreat", sum := "018423e99221bdab90ed326e2f719152958e710011126305270c28257ba01639", func := "loop.example/g00802/laws.FnImplies", spec := "fnImplies", inPlace := ["math/bits.Add64"], unfollowed := true, recurses := true, named := ["math/bits.divideError", "math/bits.overflowError"], apart := false, narrowed := true }
def FnImpliesUptoSaid : Prop := fnImpliesUptoRow.holds Tryz.pinned (OpenSpec.upto fnImpliesSpec)

/-- 'laws.FnExactDet', WHERE WHAT IT READS IS OF BULK AT MOST 1048576: true; the input reads as it did. -/
def fnExactDetUptoRow : OpenClaim := { program := "ythkehmnodcmlcaagreat", sum := "018423e99221bdab90ed326e2f719152958e710011126305270c28257ba01639", func := "loop.example/g00802/laws.FnExactDet", spec := "fnExactDet", inPlace := ["math/bits.Add64"], unfollowed := true, recurses := true, named := ["math/bits.divideError", "math/bits.overflowError"], apart := false, narrowed := true }
def FnExactDetUptoSaid : Prop := fnExactDetUptoRow.holds Tryz.pinned (OpenSpec.upto fnExactDetSpec)

end Rows
end Go.Proofs.YthkehmnodcmlcaaGreat
