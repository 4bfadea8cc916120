/-
  No cell of these rows narrows 'for every input' (looked for: loops, veiled, ifaces, maps, wideKeys, modest, calm, conditions, laid).
  DERIVED. THE GIVEN ROWS OF THIS SEAT. 6 by the template 'for every input the law returns true; each argument reads behind the call as it read before'; 0 by the template 'total and deterministic' (their statements: YtookglpeieennaaTotals.lean).
  GIVEN WITH THE SEED: the statements are not yours to turn. If you find one false, say at which input.
  Laid BY PROGRAM, IN A SANDBOX (cutbox-rows.mjs): the forced cells as the released guide's own fill.sh prints them over the translation d10f37adbd133c0a… (all of the seat's roots in one cut). By AI agents, Wed Nov 11 2026. No macro, syntax, notation, axiom, sorry.
-/
import Derived.Test.YtookglpeieennaaChecked
import GoSem.Claim
import GoSem.ClaimJoined
import GoSem.ClaimMapViews
import Derived.JoinedTies
import Derived.KernelRfl
namespace Go.Proofs.Ytookglpeieennaa
/- THE CELL 'sum', in the pinned program and in every row, IS THE sha256 OF THE DUMP (.gsa) THAT YtookglpeieennaaProg.lean LOADS. Nothing in Lean hashes anything: it is a label: what it is worth is what the hold of that sum in a sandbox is worth. -/
noncomputable def Try.pinned : Pinned := { name := "ytookglpeieennaa", sum := "d10f37adbd133c0a0736aa4e869c9982354dd60483f16d65cece2d3ec12e1e37", checked := Try.checked }
namespace Rows
def none {H : Type} : Left H := { results := [], args := [] }

/-- 'laws.FnDens': WHATEVER THE INPUT: true; the input reads as it did. -/
def fnDensSpec : ChangeSpec := { name := "fnDens", fn := fun _ => fun
  | [d] => { results := [.lit (.bool true)], args := [d] }
  | _ => none }
def fnDensRow : OpenClaim := { program := "ytookglpeieennaa", sum := "d10f37adbd133c0a0736aa4e869c9982354dd60483f16d65cece2d3ec12e1e37", func := "loop.example/g00802/laws.FnDens", spec := "fnDens", inPlace := ["math/bits.Add64"], unfollowed := true, recurses := true, named := ["math/bits.divideError", "math/bits.overflowError"], apart := false }
def FnDensSaid : Prop := fnDensRow.holds Try.pinned (OpenSpec.ofChange fnDensSpec)

/-- ITS FALSE NEIGHBOUR: 'it returns false'. Refute it at one input. -/
def fnDensWrong : ChangeSpec := { name := "fnDens", fn := fun _ => fun
  | [d] => { results := [.lit (.bool false)], args := [d] }
  | _ => none }
def FnDensWrongFalsely : Prop := fnDensRow.holds Try.pinned (OpenSpec.ofChange fnDensWrong)

/-- 'laws.FnExactRatFloor': WHATEVER THE INPUT: true; the input reads as it did. -/
def fnExactRatFloorSpec : ChangeSpec := { name := "fnExactRatFloor", fn := fun _ => fun
  | [d] => { results := [.lit (.bool true)], args := [d] }
  | _ => none }
def fnExactRatFloorRow : OpenClaim := { program := "ytookglpeieennaa", sum := "d10f37adbd133c0a0736aa4e869c9982354dd60483f16d65cece2d3ec12e1e37", func := "loop.example/g00802/laws.FnExactRatFloor", spec := "fnExactRatFloor", inPlace := ["math/bits.Add64"], unfollowed := true, recurses := true, named := ["math/bits.divideError", "math/bits.overflowError"], apart := false }
def FnExactRatFloorSaid : Prop := fnExactRatFloorRow.holds Try.pinned (OpenSpec.ofChange fnExactRatFloorSpec)

/-- ITS FALSE NEIGHBOUR: 'it returns false'. Refute it at one input. -/
def fnExactRatFloorWrong : ChangeSpec := { name := "fnExactRatFloor", fn := fun _ => fun
  | [d] => { results := [.lit (.bool false)], args := [d] }
  | _ => none }
def FnExactRatFloorWrongFalsely : Prop := fnExactRatFloorRow.holds Try.pinned (OpenSpec.ofChange fnExactRatFloorWrong)

/-- 'laws.FnExactRatCeil': WHATEVER THE INPUT: true; the input reads as it did. -/
def fnExactRatCeilSpec : ChangeSpec := { name := "fnExactRatCeil", fn := fun _ => fun
  | [d] => { results := [.lit (.bool true)], args := [d] }
  | _ => none }
def fnExactRatCeilRow : OpenClaim := { program := "ytookglpeieennaa", sum := "d10f37adbd133c0a0736aa4e869c9982354dd60483f16d65cece2d3ec12e1e37", func := "loop.example/g00802/laws.FnExactRatCeil", spec := "fnExactRatCeil", inPlace := ["math/bits.Add64"], unfollowed := true, recurses := true, named := ["math/bits.divideError", "math/bits.overflowError"], apart := false }
def FnExactRatCeilSaid : Prop := fnExactRatCeilRow.holds Try.pinned (OpenSpec.ofChange fnExactRatCeilSpec)

/-- ITS FALSE NEIGHBOUR: 'it returns false'. Refute it at one input. -/
def fnExactRatCeilWrong : ChangeSpec := { name := "fnExactRatCeil", fn := fun _ => fun
  | [d] => { results := [.lit (.bool false)], args := [d] }
  | _ => none }
def FnExactRatCeilWrongFalsely : Prop := fnExactRatCeilRow.holds Try.pinned (OpenSpec.ofChange fnExactRatCeilWrong)

/-- 'laws.FnExactRatIsInt': WHATEVER THE INPUT: true; the input reads as it did. -/
def fnExactRatIsIntSpec : ChangeSpec := { name := "fnExactRatIsInt", fn := fun _ => fun
  | [d] => { results := [.lit (.bool true)], args := [d] }
  | _ => none }
def fnExactRatIsIntRow : OpenClaim := { program := "ytookglpeieennaa", sum := "d10f37adbd133c0a0736aa4e869c9982354dd60483f16d65cece2d3ec12e1e37", func := "loop.example/g00802/laws.FnExactRatIsInt", spec := "fnExactRatIsInt", inPlace := ["math/bits.Add64"], named := ["math/bits.divideError", "math/bits.overflowError"], apart := false }
def FnExactRatIsIntSaid : Prop := fnExactRatIsIntRow.holds Try.pinned (OpenSpec.ofChange fnExactRatIsIntSpec)

/-- ITS FALSE NEIGHBOUR: 'it returns false'. Refute it at one input. -/
def fnExactRatIsIntWrong : ChangeSpec := { name := "fnExactRatIsInt", fn := fun _ => fun
  | [d] => { results := [.lit (.bool false)], args := [d] }
  | _ => none }
def FnExactRatIsIntWrongFalsely : Prop := fnExactRatIsIntRow.holds Try.pinned (OpenSpec.ofChange fnExactRatIsIntWrong)

/-- 'laws.FnExactCommonDenominator': WHATEVER THE INPUT: true; the input reads as it did. -/
def fnExactCommonDenominatorSpec : ChangeSpec := { name := "fnExactCommonDenominator", fn := fun _ => fun
  | [d] => { results := [.lit (.bool true)], args := [d] }
  | _ => none }
def fnExactCommonDenominatorRow : OpenClaim := { program := "ytookglpeieennaa", sum := "d10f37adbd133c0a0736aa4e869c9982354dd60483f16d65cece2d3ec12e1e37", func := "loop.example/g00802/laws.FnExactCommonDenominator", spec := "fnExactCommonDenominator", inPlace := ["math/bits.Add64"], named := ["math/bits.divideError", "math/bits.overflowError"], apart := false }
def FnExactCommonDenominatorSaid : Prop := fnExactCommonDenominatorRow.holds Try.pinned (OpenSpec.ofChange fnExactCommonDenominatorSpec)

/-- ITS FALSE NEIGHBOUR: 'it returns false'. Refute it at one input. -/
def fnExactCommonDenominatorWrong : ChangeSpec := { name := "fnExactCommonDenominator", fn := fun _ => fun
  | [d] => { results := [.lit (.bool false)], args := [d] }
  | _ => none }
def FnExactCommonDenominatorWrongFalsely : Prop := fnExactCommonDenominatorRow.holds Try.pinned (OpenSpec.ofChange fnExactCommonDenominatorWrong)

/-- 'laws.FnExactNumeratorGcd': WHATEVER THE INPUT: true; the input reads as it did. -/
def fnExactNumeratorGcdSpec : ChangeSpec := { name := "fnExactNumeratorGcd", fn := fun _ => fun
  | [d] => { results := [.lit (.bool true)], args := [d] }
  | _ => none }
def fnExactNumeratorGcdRow : OpenClaim := { program := "ytookglpeieennaa", sum := "d10f37adbd133c0a0736aa4e869c9982354dd60483f16d65cece2d3ec12e1e37", func := "loop.example/g00802/laws.FnExactNumeratorGcd", spec := "fnExactNumeratorGcd", inPlace := ["math/bits.Add64"], named := ["math/bits.divideError", "math/bits.overflowError"], apart := false }
def FnExactNumeratorGcdSaid : Prop := fnExactNumeratorGcdRow.holds Try.pinned (OpenSpec.ofChange fnExactNumeratorGcdSpec)

/-- ITS FALSE NEIGHBOUR: 'it returns false'. Refute it at one input. -/
def fnExactNumeratorGcdWrong : ChangeSpec := { name := "fnExactNumeratorGcd", fn := fun _ => fun
  | [d] => { results := [.lit (.bool false)], args := [d] }
  | _ => none }
def FnExactNumeratorGcdWrongFalsely : Prop := fnExactNumeratorGcdRow.holds Try.pinned (OpenSpec.ofChange fnExactNumeratorGcdWrong)

/- THE SECOND FORM. 'bulk': how many values and letters a reading holds, each counted each time it is reached (what is shared counts as often as it is met; a slice's spare places count too). A statement '..UptoSaid' is the law's where the arguments, and the package variables that the reading takes, are together of bulk at most 1048576: NARROWER than '..Said'. Prove '..Said' where nothing that the law and all that it calls make is longer than what came in: it says more and counts as full. Else prove '..UptoSaid'. A law counts once. -/
mutual
def uptoBulk {H : Type} : DataW H → Nat
  | .lit (.string bytes) => bytes.length + 1
  | .lit _ => 1
  | .nil => 1
  | .ptr d => uptoBulk d + 1
  | .slice elems spare => uptoBulkAll elems + uptoBulkAll spare + 1
  | .agg parts => uptoBulkAll parts + 1
  | .iface _ d => uptoBulk d + 1
  | .map entries => uptoBulkEntries entries + 1
  | .held _ => 1
def uptoBulkAll {H : Type} : List (DataW H) → Nat
  | [] => 0
  | d :: r => uptoBulk d + uptoBulkAll r
def uptoBulkEntries {H : Type} : List (Lit × DataW H) → Nat
  | [] => 0
  | x :: r => uptoBulkEntry x + uptoBulkEntries r
def uptoBulkEntry {H : Type} : Lit × DataW H → Nat
  | (.string bytes, d) => bytes.length + uptoBulk d + 1
  | (_, d) => uptoBulk d + 1
 end
def uptoSmall : (H : Type) → List (DataW H) → Bool := fun _ ds => decide (uptoBulkAll ds ≤ 1048576)
def OpenSpec.upto (s : _root_.Go.ChangeSpec) : _root_.Go.OpenSpec := { _root_.Go.OpenSpec.ofChange s with cond := some uptoSmall }

/-- 'laws.FnDens', WHERE WHAT IT READS IS OF BULK AT MOST 1048576: true; the input reads as it did. -/
def fnDensUptoRow : OpenClaim := { program := "ytookglpeieennaa", sum := "d10f37adbd133c0a0736aa4e869c9982354dd60483f16d65cece2d3ec12e1e37", func := "loop.example/g00802/laws.FnDens", spec := "fnDens", inPlace := ["math/bits.Add64"], unfollowed := true, recurses := true, named := ["math/bits.divideError", "math/bits.overflowError"], apart := false, narrowed := true }
def FnDensUptoSaid : Prop := fnDensUptoRow.holds Try.pinned (OpenSpec.upto fnDensSpec)

/-- 'laws.FnExactRatFloor', WHERE WHAT IT READS IS OF BULK AT MOST 1048576: true; the input reads as it did. -/
def fnExactRatFloorUptoRow : OpenClaim := { program := "ytookglpeieennaa", sum := "d10f37adbd133c0a0736aa4e869c9982354dd60483f16d65cece2d3ec12e1e37", func := "loop.example/g00802/laws.FnExactRatFloor", spec := "fnExactRatFloor", inPlace := ["math/bits.Add64"], unfollowed := true, recurses := true, named := ["math/bits.divideError", "math/bits.overflowError"], apart := false, narrowed := true }
def FnExactRatFloorUptoSaid : Prop := fnExactRatFloorUptoRow.holds Try.pinned (OpenSpec.upto fnExactRatFloorSpec)

/-- 'laws.FnExactRatCeil', WHERE WHAT IT READS IS OF BULK AT MOST 1048576: true; the input reads as it did. -/
def fnExactRatCeilUptoRow : OpenClaim := { program := "ytookglpeieennaa", sum := "d10f37adbd133c0a0736aa4e869c9982354dd60483f16d65cece2d3ec12e1e37", func := "loop.example/g00802/laws.FnExactRatCeil", spec := "fnExactRatCeil", inPlace := ["math/bits.Add64"], unfollowed := true, recurses := true, named := ["math/bits.divideError", "math/bits.overflowError"], apart := false, narrowed := true }
def FnExactRatCeilUptoSaid : Prop := fnExactRatCeilUptoRow.holds Try.pinned (OpenSpec.upto fnExactRatCeilSpec)

/-- 'laws.FnExactRatIsInt', WHERE WHAT IT READS IS OF BULK AT MOST 1048576: true; the input reads as it did. -/
def fnExactRatIsIntUptoRow : OpenClaim := { program := "ytookglpeieennaa", sum := "d10f37adbd133c0a0736aa4e869c9982354dd60483f16d65cece2d3ec12e1e37", func := "loop.example/g00802/laws.FnExactRatIsInt", spec := "fnExactRatIsInt", inPlace := ["math/bits.Add64"], named := ["math/bits.divideError", "math/bits.overflowError"], apart := false, narrowed := true }
def FnExactRatIsIntUptoSaid : Prop := fnExactRatIsIntUptoRow.holds Try.pinned (OpenSpec.upto fnExactRatIsIntSpec)

/-- 'laws.FnExactCommonDenominator', WHERE WHAT IT READS IS OF BULK AT MOST 1048576: true; the input reads as it did. -/
def fnExactCommonDenominatorUptoRow : OpenClaim := { program := "ytookglpeieennaa", sum := "d10f37adbd133c0a0736aa4e869c9982354dd60483f16d65cece2d3ec12e1e37", func := "loop.example/g00802/laws.FnExactCommonDenominator", spec := "fnExactCommonDenominator", inPlace := ["math/bits.Add64"], named := ["math/bits.divideError", "math/bits.overflowError"], apart := false, narrowed := true }
def FnExactCommonDenominatorUptoSaid : Prop := fnExactCommonDenominatorUptoRow.holds Try.pinned (OpenSpec.upto fnExactCommonDenominatorSpec)

/-- 'laws.FnExactNumeratorGcd', WHERE WHAT IT READS IS OF BULK AT MOST 1048576: true; the input reads as it did. -/
def fnExactNumeratorGcdUptoRow : OpenClaim := { program := "ytookglpeieennaa", sum := "d10f37adbd133c0a0736aa4e869c9982354dd60483f16d65cece2d3ec12e1e37", func := "loop.example/g00802/laws.FnExactNumeratorGcd", spec := "fnExactNumeratorGcd", inPlace := ["math/bits.Add64"], named := ["math/bits.divideError", "math/bits.overflowError"], apart := false, narrowed := true }
def FnExactNumeratorGcdUptoSaid : Prop := fnExactNumeratorGcdUptoRow.holds Try.pinned (OpenSpec.upto fnExactNumeratorGcdSpec)

end Rows
end Go.Proofs.Ytookglpeieennaa
