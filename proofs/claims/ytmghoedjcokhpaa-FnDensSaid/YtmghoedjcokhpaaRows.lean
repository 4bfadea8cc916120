/-
  No cell of these rows narrows 'for every input' (looked for: loops, veiled, ifaces, maps, wideKeys, modest, calm, conditions, laid).
  DERIVED. THE GIVEN ROWS OF THIS SEAT. 11 by the template 'for every input the law returns true; each argument reads behind the call as it read before'; 0 by the template 'total and deterministic' (their statements: YtmghoedjcokhpaaTotals.lean).
  GIVEN WITH THE SEED: the statements are not yours to turn. If you find one false, say at which input.
  Laid BY PROGRAM, IN A SANDBOX (cutbox-rows.mjs): the forced cells as the released guide's own fill.sh prints them over the translation 0371ffe5d5c1554b… (all of the seat's roots in one cut). By AI agents, Wed Nov 11 2026. No macro, syntax, notation, axiom, sorry.
-/
import Derived.Test.YtmghoedjcokhpaaChecked
import GoSem.Claim
import GoSem.ClaimJoined
import GoSem.ClaimMapViews
import Derived.JoinedTies
import Derived.KernelRfl
namespace Go.Proofs.Ytmghoedjcokhpaa
/- THE CELL 'sum', in the pinned program and in every row, IS THE sha256 OF THE DUMP (.gsa) THAT YtmghoedjcokhpaaProg.lean LOADS. Nothing in Lean hashes anything: it is a label: what it is worth is what the hold of that sum in a sandbox is worth. -/
noncomputable def Try.pinned : Pinned := { name := "ytmghoedjcokhpaa", sum := "0371ffe5d5c1554b8fe444468eb36eb596637f6a2a9f837405c2f7a73736a405", checked := Try.checked }
namespace Rows
def none {H : Type} : Left H := { results := [], args := [] }

/-- 'laws.FnExactVecOk': WHATEVER THE INPUT: true; the input reads as it did. -/
def fnExactVecOkSpec : ChangeSpec := { name := "fnExactVecOk", fn := fun _ => fun
  | [d] => { results := [.lit (.bool true)], args := [d] }
  | _ => none }
def fnExactVecOkRow : OpenClaim := { program := "ytmghoedjcokhpaa", sum := "0371ffe5d5c1554b8fe444468eb36eb596637f6a2a9f837405c2f7a73736a405", func := "loop.example/g00802/laws.FnExactVecOk", spec := "fnExactVecOk", inPlace := ["math/bits.Add64"], named := ["math/bits.divideError", "math/bits.overflowError"], apart := false }
def FnExactVecOkSaid : Prop := fnExactVecOkRow.holds Try.pinned (OpenSpec.ofChange fnExactVecOkSpec)

/-- ITS FALSE NEIGHBOUR: 'it returns false'. Refute it at one input. -/
def fnExactVecOkWrong : ChangeSpec := { name := "fnExactVecOk", fn := fun _ => fun
  | [d] => { results := [.lit (.bool false)], args := [d] }
  | _ => none }
def FnExactVecOkWrongFalsely : Prop := fnExactVecOkRow.holds Try.pinned (OpenSpec.ofChange fnExactVecOkWrong)

/-- 'laws.FnExactVecZero': WHATEVER THE INPUT: true; the input reads as it did. -/
def fnExactVecZeroSpec : ChangeSpec := { name := "fnExactVecZero", fn := fun _ => fun
  | [d] => { results := [.lit (.bool true)], args := [d] }
  | _ => none }
def fnExactVecZeroRow : OpenClaim := { program := "ytmghoedjcokhpaa", sum := "0371ffe5d5c1554b8fe444468eb36eb596637f6a2a9f837405c2f7a73736a405", func := "loop.example/g00802/laws.FnExactVecZero", spec := "fnExactVecZero", apart := false }
def FnExactVecZeroSaid : Prop := fnExactVecZeroRow.holds Try.pinned (OpenSpec.ofChange fnExactVecZeroSpec)

/-- ITS FALSE NEIGHBOUR: 'it returns false'. Refute it at one input. -/
def fnExactVecZeroWrong : ChangeSpec := { name := "fnExactVecZero", fn := fun _ => fun
  | [d] => { results := [.lit (.bool false)], args := [d] }
  | _ => none }
def FnExactVecZeroWrongFalsely : Prop := fnExactVecZeroRow.holds Try.pinned (OpenSpec.ofChange fnExactVecZeroWrong)

/-- 'laws.FnExactVecUnit': WHATEVER THE INPUT: true; the input reads as it did. -/
def fnExactVecUnitSpec : ChangeSpec := { name := "fnExactVecUnit", fn := fun _ => fun
  | [d1, d2] => { results := [.lit (.bool true)], args := [d1, d2] }
  | _ => none }
def fnExactVecUnitRow : OpenClaim := { program := "ytmghoedjcokhpaa", sum := "0371ffe5d5c1554b8fe444468eb36eb596637f6a2a9f837405c2f7a73736a405", func := "loop.example/g00802/laws.FnExactVecUnit", spec := "fnExactVecUnit", apart := false }
def FnExactVecUnitSaid : Prop := fnExactVecUnitRow.holds Try.pinned (OpenSpec.ofChange fnExactVecUnitSpec)

/-- ITS FALSE NEIGHBOUR: 'it returns false'. Refute it at one input. -/
def fnExactVecUnitWrong : ChangeSpec := { name := "fnExactVecUnit", fn := fun _ => fun
  | [d1, d2] => { results := [.lit (.bool false)], args := [d1, d2] }
  | _ => none }
def FnExactVecUnitWrongFalsely : Prop := fnExactVecUnitRow.holds Try.pinned (OpenSpec.ofChange fnExactVecUnitWrong)

/-- 'laws.FnExactVecAdd': WHATEVER THE INPUT: true; the input reads as it did. -/
def fnExactVecAddSpec : ChangeSpec := { name := "fnExactVecAdd", fn := fun _ => fun
  | [d1, d2] => { results := [.lit (.bool true)], args := [d1, d2] }
  | _ => none }
def fnExactVecAddRow : OpenClaim := { program := "ytmghoedjcokhpaa", sum := "0371ffe5d5c1554b8fe444468eb36eb596637f6a2a9f837405c2f7a73736a405", func := "loop.example/g00802/laws.FnExactVecAdd", spec := "fnExactVecAdd", inPlace := ["math/bits.Add64"], unfollowed := true, recurses := true, named := ["math/bits.divideError", "math/bits.overflowError"], apart := false }
def FnExactVecAddSaid : Prop := fnExactVecAddRow.holds Try.pinned (OpenSpec.ofChange fnExactVecAddSpec)

/-- ITS FALSE NEIGHBOUR: 'it returns false'. Refute it at one input. -/
def fnExactVecAddWrong : ChangeSpec := { name := "fnExactVecAdd", fn := fun _ => fun
  | [d1, d2] => { results := [.lit (.bool false)], args := [d1, d2] }
  | _ => none }
def FnExactVecAddWrongFalsely : Prop := fnExactVecAddRow.holds Try.pinned (OpenSpec.ofChange fnExactVecAddWrong)

/-- 'laws.FnExactVecSub': WHATEVER THE INPUT: true; the input reads as it did. -/
def fnExactVecSubSpec : ChangeSpec := { name := "fnExactVecSub", fn := fun _ => fun
  | [d1, d2] => { results := [.lit (.bool true)], args := [d1, d2] }
  | _ => none }
def fnExactVecSubRow : OpenClaim := { program := "ytmghoedjcokhpaa", sum := "0371ffe5d5c1554b8fe444468eb36eb596637f6a2a9f837405c2f7a73736a405", func := "loop.example/g00802/laws.FnExactVecSub", spec := "fnExactVecSub", inPlace := ["math/bits.Add64"], unfollowed := true, recurses := true, named := ["math/bits.divideError", "math/bits.overflowError"], apart := false }
def FnExactVecSubSaid : Prop := fnExactVecSubRow.holds Try.pinned (OpenSpec.ofChange fnExactVecSubSpec)

/-- ITS FALSE NEIGHBOUR: 'it returns false'. Refute it at one input. -/
def fnExactVecSubWrong : ChangeSpec := { name := "fnExactVecSub", fn := fun _ => fun
  | [d1, d2] => { results := [.lit (.bool false)], args := [d1, d2] }
  | _ => none }
def FnExactVecSubWrongFalsely : Prop := fnExactVecSubRow.holds Try.pinned (OpenSpec.ofChange fnExactVecSubWrong)

/-- 'laws.FnExactVecScale': WHATEVER THE INPUT: true; the input reads as it did. -/
def fnExactVecScaleSpec : ChangeSpec := { name := "fnExactVecScale", fn := fun _ => fun
  | [d1, d2] => { results := [.lit (.bool true)], args := [d1, d2] }
  | _ => none }
def fnExactVecScaleRow : OpenClaim := { program := "ytmghoedjcokhpaa", sum := "0371ffe5d5c1554b8fe444468eb36eb596637f6a2a9f837405c2f7a73736a405", func := "loop.example/g00802/laws.FnExactVecScale", spec := "fnExactVecScale", inPlace := ["math/bits.Add64"], unfollowed := true, recurses := true, named := ["math/bits.divideError", "math/bits.overflowError"], apart := false }
def FnExactVecScaleSaid : Prop := fnExactVecScaleRow.holds Try.pinned (OpenSpec.ofChange fnExactVecScaleSpec)

/-- ITS FALSE NEIGHBOUR: 'it returns false'. Refute it at one input. -/
def fnExactVecScaleWrong : ChangeSpec := { name := "fnExactVecScale", fn := fun _ => fun
  | [d1, d2] => { results := [.lit (.bool false)], args := [d1, d2] }
  | _ => none }
def FnExactVecScaleWrongFalsely : Prop := fnExactVecScaleRow.holds Try.pinned (OpenSpec.ofChange fnExactVecScaleWrong)

/-- 'laws.FnExactVecEqual': WHATEVER THE INPUT: true; the input reads as it did. -/
def fnExactVecEqualSpec : ChangeSpec := { name := "fnExactVecEqual", fn := fun _ => fun
  | [d1, d2] => { results := [.lit (.bool true)], args := [d1, d2] }
  | _ => none }
def fnExactVecEqualRow : OpenClaim := { program := "ytmghoedjcokhpaa", sum := "0371ffe5d5c1554b8fe444468eb36eb596637f6a2a9f837405c2f7a73736a405", func := "loop.example/g00802/laws.FnExactVecEqual", spec := "fnExactVecEqual", unfollowed := true, recurses := true, apart := false }
def FnExactVecEqualSaid : Prop := fnExactVecEqualRow.holds Try.pinned (OpenSpec.ofChange fnExactVecEqualSpec)

/-- ITS FALSE NEIGHBOUR: 'it returns false'. Refute it at one input. -/
def fnExactVecEqualWrong : ChangeSpec := { name := "fnExactVecEqual", fn := fun _ => fun
  | [d1, d2] => { results := [.lit (.bool false)], args := [d1, d2] }
  | _ => none }
def FnExactVecEqualWrongFalsely : Prop := fnExactVecEqualRow.holds Try.pinned (OpenSpec.ofChange fnExactVecEqualWrong)

/-- 'laws.FnExactVecArgMin': WHATEVER THE INPUT: true; the input reads as it did. -/
def fnExactVecArgMinSpec : ChangeSpec := { name := "fnExactVecArgMin", fn := fun _ => fun
  | [d] => { results := [.lit (.bool true)], args := [d] }
  | _ => none }
def fnExactVecArgMinRow : OpenClaim := { program := "ytmghoedjcokhpaa", sum := "0371ffe5d5c1554b8fe444468eb36eb596637f6a2a9f837405c2f7a73736a405", func := "loop.example/g00802/laws.FnExactVecArgMin", spec := "fnExactVecArgMin", inPlace := ["math/bits.Add64"], named := ["math/bits.divideError", "math/bits.overflowError"], apart := false }
def FnExactVecArgMinSaid : Prop := fnExactVecArgMinRow.holds Try.pinned (OpenSpec.ofChange fnExactVecArgMinSpec)

/-- ITS FALSE NEIGHBOUR: 'it returns false'. Refute it at one input. -/
def fnExactVecArgMinWrong : ChangeSpec := { name := "fnExactVecArgMin", fn := fun _ => fun
  | [d] => { results := [.lit (.bool false)], args := [d] }
  | _ => none }
def FnExactVecArgMinWrongFalsely : Prop := fnExactVecArgMinRow.holds Try.pinned (OpenSpec.ofChange fnExactVecArgMinWrong)

/-- 'laws.FnDens': WHATEVER THE INPUT: true; the input reads as it did. -/
def fnDensSpec : ChangeSpec := { name := "fnDens", fn := fun _ => fun
  | [d] => { results := [.lit (.bool true)], args := [d] }
  | _ => none }
def fnDensRow : OpenClaim := { program := "ytmghoedjcokhpaa", sum := "0371ffe5d5c1554b8fe444468eb36eb596637f6a2a9f837405c2f7a73736a405", func := "loop.example/g00802/laws.FnDens", spec := "fnDens", inPlace := ["math/bits.Add64"], unfollowed := true, recurses := true, named := ["math/bits.divideError", "math/bits.overflowError"], apart := false }
def FnDensSaid : Prop := fnDensRow.holds Try.pinned (OpenSpec.ofChange fnDensSpec)

/-- ITS FALSE NEIGHBOUR: 'it returns false'. Refute it at one input. -/
def fnDensWrong : ChangeSpec := { name := "fnDens", fn := fun _ => fun
  | [d] => { results := [.lit (.bool false)], args := [d] }
  | _ => none }
def FnDensWrongFalsely : Prop := fnDensRow.holds Try.pinned (OpenSpec.ofChange fnDensWrong)

/-- 'laws.FnExactCommonDenominator': WHATEVER THE INPUT: true; the input reads as it did. -/
def fnExactCommonDenominatorSpec : ChangeSpec := { name := "fnExactCommonDenominator", fn := fun _ => fun
  | [d] => { results := [.lit (.bool true)], args := [d] }
  | _ => none }
def fnExactCommonDenominatorRow : OpenClaim := { program := "ytmghoedjcokhpaa", sum := "0371ffe5d5c1554b8fe444468eb36eb596637f6a2a9f837405c2f7a73736a405", func := "loop.example/g00802/laws.FnExactCommonDenominator", spec := "fnExactCommonDenominator", inPlace := ["math/bits.Add64"], named := ["math/bits.divideError", "math/bits.overflowError"], apart := false }
def FnExactCommonDenominatorSaid : Prop := fnExactCommonDenominatorRow.holds Try.pinned (OpenSpec.ofChange fnExactCommonDenominatorSpec)

/-- ITS FALSE NEIGHBOUR: 'it returns false'. Refute it at one input. -/
def fnExactCommonDenominatorWrong : ChangeSpec := { name := "fnExactCommonDenominator", fn := fun _ => fun
  | [d] => { results := [.lit (.bool false)], args := [d] }
  | _ => none }
def FnExactCommonDenominatorWrongFalsely : Prop := fnExactCommonDenominatorRow.holds Try.pinned (OpenSpec.ofChange fnExactCommonDenominatorWrong)

/-- 'laws.FnExactNumeratorGcd': WHATEVER THE INPUT: true; the input reads as it did. -/
def fnExactNumeratorGcdSpec : ChangeSpec := { name := "fnExactNumeratorGcd", fn := fun _ => fun
  | [d] => { results := [.lit (.bool true)], args := [d] }
  | _ => none }
def fnExactNumeratorGcdRow : OpenClaim := { program := "ytmghoedjcokhpaa", sum := "0371ffe5d5c1554b8fe444468eb36eb596637f6a2a9f837405c2f7a73736a405", func := "loop.example/g00802/laws.FnExactNumeratorGcd", spec := "fnExactNumeratorGcd", inPlace := ["math/bits.Add64"], named := ["math/bits.divideError", "math/bits.overflowError"], apart := false }
def FnExactNumeratorGcdSaid : Prop := fnExactNumeratorGcdRow.holds Try.pinned (OpenSpec.ofChange fnExactNumeratorGcdSpec)

/-- ITS FALSE NEIGHBOUR: 'it returns false'. Refute it at one input. -/
def fnExactNumeratorGcdWrong : ChangeSpec := { name := "fnExactNumeratorGcd", fn := fun _ => fun
  | [d] => { results := [.lit (.bool false)], args := [d] }
  | _ => none }
def FnExactNumeratorGcdWrongFalsely : Prop := fnExactNumeratorGcdRow.holds Try.pinned (OpenSpec.ofChange fnExactNumeratorGcdWrong)

/- THE SECOND FORM. 'bulk': how many values and letters a reading holds, each counted each time it is reached (what is shared counts as often as it is met; a slice's spare places count too). A statement '..UptoSaid' is the law's where the arguments, and the package variables that the reading takes, are together of bulk at most 1048576: NARROWER than '..Said'. Prove '..Said' where nothing that the law and all that it calls make is longer than what came in: it says more and counts as full. Else prove '..UptoSaid'. A law counts once. -/
mutual
def uptoBulk {H : Type} : DataW H → Nat
  | .lit (.string bytes) => bytes.length + 1
  | .lit _ => 1
  | .nil => 1
  | .ptr d => uptoBulk d + 1
  | .slice elems spare => uptoBulkAll elems + uptoBulkAll spare + 1
  | .agg parts => uptoBulkAll parts + 1
  | .iface _ d => uptoBulk d + 1
  | .map entries => uptoBulkEntries entries + 1
  | .held _ => 1
def uptoBulkAll {H : Type} : List (DataW H) → Nat
  | [] => 0
  | d :: r => uptoBulk d + uptoBulkAll r
def uptoBulkEntries {H : Type} : List (Lit × DataW H) → Nat
  | [] => 0
  | x :: r => uptoBulkEntry x + uptoBulkEntries r
def uptoBulkEntry {H : Type} : Lit × DataW H → Nat
  | (.string bytes, d) => bytes.length + uptoBulk d + 1
  | (_, d) => uptoBulk d + 1
 end
def uptoSmall : (H : Type) → List (DataW H) → Bool := fun _ ds => decide (uptoBulkAll ds ≤ 1048576)
def OpenSpec.upto (s : _root_.Go.ChangeSpec) : _root_.Go.OpenSpec := { _root_.Go.OpenSpec.ofChange s with cond := some uptoSmall }

/-- 'laws.FnExactVecOk', WHERE WHAT IT READS IS OF BULK AT MOST 1048576: true; the input reads as it did. -/
def fnExactVecOkUptoRow : OpenClaim := { program := "ytmghoedjcokhpaa", sum := "0371ffe5d5c1554b8fe444468eb36eb596637f6a2a9f837405c2f7a73736a405", func := "loop.example/g00802/laws.FnExactVecOk", spec := "fnExactVecOk", inPlace := ["math/bits.Add64"], named := ["math/bits.divideError", "math/bits.overflowError"], apart := false, narrowed := true }
def FnExactVecOkUptoSaid : Prop := fnExactVecOkUptoRow.holds Try.pinned (OpenSpec.upto fnExactVecOkSpec)

/-- 'laws.FnExactVecZero', WHERE WHAT IT READS IS OF BULK AT MOST 1048576: true; the input reads as it did. -/
def fnExactVecZeroUptoRow : OpenClaim := { program := "ytmghoedjcokhpaa", sum := "0371ffe5d5c1554b8fe444468eb36eb596637f6a2a9f837405c2f7a73736a405", func := "loop.example/g00802/laws.FnExactVecZero", spec := "fnExactVecZero", apart := false, narrowed := true }
def FnExactVecZeroUptoSaid : Prop := fnExactVecZeroUptoRow.holds Try.pinned (OpenSpec.upto fnExactVecZeroSpec)

/-- 'laws.FnExactVecUnit', WHERE WHAT IT READS IS OF BULK AT MOST 1048576: true; the input reads as it did. -/
def fnExactVecUnitUptoRow : OpenClaim := { program := "ytmghoedjcokhpaa", sum := "0371ffe5d5c1554b8fe444468eb36eb596637f6a2a9f837405c2f7a73736a405", func := "loop.example/g00802/laws.FnExactVecUnit", spec := "fnExactVecUnit", apart := false, narrowed := true }
def FnExactVecUnitUptoSaid : Prop := fnExactVecUnitUptoRow.holds Try.pinned (OpenSpec.upto fnExactVecUnitSpec)

/-- 'laws.FnExactVecAdd', WHERE WHAT IT READS IS OF BULK AT MOST 1048576: true; the input reads as it did. -/
def fnExactVecAddUptoRow : OpenClaim := { program := "ytmghoedjcokhpaa", sum := "0371ffe5d5c1554b8fe444468eb36eb596637f6a2a9f837405c2f7a73736a405", func := "loop.example/g00802/laws.FnExactVecAdd", spec := "fnExactVecAdd", inPlace := ["math/bits.Add64"], unfollowed := true, recurses := true, named := ["math/bits.divideError", "math/bits.overflowError"], apart := false, narrowed := true }
def FnExactVecAddUptoSaid : Prop := fnExactVecAddUptoRow.holds Try.pinned (OpenSpec.upto fnExactVecAddSpec)

/-- 'laws.FnExactVecSub', WHERE WHAT IT READS IS OF BULK AT MOST 1048576: true; the input reads as it did. -/
def fnExactVecSubUptoRow : OpenClaim := { program := "ytmghoedjcokhpaa", sum := "0371ffe5d5c1554b8fe444468eb36eb596637f6a2a9f837405c2f7a73736a405", func := "loop.example/g00802/laws.FnExactVecSub", spec := "fnExactVecSub", inPlace := ["math/bits.Add64"], unfollowed := true, recurses := true, named := ["math/bits.divideError", "math/bits.overflowError"], apart := false, narrowed := true }
def FnExactVecSubUptoSaid : Prop := fnExactVecSubUptoRow.holds Try.pinned (OpenSpec.upto fnExactVecSubSpec)

/-- 'laws.FnExactVecScale', WHERE WHAT IT READS IS OF BULK AT MOST 1048576: true; the input reads as it did. -/
def fnExactVecScaleUptoRow : OpenClaim := { program := "ytmghoedjcokhpaa", sum := "0371ffe5d5c1554b8fe444468eb36eb596637f6a2a9f837405c2f7a73736a405", func := "loop.example/g00802/laws.FnExactVecScale", spec := "fnExactVecScale", inPlace := ["math/bits.Add64"], unfollowed := true, recurses := true, named := ["math/bits.divideError", "math/bits.overflowError"], apart := false, narrowed := true }
def FnExactVecScaleUptoSaid : Prop := fnExactVecScaleUptoRow.holds Try.pinned (OpenSpec.upto fnExactVecScaleSpec)

/-- 'laws.FnExactVecEqual', WHERE WHAT IT READS IS OF BULK AT MOST 1048576: true; the input reads as it did. -/
def fnExactVecEqualUptoRow : OpenClaim := { program := "ytmghoedjcokhpaa", sum := "0371ffe5d5c1554b8fe444468eb36eb596637f6a2a9f837405c2f7a73736a405", func := "loop.example/g00802/laws.FnExactVecEqual", spec := "fnExactVecEqual", unfollowed := true, recurses := true, apart := false, narrowed := true }
def FnExactVecEqualUptoSaid : Prop := fnExactVecEqualUptoRow.holds Try.pinned (OpenSpec.upto fnExactVecEqualSpec)

/-- 'laws.FnExactVecArgMin', WHERE WHAT IT READS IS OF BULK AT MOST 1048576: true; the input reads as it did. -/
def fnExactVecArgMinUptoRow : OpenClaim := { program := "ytmghoedjcokhpaa", sum := "0371ffe5d5c1554b8fe444468eb36eb596637f6a2a9f837405c2f7a73736a405", func := "loop.example/g00802/laws.FnExactVecArgMin", spec := "fnExactVecArgMin", inPlace := ["math/bits.Add64"], named := ["math/bits.divideError", "math/bits.overflowError"], apart := false, narrowed := true }
def FnExactVecArgMinUptoSaid : Prop := fnExactVecArgMinUptoRow.holds Try.pinned (OpenSpec.upto fnExactVecArgMinSpec)

/-- 'laws.FnDens', WHERE WHAT IT READS IS OF BULK AT MOST 1048576: true; the input reads as it did. -/
def fnDensUptoRow : OpenClaim := { program := "ytmghoedjcokhpaa", sum := "0371ffe5d5c1554b8fe444468eb36eb596637f6a2a9f837405c2f7a73736a405", func := "loop.example/g00802/laws.FnDens", spec := "fnDens", inPlace := ["math/bits.Add64"], unfollowed := true, recurses := true, named := ["math/bits.divideError", "math/bits.overflowError"], apart := false, narrowed := true }
def FnDensUptoSaid : Prop := fnDensUptoRow.holds Try.pinned (OpenSpec.upto fnDensSpec)

/-- 'laws.FnExactCommonDenominator', WHERE WHAT IT READS IS OF BULK AT MOST 1048576: true; the input reads as it did. -/
def fnExactCommonDenominatorUptoRow : OpenClaim := { program := "ytmghoedjcokhpaa", sum := "0371ffe5d5c1554b8fe444468eb36eb596637f6a2a9f837405c2f7a73736a405", func := "loop.example/g00802/laws.FnExactCommonDenominator", spec := "fnExactCommonDenominator", inPlace := ["math/bits.Add64"], named := ["math/bits.divideError", "math/bits.overflowError"], apart := false, narrowed := true }
def FnExactCommonDenominatorUptoSaid : Prop := fnExactCommonDenominatorUptoRow.holds Try.pinned (OpenSpec.upto fnExactCommonDenominatorSpec)

/-- 'laws.FnExactNumeratorGcd', WHERE WHAT IT READS IS OF BULK AT MOST 1048576: true; the input reads as it did. -/
def fnExactNumeratorGcdUptoRow : OpenClaim := { program := "ytmghoedjcokhpaa", sum := "0371ffe5d5c1554b8fe444468eb36eb596637f6a2a9f837405c2f7a73736a405", func := "loop.example/g00802/laws.FnExactNumeratorGcd", spec := "fnExactNumeratorGcd", inPlace := ["math/bits.Add64"], named := ["math/bits.divideError", "math/bits.overflowError"], apart := false, narrowed := true }
def FnExactNumeratorGcdUptoSaid : Prop := fnExactNumeratorGcdUptoRow.holds Try.pinned (OpenSpec.upto fnExactNumeratorGcdSpec)

end Rows
end Go.Proofs.Ytmghoedjcokhpaa
