/-
  No cell of these rows narrows 'for every input' (looked for: loops, veiled, ifaces, maps, wideKeys, modest, calm, conditions, laid).
  DERIVED. THE GIVEN ROWS OF THIS SEAT. 7 by the template 'for every input the law returns true; each argument reads behind the call as it read before'; 0 by the template 'total and deterministic' (their statements: YtookglpeieennaaGreatTotals.lean).
  GIVEN WITH THE SEED: the statements are not yours to turn. If you find one false, say at which input.
  Laid BY PROGRAM, IN A SANDBOX (cutbox-rows.mjs): the forced cells as the released guide's own fill.sh prints them over the translation 963b12b6e20a4057… (all of the seat's roots in one cut). By AI agents, Wed Nov 11 2026. No macro, syntax, notation, axiom, sorry.
-/
import Derived.Test.YtookglpeieennaaGreatChecked
import GoSem.Claim
import GoSem.ClaimJoined
import GoSem.ClaimMapViews
import Derived.JoinedTies
import Derived.KernelRfl
namespace Go.Proofs.YtookglpeieennaaGreat
/- THE CELL 'sum', in the pinned program and in every row, IS THE sha256 OF THE DUMP (.gsa) THAT YtookglpeieennaaGreatProg.lean LOADS. Nothing in Lean hashes anything: it is a label: what it is worth is what the hold of that sum in a sandbox is worth. -/
noncomputable def Tryz.pinned : Pinned := { name := "ytookglpeieennaagreat", sum := "963b12b6e20a4057869020e3ccf61afa33ed1769fda09b083e6398dbabdb5163", checked := Tryz.checked }
namespace Rows
def none {H : Type} : Left H := { results := [], args := [] }

/-- 'laws.FnFloor': WHATEVER THE INPUT: true; the input reads as it did. -/
def fnFloorSpec : ChangeSpec := { name := "fnFloor", fn := fun _ => fun
  | [d] => { results := [.lit (.bool true)], args := [d] }
  | _ => none }
def fnFloorRow : OpenClaim := { program := "ytookglpeieennaagreat", sum := "963b12b6e20a4057869020e3ccf61afa33ed1769fda09b083e6398dbabdb5163", func := "loop.example/g00802/laws.FnFloor", spec := "fnFloor", inPlace := ["math/bits.Add64"], unfollowed := true, recurses := true, named := ["math/bits.divideError", "math/bits.overflowError"], apart := false }
def FnFloorSaid : Prop := fnFloorRow.holds Tryz.pinned (OpenSpec.ofChange fnFloorSpec)

/-- ITS FALSE NEIGHBOUR: 'it returns false'. Refute it at one input. -/
def fnFloorWrong : ChangeSpec := { name := "fnFloor", fn := fun _ => fun
  | [d] => { results := [.lit (.bool false)], args := [d] }
  | _ => none }
def FnFloorWrongFalsely : Prop := fnFloorRow.holds Tryz.pinned (OpenSpec.ofChange fnFloorWrong)

/-- 'laws.FnSimple': WHATEVER THE INPUT: true; the input reads as it did. -/
def fnSimpleSpec : ChangeSpec := { name := "fnSimple", fn := fun _ => fun
  | [d] => { results := [.lit (.bool true)], args := [d] }
  | _ => none }
def fnSimpleRow : OpenClaim := { program := "ytookglpeieennaagreat", sum := "963b12b6e20a4057869020e3ccf61afa33ed1769fda09b083e6398dbabdb5163", func := "loop.example/g00802/laws.FnSimple", spec := "fnSimple", inPlace := ["math/bits.Add64"], unfollowed := true, recurses := true, named := ["math/bits.divideError", "math/bits.overflowError"], apart := false }
def FnSimpleSaid : Prop := fnSimpleRow.holds Tryz.pinned (OpenSpec.ofChange fnSimpleSpec)

/-- ITS FALSE NEIGHBOUR: 'it returns false'. Refute it at one input. -/
def fnSimpleWrong : ChangeSpec := { name := "fnSimple", fn := fun _ => fun
  | [d] => { results := [.lit (.bool false)], args := [d] }
  | _ => none }
def FnSimpleWrongFalsely : Prop := fnSimpleRow.holds Tryz.pinned (OpenSpec.ofChange fnSimpleWrong)

/-- 'laws.FnExactRatFrac': WHATEVER THE INPUT: true; the input reads as it did. -/
def fnExactRatFracSpec : ChangeSpec := { name := "fnExactRatFrac", fn := fun _ => fun
  | [d] => { results := [.lit (.bool true)], args := [d] }
  | _ => none }
def fnExactRatFracRow : OpenClaim := { program := "ytookglpeieennaagreat", sum := "963b12b6e20a4057869020e3ccf61afa33ed1769fda09b083e6398dbabdb5163", func := "loop.example/g00802/laws.FnExactRatFrac", spec := "fnExactRatFrac", inPlace := ["math/bits.Add64"], unfollowed := true, recurses := true, named := ["math/bits.divideError", "math/bits.overflowError"], apart := false }
def FnExactRatFracSaid : Prop := fnExactRatFracRow.holds Tryz.pinned (OpenSpec.ofChange fnExactRatFracSpec)

/-- ITS FALSE NEIGHBOUR: 'it returns false'. Refute it at one input. -/
def fnExactRatFracWrong : ChangeSpec := { name := "fnExactRatFrac", fn := fun _ => fun
  | [d] => { results := [.lit (.bool false)], args := [d] }
  | _ => none }
def FnExactRatFracWrongFalsely : Prop := fnExactRatFracRow.holds Tryz.pinned (OpenSpec.ofChange fnExactRatFracWrong)

/-- 'laws.FnExactRatNearest': WHATEVER THE INPUT: true; the input reads as it did. -/
def fnExactRatNearestSpec : ChangeSpec := { name := "fnExactRatNearest", fn := fun _ => fun
  | [d] => { results := [.lit (.bool true)], args := [d] }
  | _ => none }
def fnExactRatNearestRow : OpenClaim := { program := "ytookglpeieennaagreat", sum := "963b12b6e20a4057869020e3ccf61afa33ed1769fda09b083e6398dbabdb5163", func := "loop.example/g00802/laws.FnExactRatNearest", spec := "fnExactRatNearest", inPlace := ["math/bits.Add64"], unfollowed := true, recurses := true, named := ["math/bits.divideError", "math/bits.overflowError"], apart := false }
def FnExactRatNearestSaid : Prop := fnExactRatNearestRow.holds Tryz.pinned (OpenSpec.ofChange fnExactRatNearestSpec)

/-- ITS FALSE NEIGHBOUR: 'it returns false'. Refute it at one input. -/
def fnExactRatNearestWrong : ChangeSpec := { name := "fnExactRatNearest", fn := fun _ => fun
  | [d] => { results := [.lit (.bool false)], args := [d] }
  | _ => none }
def FnExactRatNearestWrongFalsely : Prop := fnExactRatNearestRow.holds Tryz.pinned (OpenSpec.ofChange fnExactRatNearestWrong)

/-- 'laws.FnExactRatDistance': WHATEVER THE INPUT: true; the input reads as it did. -/
def fnExactRatDistanceSpec : ChangeSpec := { name := "fnExactRatDistance", fn := fun _ => fun
  | [d] => { results := [.lit (.bool true)], args := [d] }
  | _ => none }
def fnExactRatDistanceRow : OpenClaim := { program := "ytookglpeieennaagreat", sum := "963b12b6e20a4057869020e3ccf61afa33ed1769fda09b083e6398dbabdb5163", func := "loop.example/g00802/laws.FnExactRatDistance", spec := "fnExactRatDistance", inPlace := ["math/bits.Add64"], unfollowed := true, recurses := true, named := ["math/bits.divideError", "math/bits.overflowError"], apart := false }
def FnExactRatDistanceSaid : Prop := fnExactRatDistanceRow.holds Tryz.pinned (OpenSpec.ofChange fnExactRatDistanceSpec)

/-- ITS FALSE NEIGHBOUR: 'it returns false'. Refute it at one input. -/
def fnExactRatDistanceWrong : ChangeSpec := { name := "fnExactRatDistance", fn := fun _ => fun
  | [d] => { results := [.lit (.bool false)], args := [d] }
  | _ => none }
def FnExactRatDistanceWrongFalsely : Prop := fnExactRatDistanceRow.holds Tryz.pinned (OpenSpec.ofChange fnExactRatDistanceWrong)

/-- 'laws.FnExactSimplestBetween': WHATEVER THE INPUT: true; the input reads as it did. -/
def fnExactSimplestBetweenSpec : ChangeSpec := { name := "fnExactSimplestBetween", fn := fun _ => fun
  | [d1, d2] => { results := [.lit (.bool true)], args := [d1, d2] }
  | _ => none }
def fnExactSimplestBetweenRow : OpenClaim := { program := "ytookglpeieennaagreat", sum := "963b12b6e20a4057869020e3ccf61afa33ed1769fda09b083e6398dbabdb5163", func := "loop.example/g00802/laws.FnExactSimplestBetween", spec := "fnExactSimplestBetween", inPlace := ["math/bits.Add64"], recurses := true, named := ["math/bits.divideError", "math/bits.overflowError"], apart := false }
def FnExactSimplestBetweenSaid : Prop := fnExactSimplestBetweenRow.holds Tryz.pinned (OpenSpec.ofChange fnExactSimplestBetweenSpec)

/-- ITS FALSE NEIGHBOUR: 'it returns false'. Refute it at one input. -/
def fnExactSimplestBetweenWrong : ChangeSpec := { name := "fnExactSimplestBetween", fn := fun _ => fun
  | [d1, d2] => { results := [.lit (.bool false)], args := [d1, d2] }
  | _ => none }
def FnExactSimplestBetweenWrongFalsely : Prop := fnExactSimplestBetweenRow.holds Tryz.pinned (OpenSpec.ofChange fnExactSimplestBetweenWrong)

/-- 'laws.FnExactCountInts': WHATEVER THE INPUT: true; the input reads as it did. -/
def fnExactCountIntsSpec : ChangeSpec := { name := "fnExactCountInts", fn := fun _ => fun
  | [d1, d2] => { results := [.lit (.bool true)], args := [d1, d2] }
  | _ => none }
def fnExactCountIntsRow : OpenClaim := { program := "ytookglpeieennaagreat", sum := "963b12b6e20a4057869020e3ccf61afa33ed1769fda09b083e6398dbabdb5163", func := "loop.example/g00802/laws.FnExactCountInts", spec := "fnExactCountInts", inPlace := ["math/bits.Add64"], unfollowed := true, recurses := true, named := ["math/bits.divideError", "math/bits.overflowError"], apart := false }
def FnExactCountIntsSaid : Prop := fnExactCountIntsRow.holds Tryz.pinned (OpenSpec.ofChange fnExactCountIntsSpec)

/-- ITS FALSE NEIGHBOUR: 'it returns false'. Refute it at one input. -/
def fnExactCountIntsWrong : ChangeSpec := { name := "fnExactCountInts", fn := fun _ => fun
  | [d1, d2] => { results := [.lit (.bool false)], args := [d1, d2] }
  | _ => none }
def FnExactCountIntsWrongFalsely : Prop := fnExactCountIntsRow.holds Tryz.pinned (OpenSpec.ofChange fnExactCountIntsWrong)

/- THE SECOND FORM. 'bulk': how many values and letters a reading holds, each counted each time it is reached (what is shared counts as often as it is met; a slice's spare places count too). A statement '..UptoSaid' is the law's where the arguments, and the package variables that the reading takes, are together of bulk at most 1048576: NARROWER than '..Said'. Prove '..Said' where nothing that the law and all that it calls make is longer than what came in: it says more and counts as full. Else prove '..UptoSaid'. A law counts once. -/
mutual
def uptoBulk {H : Type} : DataW H → Nat
  | .lit (.string bytes) => bytes.length + 1
  | .lit _ => 1
  | .nil => 1
  | .ptr d => uptoBulk d + 1
  | .slice elems spare => uptoBulkAll elems + uptoBulkAll spare + 1
  | .agg parts => uptoBulkAll parts + 1
  | .iface _ d => uptoBulk d + 1
  | .map entries => uptoBulkEntries entries + 1
  | .held _ => 1
def uptoBulkAll {H : Type} : List (DataW H) → Nat
  | [] => 0
  | d :: r => uptoBulk d + uptoBulkAll r
def uptoBulkEntries {H : Type} : List (Lit × DataW H) → Nat
  | [] => 0
  | x :: r => uptoBulkEntry x + uptoBulkEntries r
def uptoBulkEntry {H : Type} : Lit × DataW H → Nat
  | (.string bytes, d) => bytes.length + uptoBulk d + 1
  | (_, d) => uptoBulk d + 1
 end
def uptoSmall : (H : Type) → List (DataW H) → Bool := fun _ ds => decide (uptoBulkAll ds ≤ 1048576)
def OpenSpec.upto (s : _root_.Go.ChangeSpec) : _root_.Go.OpenSpec := { _root_.Go.OpenSpec.ofChange s with cond := some uptoSmall }

/-- 'laws.FnFloor', WHERE WHAT IT READS IS OF BULK AT MOST 1048576: true; the input reads as it did. -/
def fnFloorUptoRow : OpenClaim := { program := "ytookglpeieennaagreat", sum := "963b12b6e20a4057869020e3ccf61afa33ed1769fda09b083e6398dbabdb5163", func := "loop.example/g00802/laws.FnFloor", spec := "fnFloor", inPlace := ["math/bits.Add64"], unfollowed := true, recurses := true, named := ["math/bits.divideError", "math/bits.overflowError"], apart := false, narrowed := true }
def FnFloorUptoSaid : Prop := fnFloorUptoRow.holds Tryz.pinned (OpenSpec.upto fnFloorSpec)

/-- 'laws.FnSimple', WHERE WHAT IT READS IS OF BULK AT MOST 1048576: true; the input reads as it did. -/
def fnSimpleUptoRow : OpenClaim := { program := "ytookglpeieennaagreat", sum := "963b12b6e20a4057869020e3ccf61afa33ed1769fda09b083e6398dbabdb5163", func := "loop.example/g00802/laws.FnSimple", spec := "fnSimple", inPlace := ["math/bits.Add64"], unfollowed := true, recurses := true, named := ["math/bits.divideError", "math/bits.overflowError"], apart := false, narrowed := true }
def FnSimpleUptoSaid : Prop := fnSimpleUptoRow.holds Tryz.pinned (OpenSpec.upto fnSimpleSpec)

/-- 'laws.FnExactRatFrac', WHERE WHAT IT READS IS OF BULK AT MOST 1048576: true; the input reads as it did. -/
def fnExactRatFracUptoRow : OpenClaim := { program := "ytookglpeieennaagreat", sum := "963b12b6e20a4057869020e3ccf61afa33ed1769fda09b083e6398dbabdb5163", func := "loop.example/g00802/laws.FnExactRatFrac", spec := "fnExactRatFrac", inPlace := ["math/bits.Add64"], unfollowed := true, recurses := true, named := ["math/bits.divideError", "math/bits.overflowError"], apart := false, narrowed := true }
def FnExactRatFracUptoSaid : Prop := fnExactRatFracUptoRow.holds Tryz.pinned (OpenSpec.upto fnExactRatFracSpec)

/-- 'laws.FnExactRatNearest', WHERE WHAT IT READS IS OF BULK AT MOST 1048576: true; the input reads as it did. -/
def fnExactRatNearestUptoRow : OpenClaim := { program := "ytookglpeieennaagreat", sum := "963b12b6e20a4057869020e3ccf61afa33ed1769fda09b083e6398dbabdb5163", func := "loop.example/g00802/laws.FnExactRatNearest", spec := "fnExactRatNearest", inPlace := ["math/bits.Add64"], unfollowed := true, recurses := true, named := ["math/bits.divideError", "math/bits.overflowError"], apart := false, narrowed := true }
def FnExactRatNearestUptoSaid : Prop := fnExactRatNearestUptoRow.holds Tryz.pinned (OpenSpec.upto fnExactRatNearestSpec)

/-- 'laws.FnExactRatDistance', WHERE WHAT IT READS IS OF BULK AT MOST 1048576: true; the input reads as it did. -/
def fnExactRatDistanceUptoRow : OpenClaim := { program := "ytookglpeieennaagreat", sum := "963b12b6e20a4057869020e3ccf61afa33ed1769fda09b083e6398dbabdb5163", func := "loop.example/g00802/laws.FnExactRatDistance", spec := "fnExactRatDistance", inPlace := ["math/bits.Add64"], unfollowed := true, recurses := true, named := ["math/bits.divideError", "math/bits.overflowError"], apart := false, narrowed := true }
def FnExactRatDistanceUptoSaid : Prop := fnExactRatDistanceUptoRow.holds Tryz.pinned (OpenSpec.upto fnExactRatDistanceSpec)

/-- 'laws.FnExactSimplestBetween', WHERE WHAT IT READS IS OF BULK AT MOST 1048576: true; the input reads as it did. -/
def fnExactSimplestBetweenUptoRow : OpenClaim := { program := "ytookglpeieennaagreat", sum := "963b12b6e20a4057869020e3ccf61afa33ed1769fda09b083e6398dbabdb5163", func := "loop.example/g00802/laws.FnExactSimplestBetween", spec := "fnExactSimplestBetween", inPlace := ["math/bits.Add64"], recurses := true, named := ["math/bits.divideError", "math/bits.overflowError"], apart := false, narrowed := true }
def FnExactSimplestBetweenUptoSaid : Prop := fnExactSimplestBetweenUptoRow.holds Tryz.pinned (OpenSpec.upto fnExactSimplestBetweenSpec)

/-- 'laws.FnExactCountInts', WHERE WHAT IT READS IS OF BULK AT MOST 1048576: true; the input reads as it did. -/
def fnExactCountIntsUptoRow : OpenClaim := { program := "ytookglpeieennaagreat", sum := "963b12b6e20a4057869020e3ccf61afa33ed1769fda09b083e6398dbabdb5163", func := "loop.example/g00802/laws.FnExactCountInts", spec := "fnExactCountInts", inPlace := ["math/bits.Add64"], unfollowed := true, recurses := true, named := ["math/bits.divideError", "math/bits.overflowError"], apart := false, narrowed := true }
def FnExactCountIntsUptoSaid : Prop := fnExactCountIntsUptoRow.holds Tryz.pinned (OpenSpec.upto fnExactCountIntsSpec)

end Rows
end Go.Proofs.YtookglpeieennaaGreat
