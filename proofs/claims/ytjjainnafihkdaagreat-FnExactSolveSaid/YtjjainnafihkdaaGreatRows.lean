/-
  No cell of these rows narrows 'for every input' (looked for: loops, veiled, ifaces, maps, wideKeys, modest, calm, conditions, laid).
  DERIVED. THE GIVEN ROWS OF THIS SEAT. 12 by the template 'for every input the law returns true; each argument reads behind the call as it read before'; 0 by the template 'total and deterministic' (their statements: YtjjainnafihkdaaGreatTotals.lean).
  GIVEN WITH THE SEED: the statements are not yours to turn. If you find one false, say at which input.
  Laid BY PROGRAM, IN A SANDBOX (cutbox-rows.mjs): the forced cells as the released guide's own fill.sh prints them over the translation d83b2226778d2d73… (all of the seat's roots in one cut). By AI agents, Wed Nov 11 2026. No macro, syntax, notation, axiom, sorry.
-/
import Derived.Test.YtjjainnafihkdaaGreatChecked
import GoSem.Claim
import GoSem.ClaimJoined
import GoSem.ClaimMapViews
import Derived.JoinedTies
import Derived.KernelRfl
namespace Go.Proofs.YtjjainnafihkdaaGreat
/- THE CELL 'sum', in the pinned program and in every row, IS THE sha256 OF THE DUMP (.gsa) THAT YtjjainnafihkdaaGreatProg.lean LOADS. Nothing in Lean hashes anything: it is a label: what it is worth is what the hold of that sum in a sandbox is worth. -/
noncomputable def Tryz.pinned : Pinned := { name := "ytjjainnafihkdaagreat", sum := "d83b2226778d2d73d4d8c7b6d595ffde87c4cff65d3142586d4a402c09f59f8d", checked := Tryz.checked }
namespace Rows
def none {H : Type} : Left H := { results := [], args := [] }

/-- 'laws.FnExactFactorize': WHATEVER THE INPUT: true; the input reads as it did. -/
def fnExactFactorizeSpec : ChangeSpec := { name := "fnExactFactorize", fn := fun _ => fun
  | [d] => { results := [.lit (.bool true)], args := [d] }
  | _ => none }
def fnExactFactorizeRow : OpenClaim := { program := "ytjjainnafihkdaagreat", sum := "d83b2226778d2d73d4d8c7b6d595ffde87c4cff65d3142586d4a402c09f59f8d", func := "loop.example/g00802/laws.FnExactFactorize", spec := "fnExactFactorize", inPlace := ["math/bits.Add64"], unfollowed := true, recurses := true, named := ["math/bits.divideError", "math/bits.overflowError"], apart := false }
def FnExactFactorizeSaid : Prop := fnExactFactorizeRow.holds Tryz.pinned (OpenSpec.ofChange fnExactFactorizeSpec)

/-- ITS FALSE NEIGHBOUR: 'it returns false'. Refute it at one input. -/
def fnExactFactorizeWrong : ChangeSpec := { name := "fnExactFactorize", fn := fun _ => fun
  | [d] => { results := [.lit (.bool false)], args := [d] }
  | _ => none }
def FnExactFactorizeWrongFalsely : Prop := fnExactFactorizeRow.holds Tryz.pinned (OpenSpec.ofChange fnExactFactorizeWrong)

/-- 'laws.FnExactFactorSolve': WHATEVER THE INPUT: true; the input reads as it did. -/
def fnExactFactorSolveSpec : ChangeSpec := { name := "fnExactFactorSolve", fn := fun _ => fun
  | [d1, d2] => { results := [.lit (.bool true)], args := [d1, d2] }
  | _ => none }
def fnExactFactorSolveRow : OpenClaim := { program := "ytjjainnafihkdaagreat", sum := "d83b2226778d2d73d4d8c7b6d595ffde87c4cff65d3142586d4a402c09f59f8d", func := "loop.example/g00802/laws.FnExactFactorSolve", spec := "fnExactFactorSolve", inPlace := ["math/bits.Add64"], unfollowed := true, recurses := true, named := ["math/bits.divideError", "math/bits.overflowError"], apart := false }
def FnExactFactorSolveSaid : Prop := fnExactFactorSolveRow.holds Tryz.pinned (OpenSpec.ofChange fnExactFactorSolveSpec)

/-- ITS FALSE NEIGHBOUR: 'it returns false'. Refute it at one input. -/
def fnExactFactorSolveWrong : ChangeSpec := { name := "fnExactFactorSolve", fn := fun _ => fun
  | [d1, d2] => { results := [.lit (.bool false)], args := [d1, d2] }
  | _ => none }
def FnExactFactorSolveWrongFalsely : Prop := fnExactFactorSolveRow.holds Tryz.pinned (OpenSpec.ofChange fnExactFactorSolveWrong)

/-- 'laws.FnExactFactorSolveTransposed': WHATEVER THE INPUT: true; the input reads as it did. -/
def fnExactFactorSolveTransposedSpec : ChangeSpec := { name := "fnExactFactorSolveTransposed", fn := fun _ => fun
  | [d1, d2] => { results := [.lit (.bool true)], args := [d1, d2] }
  | _ => none }
def fnExactFactorSolveTransposedRow : OpenClaim := { program := "ytjjainnafihkdaagreat", sum := "d83b2226778d2d73d4d8c7b6d595ffde87c4cff65d3142586d4a402c09f59f8d", func := "loop.example/g00802/laws.FnExactFactorSolveTransposed", spec := "fnExactFactorSolveTransposed", inPlace := ["math/bits.Add64"], unfollowed := true, recurses := true, named := ["math/bits.divideError", "math/bits.overflowError"], apart := false }
def FnExactFactorSolveTransposedSaid : Prop := fnExactFactorSolveTransposedRow.holds Tryz.pinned (OpenSpec.ofChange fnExactFactorSolveTransposedSpec)

/-- ITS FALSE NEIGHBOUR: 'it returns false'. Refute it at one input. -/
def fnExactFactorSolveTransposedWrong : ChangeSpec := { name := "fnExactFactorSolveTransposed", fn := fun _ => fun
  | [d1, d2] => { results := [.lit (.bool false)], args := [d1, d2] }
  | _ => none }
def FnExactFactorSolveTransposedWrongFalsely : Prop := fnExactFactorSolveTransposedRow.holds Tryz.pinned (OpenSpec.ofChange fnExactFactorSolveTransposedWrong)

/-- 'laws.FnExactFactorReplace': WHATEVER THE INPUT: true; the input reads as it did. -/
def fnExactFactorReplaceSpec : ChangeSpec := { name := "fnExactFactorReplace", fn := fun _ => fun
  | [d1, d2, d3] => { results := [.lit (.bool true)], args := [d1, d2, d3] }
  | _ => none }
def fnExactFactorReplaceRow : OpenClaim := { program := "ytjjainnafihkdaagreat", sum := "d83b2226778d2d73d4d8c7b6d595ffde87c4cff65d3142586d4a402c09f59f8d", func := "loop.example/g00802/laws.FnExactFactorReplace", spec := "fnExactFactorReplace", inPlace := ["math/bits.Add64"], unfollowed := true, recurses := true, named := ["math/bits.divideError", "math/bits.overflowError"], apart := false }
def FnExactFactorReplaceSaid : Prop := fnExactFactorReplaceRow.holds Tryz.pinned (OpenSpec.ofChange fnExactFactorReplaceSpec)

/-- ITS FALSE NEIGHBOUR: 'it returns false'. Refute it at one input. -/
def fnExactFactorReplaceWrong : ChangeSpec := { name := "fnExactFactorReplace", fn := fun _ => fun
  | [d1, d2, d3] => { results := [.lit (.bool false)], args := [d1, d2, d3] }
  | _ => none }
def FnExactFactorReplaceWrongFalsely : Prop := fnExactFactorReplaceRow.holds Tryz.pinned (OpenSpec.ofChange fnExactFactorReplaceWrong)

/-- 'laws.FnExactFactorRefresh': WHATEVER THE INPUT: true; the input reads as it did. -/
def fnExactFactorRefreshSpec : ChangeSpec := { name := "fnExactFactorRefresh", fn := fun _ => fun
  | [d] => { results := [.lit (.bool true)], args := [d] }
  | _ => none }
def fnExactFactorRefreshRow : OpenClaim := { program := "ytjjainnafihkdaagreat", sum := "d83b2226778d2d73d4d8c7b6d595ffde87c4cff65d3142586d4a402c09f59f8d", func := "loop.example/g00802/laws.FnExactFactorRefresh", spec := "fnExactFactorRefresh", inPlace := ["math/bits.Add64"], unfollowed := true, recurses := true, named := ["math/bits.divideError", "math/bits.overflowError"], apart := false }
def FnExactFactorRefreshSaid : Prop := fnExactFactorRefreshRow.holds Tryz.pinned (OpenSpec.ofChange fnExactFactorRefreshSpec)

/-- ITS FALSE NEIGHBOUR: 'it returns false'. Refute it at one input. -/
def fnExactFactorRefreshWrong : ChangeSpec := { name := "fnExactFactorRefresh", fn := fun _ => fun
  | [d] => { results := [.lit (.bool false)], args := [d] }
  | _ => none }
def FnExactFactorRefreshWrongFalsely : Prop := fnExactFactorRefreshRow.holds Tryz.pinned (OpenSpec.ofChange fnExactFactorRefreshWrong)

/-- 'laws.FnExactSolve': WHATEVER THE INPUT: true; the input reads as it did. -/
def fnExactSolveSpec : ChangeSpec := { name := "fnExactSolve", fn := fun _ => fun
  | [d1, d2] => { results := [.lit (.bool true)], args := [d1, d2] }
  | _ => none }
def fnExactSolveRow : OpenClaim := { program := "ytjjainnafihkdaagreat", sum := "d83b2226778d2d73d4d8c7b6d595ffde87c4cff65d3142586d4a402c09f59f8d", func := "loop.example/g00802/laws.FnExactSolve", spec := "fnExactSolve", inPlace := ["math/bits.Add64"], unfollowed := true, recurses := true, named := ["math/bits.divideError", "math/bits.overflowError"], apart := false }
def FnExactSolveSaid : Prop := fnExactSolveRow.holds Tryz.pinned (OpenSpec.ofChange fnExactSolveSpec)

/-- ITS FALSE NEIGHBOUR: 'it returns false'. Refute it at one input. -/
def fnExactSolveWrong : ChangeSpec := { name := "fnExactSolve", fn := fun _ => fun
  | [d1, d2] => { results := [.lit (.bool false)], args := [d1, d2] }
  | _ => none }
def FnExactSolveWrongFalsely : Prop := fnExactSolveRow.holds Tryz.pinned (OpenSpec.ofChange fnExactSolveWrong)

/-- 'laws.FnExactInverse': WHATEVER THE INPUT: true; the input reads as it did. -/
def fnExactInverseSpec : ChangeSpec := { name := "fnExactInverse", fn := fun _ => fun
  | [d] => { results := [.lit (.bool true)], args := [d] }
  | _ => none }
def fnExactInverseRow : OpenClaim := { program := "ytjjainnafihkdaagreat", sum := "d83b2226778d2d73d4d8c7b6d595ffde87c4cff65d3142586d4a402c09f59f8d", func := "loop.example/g00802/laws.FnExactInverse", spec := "fnExactInverse", inPlace := ["math/bits.Add64"], unfollowed := true, recurses := true, named := ["math/bits.divideError", "math/bits.overflowError"], apart := false }
def FnExactInverseSaid : Prop := fnExactInverseRow.holds Tryz.pinned (OpenSpec.ofChange fnExactInverseSpec)

/-- ITS FALSE NEIGHBOUR: 'it returns false'. Refute it at one input. -/
def fnExactInverseWrong : ChangeSpec := { name := "fnExactInverse", fn := fun _ => fun
  | [d] => { results := [.lit (.bool false)], args := [d] }
  | _ => none }
def FnExactInverseWrongFalsely : Prop := fnExactInverseRow.holds Tryz.pinned (OpenSpec.ofChange fnExactInverseWrong)

/-- 'laws.FnExactDet': WHATEVER THE INPUT: true; the input reads as it did. -/
def fnExactDetSpec : ChangeSpec := { name := "fnExactDet", fn := fun _ => fun
  | [d] => { results := [.lit (.bool true)], args := [d] }
  | _ => none }
def fnExactDetRow : OpenClaim := { program := "ytjjainnafihkdaagreat", sum := "d83b2226778d2d73d4d8c7b6d595ffde87c4cff65d3142586d4a402c09f59f8d", func := "loop.example/g00802/laws.FnExactDet", spec := "fnExactDet", inPlace := ["math/bits.Add64"], unfollowed := true, recurses := true, named := ["math/bits.divideError", "math/bits.overflowError"], apart := false }
def FnExactDetSaid : Prop := fnExactDetRow.holds Tryz.pinned (OpenSpec.ofChange fnExactDetSpec)

/-- ITS FALSE NEIGHBOUR: 'it returns false'. Refute it at one input. -/
def fnExactDetWrong : ChangeSpec := { name := "fnExactDet", fn := fun _ => fun
  | [d] => { results := [.lit (.bool false)], args := [d] }
  | _ => none }
def FnExactDetWrongFalsely : Prop := fnExactDetRow.holds Tryz.pinned (OpenSpec.ofChange fnExactDetWrong)

/-- 'laws.FnFact': WHATEVER THE INPUT: true; the input reads as it did. -/
def fnFactSpec : ChangeSpec := { name := "fnFact", fn := fun _ => fun
  | [d] => { results := [.lit (.bool true)], args := [d] }
  | _ => none }
def fnFactRow : OpenClaim := { program := "ytjjainnafihkdaagreat", sum := "d83b2226778d2d73d4d8c7b6d595ffde87c4cff65d3142586d4a402c09f59f8d", func := "loop.example/g00802/laws.FnFact", spec := "fnFact", inPlace := ["math/bits.Add64"], unfollowed := true, recurses := true, named := ["math/bits.divideError", "math/bits.overflowError"], apart := false }
def FnFactSaid : Prop := fnFactRow.holds Tryz.pinned (OpenSpec.ofChange fnFactSpec)

/-- ITS FALSE NEIGHBOUR: 'it returns false'. Refute it at one input. -/
def fnFactWrong : ChangeSpec := { name := "fnFact", fn := fun _ => fun
  | [d] => { results := [.lit (.bool false)], args := [d] }
  | _ => none }
def FnFactWrongFalsely : Prop := fnFactRow.holds Tryz.pinned (OpenSpec.ofChange fnFactWrong)

/-- 'laws.FnSolve': WHATEVER THE INPUT: true; the input reads as it did. -/
def fnSolveSpec : ChangeSpec := { name := "fnSolve", fn := fun _ => fun
  | [d] => { results := [.lit (.bool true)], args := [d] }
  | _ => none }
def fnSolveRow : OpenClaim := { program := "ytjjainnafihkdaagreat", sum := "d83b2226778d2d73d4d8c7b6d595ffde87c4cff65d3142586d4a402c09f59f8d", func := "loop.example/g00802/laws.FnSolve", spec := "fnSolve", inPlace := ["math/bits.Add64"], unfollowed := true, recurses := true, named := ["math/bits.divideError", "math/bits.overflowError"], apart := false }
def FnSolveSaid : Prop := fnSolveRow.holds Tryz.pinned (OpenSpec.ofChange fnSolveSpec)

/-- ITS FALSE NEIGHBOUR: 'it returns false'. Refute it at one input. -/
def fnSolveWrong : ChangeSpec := { name := "fnSolve", fn := fun _ => fun
  | [d] => { results := [.lit (.bool false)], args := [d] }
  | _ => none }
def FnSolveWrongFalsely : Prop := fnSolveRow.holds Tryz.pinned (OpenSpec.ofChange fnSolveWrong)

/-- 'laws.FnDet': WHATEVER THE INPUT: true; the input reads as it did. -/
def fnDetSpec : ChangeSpec := { name := "fnDet", fn := fun _ => fun
  | [d] => { results := [.lit (.bool true)], args := [d] }
  | _ => none }
def fnDetRow : OpenClaim := { program := "ytjjainnafihkdaagreat", sum := "d83b2226778d2d73d4d8c7b6d595ffde87c4cff65d3142586d4a402c09f59f8d", func := "loop.example/g00802/laws.FnDet", spec := "fnDet", inPlace := ["math/bits.Add64"], unfollowed := true, recurses := true, named := ["math/bits.divideError", "math/bits.overflowError"], apart := false }
def FnDetSaid : Prop := fnDetRow.holds Tryz.pinned (OpenSpec.ofChange fnDetSpec)

/-- ITS FALSE NEIGHBOUR: 'it returns false'. Refute it at one input. -/
def fnDetWrong : ChangeSpec := { name := "fnDet", fn := fun _ => fun
  | [d] => { results := [.lit (.bool false)], args := [d] }
  | _ => none }
def FnDetWrongFalsely : Prop := fnDetRow.holds Tryz.pinned (OpenSpec.ofChange fnDetWrong)

/-- 'laws.FnKernel': WHATEVER THE INPUT: true; the input reads as it did. -/
def fnKernelSpec : ChangeSpec := { name := "fnKernel", fn := fun _ => fun
  | [d] => { results := [.lit (.bool true)], args := [d] }
  | _ => none }
def fnKernelRow : OpenClaim := { program := "ytjjainnafihkdaagreat", sum := "d83b2226778d2d73d4d8c7b6d595ffde87c4cff65d3142586d4a402c09f59f8d", func := "loop.example/g00802/laws.FnKernel", spec := "fnKernel", inPlace := ["math/bits.Add64"], unfollowed := true, recurses := true, named := ["math/bits.divideError", "math/bits.overflowError"], apart := false }
def FnKernelSaid : Prop := fnKernelRow.holds Tryz.pinned (OpenSpec.ofChange fnKernelSpec)

/-- ITS FALSE NEIGHBOUR: 'it returns false'. Refute it at one input. -/
def fnKernelWrong : ChangeSpec := { name := "fnKernel", fn := fun _ => fun
  | [d] => { results := [.lit (.bool false)], args := [d] }
  | _ => none }
def FnKernelWrongFalsely : Prop := fnKernelRow.holds Tryz.pinned (OpenSpec.ofChange fnKernelWrong)

/- THE SECOND FORM. 'bulk': how many values and letters a reading holds, each counted each time it is reached (what is shared counts as often as it is met; a slice's spare places count too). A statement '..UptoSaid' is the law's where the arguments, and the package variables that the reading takes, are together of bulk at most 1048576: NARROWER than '..Said'. Prove '..Said' where nothing that the law and all that it calls make is longer than what came in: it says more and counts as full. Else prove '..UptoSaid'. A law counts once. -/
mutual
def uptoBulk {H : Type} : DataW H → Nat
  | .lit (.string bytes) => bytes.length + 1
  | .lit _ => 1
  | .nil => 1
  | .ptr d => uptoBulk d + 1
  | .slice elems spare => uptoBulkAll elems + uptoBulkAll spare + 1
  | .agg parts => uptoBulkAll parts + 1
  | .iface _ d => uptoBulk d + 1
  | .map entries => uptoBulkEntries entries + 1
  | .held _ => 1
def uptoBulkAll {H : Type} : List (DataW H) → Nat
  | [] => 0
  | d :: r => uptoBulk d + uptoBulkAll r
def uptoBulkEntries {H : Type} : List (Lit × DataW H) → Nat
  | [] => 0
  | x :: r => uptoBulkEntry x + uptoBulkEntries r
def uptoBulkEntry {H : Type} : Lit × DataW H → Nat
  | (.string bytes, d) => bytes.length + uptoBulk d + 1
  | (_, d) => uptoBulk d + 1
 end
def uptoSmall : (H : Type) → List (DataW H) → Bool := fun _ ds => decide (uptoBulkAll ds ≤ 1048576)
def OpenSpec.upto (s : _root_.Go.ChangeSpec) : _root_.Go.OpenSpec := { _root_.Go.OpenSpec.ofChange s with cond := some uptoSmall }

/-- 'laws.FnExactFactorize', WHERE WHAT IT READS IS OF BULK AT MOST 1048576: true; the input reads as it did. -/
def fnExactFactorizeUptoRow : OpenClaim := { program := "ytjjainnafihkdaagreat", sum := "d83b2226778d2d73d4d8c7b6d595ffde87c4cff65d3142586d4a402c09f59f8d", func := "loop.example/g00802/laws.FnExactFactorize", spec := "fnExactFactorize", inPlace := ["math/bits.Add64"], unfollowed := true, recurses := true, named := ["math/bits.divideError", "math/bits.overflowError"], apart := false, narrowed := true }
def FnExactFactorizeUptoSaid : Prop := fnExactFactorizeUptoRow.holds Tryz.pinned (OpenSpec.upto fnExactFactorizeSpec)

/-- 'laws.FnExactFactorSolve', WHERE WHAT IT READS IS OF BULK AT MOST 1048576: true; the input reads as it did. -/
def fnExactFactorSolveUptoRow : OpenClaim := { program := "ytjjainnafihkdaagreat", sum := "d83b2226778d2d73d4d8c7b6d595ffde87c4cff65d3142586d4a402c09f59f8d", func := "loop.example/g00802/laws.FnExactFactorSolve", spec := "fnExactFactorSolve", inPlace := ["math/bits.Add64"], unfollowed := true, recurses := true, named := ["math/bits.divideError", "math/bits.overflowError"], apart := false, narrowed := true }
def FnExactFactorSolveUptoSaid : Prop := fnExactFactorSolveUptoRow.holds Tryz.pinned (OpenSpec.upto fnExactFactorSolveSpec)

/-- 'laws.FnExactFactorSolveTransposed', WHERE WHAT IT READS IS OF BULK AT MOST 1048576: true; the input reads as it did. -/
def fnExactFactorSolveTransposedUptoRow : OpenClaim := { program := "ytjjainnafihkdaagreat", sum := "d83b2226778d2d73d4d8c7b6d595ffde87c4cff65d3142586d4a402c09f59f8d", func := "loop.example/g00802/laws.FnExactFactorSolveTransposed", spec := "fnExactFactorSolveTransposed", inPlace := ["math/bits.Add64"], unfollowed := true, recurses := true, named := ["math/bits.divideError", "math/bits.overflowError"], apart := false, narrowed := true }
def FnExactFactorSolveTransposedUptoSaid : Prop := fnExactFactorSolveTransposedUptoRow.holds Tryz.pinned (OpenSpec.upto fnExactFactorSolveTransposedSpec)

/-- 'laws.FnExactFactorReplace', WHERE WHAT IT READS IS OF BULK AT MOST 1048576: true; the input reads as it did. -/
def fnExactFactorReplaceUptoRow : OpenClaim := { program := "ytjjainnafihkdaagreat", sum := "d83b2226778d2d73d4d8c7b6d595ffde87c4cff65d3142586d4a402c09f59f8d", func := "loop.example/g00802/laws.FnExactFactorReplace", spec := "fnExactFactorReplace", inPlace := ["math/bits.Add64"], unfollowed := true, recurses := true, named := ["math/bits.divideError", "math/bits.overflowError"], apart := false, narrowed := true }
def FnExactFactorReplaceUptoSaid : Prop := fnExactFactorReplaceUptoRow.holds Tryz.pinned (OpenSpec.upto fnExactFactorReplaceSpec)

/-- 'laws.FnExactFactorRefresh', WHERE WHAT IT READS IS OF BULK AT MOST 1048576: true; the input reads as it did. -/
def fnExactFactorRefreshUptoRow : OpenClaim := { program := "ytjjainnafihkdaagreat", sum := "d83b2226778d2d73d4d8c7b6d595ffde87c4cff65d3142586d4a402c09f59f8d", func := "loop.example/g00802/laws.FnExactFactorRefresh", spec := "fnExactFactorRefresh", inPlace := ["math/bits.Add64"], unfollowed := true, recurses := true, named := ["math/bits.divideError", "math/bits.overflowError"], apart := false, narrowed := true }
def FnExactFactorRefreshUptoSaid : Prop := fnExactFactorRefreshUptoRow.holds Tryz.pinned (OpenSpec.upto fnExactFactorRefreshSpec)

/-- 'laws.FnExactSolve', WHERE WHAT IT READS IS OF BULK AT MOST 1048576: true; the input reads as it did. -/
def fnExactSolveUptoRow : OpenClaim := { program := "ytjjainnafihkdaagreat", sum := "d83b2226778d2d73d4d8c7b6d595ffde87c4cff65d3142586d4a402c09f59f8d", func := "loop.example/g00802/laws.FnExactSolve", spec := "fnExactSolve", inPlace := ["math/bits.Add64"], unfollowed := true, recurses := true, named := ["math/bits.divideError", "math/bits.overflowError"], apart := false, narrowed := true }
def FnExactSolveUptoSaid : Prop := fnExactSolveUptoRow.holds Tryz.pinned (OpenSpec.upto fnExactSolveSpec)

/-- 'laws.FnExactInverse', WHERE WHAT IT READS IS OF BULK AT MOST 1048576: true; the input reads as it did. -/
def fnExactInverseUptoRow : OpenClaim := { program := "ytjjainnafihkdaagreat", sum := "d83b2226778d2d73d4d8c7b6d595ffde87c4cff65d3142586d4a402c09f59f8d", func := "loop.example/g00802/laws.FnExactInverse", spec := "fnExactInverse", inPlace := ["math/bits.Add64"], unfollowed := true, recurses := true, named := ["math/bits.divideError", "math/bits.overflowError"], apart := false, narrowed := true }
def FnExactInverseUptoSaid : Prop := fnExactInverseUptoRow.holds Tryz.pinned (OpenSpec.upto fnExactInverseSpec)

/-- 'laws.FnExactDet', WHERE WHAT IT READS IS OF BULK AT MOST 1048576: true; the input reads as it did. -/
def fnExactDetUptoRow : OpenClaim := { program := "ytjjainnafihkdaagreat", sum := "d83b2226778d2d73d4d8c7b6d595ffde87c4cff65d3142586d4a402c09f59f8d", func := "loop.example/g00802/laws.FnExactDet", spec := "fnExactDet", inPlace := ["math/bits.Add64"], unfollowed := true, recurses := true, named := ["math/bits.divideError", "math/bits.overflowError"], apart := false, narrowed := true }
def FnExactDetUptoSaid : Prop := fnExactDetUptoRow.holds Tryz.pinned (OpenSpec.upto fnExactDetSpec)

/-- 'laws.FnFact', WHERE WHAT IT READS IS OF BULK AT MOST 1048576: true; the input reads as it did. -/
def fnFactUptoRow : OpenClaim := { program := "ytjjainnafihkdaagreat", sum := "d83b2226778d2d73d4d8c7b6d595ffde87c4cff65d3142586d4a402c09f59f8d", func := "loop.example/g00802/laws.FnFact", spec := "fnFact", inPlace := ["math/bits.Add64"], unfollowed := true, recurses := true, named := ["math/bits.divideError", "math/bits.overflowError"], apart := false, narrowed := true }
def FnFactUptoSaid : Prop := fnFactUptoRow.holds Tryz.pinned (OpenSpec.upto fnFactSpec)

/-- 'laws.FnSolve', WHERE WHAT IT READS IS OF BULK AT MOST 1048576: true; the input reads as it did. -/
def fnSolveUptoRow : OpenClaim := { program := "ytjjainnafihkdaagreat", sum := "d83b2226778d2d73d4d8c7b6d595ffde87c4cff65d3142586d4a402c09f59f8d", func := "loop.example/g00802/laws.FnSolve", spec := "fnSolve", inPlace := ["math/bits.Add64"], unfollowed := true, recurses := true, named := ["math/bits.divideError", "math/bits.overflowError"], apart := false, narrowed := true }
def FnSolveUptoSaid : Prop := fnSolveUptoRow.holds Tryz.pinned (OpenSpec.upto fnSolveSpec)

/-- 'laws.FnDet', WHERE WHAT IT READS IS OF BULK AT MOST 1048576: true; the input reads as it did. -/
def fnDetUptoRow : OpenClaim := { program := "ytjjainnafihkdaagreat", sum := "d83b2226778d2d73d4d8c7b6d595ffde87c4cff65d3142586d4a402c09f59f8d", func := "loop.example/g00802/laws.FnDet", spec := "fnDet", inPlace := ["math/bits.Add64"], unfollowed := true, recurses := true, named := ["math/bits.divideError", "math/bits.overflowError"], apart := false, narrowed := true }
def FnDetUptoSaid : Prop := fnDetUptoRow.holds Tryz.pinned (OpenSpec.upto fnDetSpec)

/-- 'laws.FnKernel', WHERE WHAT IT READS IS OF BULK AT MOST 1048576: true; the input reads as it did. -/
def fnKernelUptoRow : OpenClaim := { program := "ytjjainnafihkdaagreat", sum := "d83b2226778d2d73d4d8c7b6d595ffde87c4cff65d3142586d4a402c09f59f8d", func := "loop.example/g00802/laws.FnKernel", spec := "fnKernel", inPlace := ["math/bits.Add64"], unfollowed := true, recurses := true, named := ["math/bits.divideError", "math/bits.overflowError"], apart := false, narrowed := true }
def FnKernelUptoSaid : Prop := fnKernelUptoRow.holds Tryz.pinned (OpenSpec.upto fnKernelSpec)

end Rows
end Go.Proofs.YtjjainnafihkdaaGreat
