/-
  No cell of these rows narrows 'for every input' (looked for: loops, veiled, ifaces, maps, wideKeys, modest, calm, conditions, laid).
  DERIVED. THE GIVEN ROWS OF THIS SEAT. 10 by the template 'for every input the law returns true; each argument reads behind the call as it read before'; 0 by the template 'total and deterministic' (their statements: YtamhmpjadnfpdaaGreatTotals.lean).
  GIVEN WITH THE SEED: the statements are not yours to turn. If you find one false, say at which input.
  Laid BY PROGRAM, IN A SANDBOX (cutbox-rows.mjs): the forced cells as the released guide's own fill.sh prints them over the translation 1be1b8b2b5f1b722… (all of the seat's roots in one cut). By AI agents, Wed Nov 11 2026. No macro, syntax, notation, axiom, sorry.
-/
import Derived.Test.YtamhmpjadnfpdaaGreatChecked
import GoSem.Claim
import GoSem.ClaimJoined
import GoSem.ClaimMapViews
import Derived.JoinedTies
import Derived.KernelRfl
namespace Go.Proofs.YtamhmpjadnfpdaaGreat
/- THE CELL 'sum', in the pinned program and in every row, IS THE sha256 OF THE DUMP (.gsa) THAT YtamhmpjadnfpdaaGreatProg.lean LOADS. Nothing in Lean hashes anything: it is a label: what it is worth is what the hold of that sum in a sandbox is worth. -/
noncomputable def Tryz.pinned : Pinned := { name := "ytamhmpjadnfpdaagreat", sum := "1be1b8b2b5f1b722802a1463f27fb3123b1022687514465a87f1b1adef0589ec", checked := Tryz.checked }
namespace Rows
def none {H : Type} : Left H := { results := [], args := [] }

/-- 'laws.FnExactReducedRowEchelon': WHATEVER THE INPUT: true; the input reads as it did. -/
def fnExactReducedRowEchelonSpec : ChangeSpec := { name := "fnExactReducedRowEchelon", fn := fun _ => fun
  | [d] => { results := [.lit (.bool true)], args := [d] }
  | _ => none }
def fnExactReducedRowEchelonRow : OpenClaim := { program := "ytamhmpjadnfpdaagreat", sum := "1be1b8b2b5f1b722802a1463f27fb3123b1022687514465a87f1b1adef0589ec", func := "loop.example/g00802/laws.FnExactReducedRowEchelon", spec := "fnExactReducedRowEchelon", inPlace := ["math/bits.Add64"], unfollowed := true, recurses := true, named := ["math/bits.divideError", "math/bits.overflowError"], apart := false }
def FnExactReducedRowEchelonSaid : Prop := fnExactReducedRowEchelonRow.holds Tryz.pinned (OpenSpec.ofChange fnExactReducedRowEchelonSpec)

/-- ITS FALSE NEIGHBOUR: 'it returns false'. Refute it at one input. -/
def fnExactReducedRowEchelonWrong : ChangeSpec := { name := "fnExactReducedRowEchelon", fn := fun _ => fun
  | [d] => { results := [.lit (.bool false)], args := [d] }
  | _ => none }
def FnExactReducedRowEchelonWrongFalsely : Prop := fnExactReducedRowEchelonRow.holds Tryz.pinned (OpenSpec.ofChange fnExactReducedRowEchelonWrong)

/-- 'laws.FnExactPivots': WHATEVER THE INPUT: true; the input reads as it did. -/
def fnExactPivotsSpec : ChangeSpec := { name := "fnExactPivots", fn := fun _ => fun
  | [d] => { results := [.lit (.bool true)], args := [d] }
  | _ => none }
def fnExactPivotsRow : OpenClaim := { program := "ytamhmpjadnfpdaagreat", sum := "1be1b8b2b5f1b722802a1463f27fb3123b1022687514465a87f1b1adef0589ec", func := "loop.example/g00802/laws.FnExactPivots", spec := "fnExactPivots", inPlace := ["math/bits.Add64"], unfollowed := true, recurses := true, named := ["math/bits.divideError", "math/bits.overflowError"], apart := false }
def FnExactPivotsSaid : Prop := fnExactPivotsRow.holds Tryz.pinned (OpenSpec.ofChange fnExactPivotsSpec)

/-- ITS FALSE NEIGHBOUR: 'it returns false'. Refute it at one input. -/
def fnExactPivotsWrong : ChangeSpec := { name := "fnExactPivots", fn := fun _ => fun
  | [d] => { results := [.lit (.bool false)], args := [d] }
  | _ => none }
def FnExactPivotsWrongFalsely : Prop := fnExactPivotsRow.holds Tryz.pinned (OpenSpec.ofChange fnExactPivotsWrong)

/-- 'laws.FnExactRank': WHATEVER THE INPUT: true; the input reads as it did. -/
def fnExactRankSpec : ChangeSpec := { name := "fnExactRank", fn := fun _ => fun
  | [d] => { results := [.lit (.bool true)], args := [d] }
  | _ => none }
def fnExactRankRow : OpenClaim := { program := "ytamhmpjadnfpdaagreat", sum := "1be1b8b2b5f1b722802a1463f27fb3123b1022687514465a87f1b1adef0589ec", func := "loop.example/g00802/laws.FnExactRank", spec := "fnExactRank", inPlace := ["math/bits.Add64"], unfollowed := true, recurses := true, named := ["math/bits.divideError", "math/bits.overflowError"], apart := false }
def FnExactRankSaid : Prop := fnExactRankRow.holds Tryz.pinned (OpenSpec.ofChange fnExactRankSpec)

/-- ITS FALSE NEIGHBOUR: 'it returns false'. Refute it at one input. -/
def fnExactRankWrong : ChangeSpec := { name := "fnExactRank", fn := fun _ => fun
  | [d] => { results := [.lit (.bool false)], args := [d] }
  | _ => none }
def FnExactRankWrongFalsely : Prop := fnExactRankRow.holds Tryz.pinned (OpenSpec.ofChange fnExactRankWrong)

/-- 'laws.FnExactSolve': WHATEVER THE INPUT: true; the input reads as it did. -/
def fnExactSolveSpec : ChangeSpec := { name := "fnExactSolve", fn := fun _ => fun
  | [d1, d2] => { results := [.lit (.bool true)], args := [d1, d2] }
  | _ => none }
def fnExactSolveRow : OpenClaim := { program := "ytamhmpjadnfpdaagreat", sum := "1be1b8b2b5f1b722802a1463f27fb3123b1022687514465a87f1b1adef0589ec", func := "loop.example/g00802/laws.FnExactSolve", spec := "fnExactSolve", inPlace := ["math/bits.Add64"], unfollowed := true, recurses := true, named := ["math/bits.divideError", "math/bits.overflowError"], apart := false }
def FnExactSolveSaid : Prop := fnExactSolveRow.holds Tryz.pinned (OpenSpec.ofChange fnExactSolveSpec)

/-- ITS FALSE NEIGHBOUR: 'it returns false'. Refute it at one input. -/
def fnExactSolveWrong : ChangeSpec := { name := "fnExactSolve", fn := fun _ => fun
  | [d1, d2] => { results := [.lit (.bool false)], args := [d1, d2] }
  | _ => none }
def FnExactSolveWrongFalsely : Prop := fnExactSolveRow.holds Tryz.pinned (OpenSpec.ofChange fnExactSolveWrong)

/-- 'laws.FnExactInverse': WHATEVER THE INPUT: true; the input reads as it did. -/
def fnExactInverseSpec : ChangeSpec := { name := "fnExactInverse", fn := fun _ => fun
  | [d] => { results := [.lit (.bool true)], args := [d] }
  | _ => none }
def fnExactInverseRow : OpenClaim := { program := "ytamhmpjadnfpdaagreat", sum := "1be1b8b2b5f1b722802a1463f27fb3123b1022687514465a87f1b1adef0589ec", func := "loop.example/g00802/laws.FnExactInverse", spec := "fnExactInverse", inPlace := ["math/bits.Add64"], unfollowed := true, recurses := true, named := ["math/bits.divideError", "math/bits.overflowError"], apart := false }
def FnExactInverseSaid : Prop := fnExactInverseRow.holds Tryz.pinned (OpenSpec.ofChange fnExactInverseSpec)

/-- ITS FALSE NEIGHBOUR: 'it returns false'. Refute it at one input. -/
def fnExactInverseWrong : ChangeSpec := { name := "fnExactInverse", fn := fun _ => fun
  | [d] => { results := [.lit (.bool false)], args := [d] }
  | _ => none }
def FnExactInverseWrongFalsely : Prop := fnExactInverseRow.holds Tryz.pinned (OpenSpec.ofChange fnExactInverseWrong)

/-- 'laws.FnExactDet': WHATEVER THE INPUT: true; the input reads as it did. -/
def fnExactDetSpec : ChangeSpec := { name := "fnExactDet", fn := fun _ => fun
  | [d] => { results := [.lit (.bool true)], args := [d] }
  | _ => none }
def fnExactDetRow : OpenClaim := { program := "ytamhmpjadnfpdaagreat", sum := "1be1b8b2b5f1b722802a1463f27fb3123b1022687514465a87f1b1adef0589ec", func := "loop.example/g00802/laws.FnExactDet", spec := "fnExactDet", inPlace := ["math/bits.Add64"], unfollowed := true, recurses := true, named := ["math/bits.divideError", "math/bits.overflowError"], apart := false }
def FnExactDetSaid : Prop := fnExactDetRow.holds Tryz.pinned (OpenSpec.ofChange fnExactDetSpec)

/-- ITS FALSE NEIGHBOUR: 'it returns false'. Refute it at one input. -/
def fnExactDetWrong : ChangeSpec := { name := "fnExactDet", fn := fun _ => fun
  | [d] => { results := [.lit (.bool false)], args := [d] }
  | _ => none }
def FnExactDetWrongFalsely : Prop := fnExactDetRow.holds Tryz.pinned (OpenSpec.ofChange fnExactDetWrong)

/-- 'laws.FnExactKernelVector': WHATEVER THE INPUT: true; the input reads as it did. -/
def fnExactKernelVectorSpec : ChangeSpec := { name := "fnExactKernelVector", fn := fun _ => fun
  | [d] => { results := [.lit (.bool true)], args := [d] }
  | _ => none }
def fnExactKernelVectorRow : OpenClaim := { program := "ytamhmpjadnfpdaagreat", sum := "1be1b8b2b5f1b722802a1463f27fb3123b1022687514465a87f1b1adef0589ec", func := "loop.example/g00802/laws.FnExactKernelVector", spec := "fnExactKernelVector", inPlace := ["math/bits.Add64"], unfollowed := true, recurses := true, named := ["math/bits.divideError", "math/bits.overflowError"], apart := false }
def FnExactKernelVectorSaid : Prop := fnExactKernelVectorRow.holds Tryz.pinned (OpenSpec.ofChange fnExactKernelVectorSpec)

/-- ITS FALSE NEIGHBOUR: 'it returns false'. Refute it at one input. -/
def fnExactKernelVectorWrong : ChangeSpec := { name := "fnExactKernelVector", fn := fun _ => fun
  | [d] => { results := [.lit (.bool false)], args := [d] }
  | _ => none }
def FnExactKernelVectorWrongFalsely : Prop := fnExactKernelVectorRow.holds Tryz.pinned (OpenSpec.ofChange fnExactKernelVectorWrong)

/-- 'laws.FnSolve': WHATEVER THE INPUT: true; the input reads as it did. -/
def fnSolveSpec : ChangeSpec := { name := "fnSolve", fn := fun _ => fun
  | [d] => { results := [.lit (.bool true)], args := [d] }
  | _ => none }
def fnSolveRow : OpenClaim := { program := "ytamhmpjadnfpdaagreat", sum := "1be1b8b2b5f1b722802a1463f27fb3123b1022687514465a87f1b1adef0589ec", func := "loop.example/g00802/laws.FnSolve", spec := "fnSolve", inPlace := ["math/bits.Add64"], unfollowed := true, recurses := true, named := ["math/bits.divideError", "math/bits.overflowError"], apart := false }
def FnSolveSaid : Prop := fnSolveRow.holds Tryz.pinned (OpenSpec.ofChange fnSolveSpec)

/-- ITS FALSE NEIGHBOUR: 'it returns false'. Refute it at one input. -/
def fnSolveWrong : ChangeSpec := { name := "fnSolve", fn := fun _ => fun
  | [d] => { results := [.lit (.bool false)], args := [d] }
  | _ => none }
def FnSolveWrongFalsely : Prop := fnSolveRow.holds Tryz.pinned (OpenSpec.ofChange fnSolveWrong)

/-- 'laws.FnDet': WHATEVER THE INPUT: true; the input reads as it did. -/
def fnDetSpec : ChangeSpec := { name := "fnDet", fn := fun _ => fun
  | [d] => { results := [.lit (.bool true)], args := [d] }
  | _ => none }
def fnDetRow : OpenClaim := { program := "ytamhmpjadnfpdaagreat", sum := "1be1b8b2b5f1b722802a1463f27fb3123b1022687514465a87f1b1adef0589ec", func := "loop.example/g00802/laws.FnDet", spec := "fnDet", inPlace := ["math/bits.Add64"], unfollowed := true, recurses := true, named := ["math/bits.divideError", "math/bits.overflowError"], apart := false }
def FnDetSaid : Prop := fnDetRow.holds Tryz.pinned (OpenSpec.ofChange fnDetSpec)

/-- ITS FALSE NEIGHBOUR: 'it returns false'. Refute it at one input. -/
def fnDetWrong : ChangeSpec := { name := "fnDet", fn := fun _ => fun
  | [d] => { results := [.lit (.bool false)], args := [d] }
  | _ => none }
def FnDetWrongFalsely : Prop := fnDetRow.holds Tryz.pinned (OpenSpec.ofChange fnDetWrong)

/-- 'laws.FnKernel': WHATEVER THE INPUT: true; the input reads as it did. -/
def fnKernelSpec : ChangeSpec := { name := "fnKernel", fn := fun _ => fun
  | [d] => { results := [.lit (.bool true)], args := [d] }
  | _ => none }
def fnKernelRow : OpenClaim := { program := "ytamhmpjadnfpdaagreat", sum := "1be1b8b2b5f1b722802a1463f27fb3123b1022687514465a87f1b1adef0589ec", func := "loop.example/g00802/laws.FnKernel", spec := "fnKernel", inPlace := ["math/bits.Add64"], unfollowed := true, recurses := true, named := ["math/bits.divideError", "math/bits.overflowError"], apart := false }
def FnKernelSaid : Prop := fnKernelRow.holds Tryz.pinned (OpenSpec.ofChange fnKernelSpec)

/-- ITS FALSE NEIGHBOUR: 'it returns false'. Refute it at one input. -/
def fnKernelWrong : ChangeSpec := { name := "fnKernel", fn := fun _ => fun
  | [d] => { results := [.lit (.bool false)], args := [d] }
  | _ => none }
def FnKernelWrongFalsely : Prop := fnKernelRow.holds Tryz.pinned (OpenSpec.ofChange fnKernelWrong)

/- THE SECOND FORM. 'bulk': how many values and letters a reading holds, each counted each time it is reached (what is shared counts as often as it is met; a slice's spare places count too). A statement '..UptoSaid' is the law's where the arguments, and the package variables that the reading takes, are together of bulk at most 1048576: NARROWER than '..Said'. Prove '..Said' where nothing that the law and all that it calls make is longer than what came in: it says more and counts as full. Else prove '..UptoSaid'. A law counts once. -/
mutual
def uptoBulk {H : Type} : DataW H → Nat
  | .lit (.string bytes) => bytes.length + 1
  | .lit _ => 1
  | .nil => 1
  | .ptr d => uptoBulk d + 1
  | .slice elems spare => uptoBulkAll elems + uptoBulkAll spare + 1
  | .agg parts => uptoBulkAll parts + 1
  | .iface _ d => uptoBulk d + 1
  | .map entries => uptoBulkEntries entries + 1
  | .held _ => 1
def uptoBulkAll {H : Type} : List (DataW H) → Nat
  | [] => 0
  | d :: r => uptoBulk d + uptoBulkAll r
def uptoBulkEntries {H : Type} : List (Lit × DataW H) → Nat
  | [] => 0
  | x :: r => uptoBulkEntry x + uptoBulkEntries r
def uptoBulkEntry {H : Type} : Lit × DataW H → Nat
  | (.string bytes, d) => bytes.length + uptoBulk d + 1
  | (_, d) => uptoBulk d + 1
 end
def uptoSmall : (H : Type) → List (DataW H) → Bool := fun _ ds => decide (uptoBulkAll ds ≤ 1048576)
def OpenSpec.upto (s : _root_.Go.ChangeSpec) : _root_.Go.OpenSpec := { _root_.Go.OpenSpec.ofChange s with cond := some uptoSmall }

/-- 'laws.FnExactReducedRowEchelon', WHERE WHAT IT READS IS OF BULK AT MOST 1048576: true; the input reads as it did. -/
def fnExactReducedRowEchelonUptoRow : OpenClaim := { program := "ytamhmpjadnfpdaagreat", sum := "1be1b8b2b5f1b722802a1463f27fb3123b1022687514465a87f1b1adef0589ec", func := "loop.example/g00802/laws.FnExactReducedRowEchelon", spec := "fnExactReducedRowEchelon", inPlace := ["math/bits.Add64"], unfollowed := true, recurses := true, named := ["math/bits.divideError", "math/bits.overflowError"], apart := false, narrowed := true }
def FnExactReducedRowEchelonUptoSaid : Prop := fnExactReducedRowEchelonUptoRow.holds Tryz.pinned (OpenSpec.upto fnExactReducedRowEchelonSpec)

/-- 'laws.FnExactPivots', WHERE WHAT IT READS IS OF BULK AT MOST 1048576: true; the input reads as it did. -/
def fnExactPivotsUptoRow : OpenClaim := { program := "ytamhmpjadnfpdaagreat", sum := "1be1b8b2b5f1b722802a1463f27fb3123b1022687514465a87f1b1adef0589ec", func := "loop.example/g00802/laws.FnExactPivots", spec := "fnExactPivots", inPlace := ["math/bits.Add64"], unfollowed := true, recurses := true, named := ["math/bits.divideError", "math/bits.overflowError"], apart := false, narrowed := true }
def FnExactPivotsUptoSaid : Prop := fnExactPivotsUptoRow.holds Tryz.pinned (OpenSpec.upto fnExactPivotsSpec)

/-- 'laws.FnExactRank', WHERE WHAT IT READS IS OF BULK AT MOST 1048576: true; the input reads as it did. -/
def fnExactRankUptoRow : OpenClaim := { program := "ytamhmpjadnfpdaagreat", sum := "1be1b8b2b5f1b722802a1463f27fb3123b1022687514465a87f1b1adef0589ec", func := "loop.example/g00802/laws.FnExactRank", spec := "fnExactRank", inPlace := ["math/bits.Add64"], unfollowed := true, recurses := true, named := ["math/bits.divideError", "math/bits.overflowError"], apart := false, narrowed := true }
def FnExactRankUptoSaid : Prop := fnExactRankUptoRow.holds Tryz.pinned (OpenSpec.upto fnExactRankSpec)

/-- 'laws.FnExactSolve', WHERE WHAT IT READS IS OF BULK AT MOST 1048576: true; the input reads as it did. -/
def fnExactSolveUptoRow : OpenClaim := { program := "ytamhmpjadnfpdaagreat", sum := "1be1b8b2b5f1b722802a1463f27fb3123b1022687514465a87f1b1adef0589ec", func := "loop.example/g00802/laws.FnExactSolve", spec := "fnExactSolve", inPlace := ["math/bits.Add64"], unfollowed := true, recurses := true, named := ["math/bits.divideError", "math/bits.overflowError"], apart := false, narrowed := true }
def FnExactSolveUptoSaid : Prop := fnExactSolveUptoRow.holds Tryz.pinned (OpenSpec.upto fnExactSolveSpec)

/-- 'laws.FnExactInverse', WHERE WHAT IT READS IS OF BULK AT MOST 1048576: true; the input reads as it did. -/
def fnExactInverseUptoRow : OpenClaim := { program := "ytamhmpjadnfpdaagreat", sum := "1be1b8b2b5f1b722802a1463f27fb3123b1022687514465a87f1b1adef0589ec", func := "loop.example/g00802/laws.FnExactInverse", spec := "fnExactInverse", inPlace := ["math/bits.Add64"], unfollowed := true, recurses := true, named := ["math/bits.divideError", "math/bits.overflowError"], apart := false, narrowed := true }
def FnExactInverseUptoSaid : Prop := fnExactInverseUptoRow.holds Tryz.pinned (OpenSpec.upto fnExactInverseSpec)

/-- 'laws.FnExactDet', WHERE WHAT IT READS IS OF BULK AT MOST 1048576: true; the input reads as it did. -/
def fnExactDetUptoRow : OpenClaim := { program := "ytamhmpjadnfpdaagreat", sum := "1be1b8b2b5f1b722802a1463f27fb3123b1022687514465a87f1b1adef0589ec", func := "loop.example/g00802/laws.FnExactDet", spec := "fnExactDet", inPlace := ["math/bits.Add64"], unfollowed := true, recurses := true, named := ["math/bits.divideError", "math/bits.overflowError"], apart := false, narrowed := true }
def FnExactDetUptoSaid : Prop := fnExactDetUptoRow.holds Tryz.pinned (OpenSpec.upto fnExactDetSpec)

/-- 'laws.FnExactKernelVector', WHERE WHAT IT READS IS OF BULK AT MOST 1048576: true; the input reads as it did. -/
def fnExactKernelVectorUptoRow : OpenClaim := { program := "ytamhmpjadnfpdaagreat", sum := "1be1b8b2b5f1b722802a1463f27fb3123b1022687514465a87f1b1adef0589ec", func := "loop.example/g00802/laws.FnExactKernelVector", spec := "fnExactKernelVector", inPlace := ["math/bits.Add64"], unfollowed := true, recurses := true, named := ["math/bits.divideError", "math/bits.overflowError"], apart := false, narrowed := true }
def FnExactKernelVectorUptoSaid : Prop := fnExactKernelVectorUptoRow.holds Tryz.pinned (OpenSpec.upto fnExactKernelVectorSpec)

/-- 'laws.FnSolve', WHERE WHAT IT READS IS OF BULK AT MOST 1048576: true; the input reads as it did. -/
def fnSolveUptoRow : OpenClaim := { program := "ytamhmpjadnfpdaagreat", sum := "1be1b8b2b5f1b722802a1463f27fb3123b1022687514465a87f1b1adef0589ec", func := "loop.example/g00802/laws.FnSolve", spec := "fnSolve", inPlace := ["math/bits.Add64"], unfollowed := true, recurses := true, named := ["math/bits.divideError", "math/bits.overflowError"], apart := false, narrowed := true }
def FnSolveUptoSaid : Prop := fnSolveUptoRow.holds Tryz.pinned (OpenSpec.upto fnSolveSpec)

/-- 'laws.FnDet', WHERE WHAT IT READS IS OF BULK AT MOST 1048576: true; the input reads as it did. -/
def fnDetUptoRow : OpenClaim := { program := "ytamhmpjadnfpdaagreat", sum := "1be1b8b2b5f1b722802a1463f27fb3123b1022687514465a87f1b1adef0589ec", func := "loop.example/g00802/laws.FnDet", spec := "fnDet", inPlace := ["math/bits.Add64"], unfollowed := true, recurses := true, named := ["math/bits.divideError", "math/bits.overflowError"], apart := false, narrowed := true }
def FnDetUptoSaid : Prop := fnDetUptoRow.holds Tryz.pinned (OpenSpec.upto fnDetSpec)

/-- 'laws.FnKernel', WHERE WHAT IT READS IS OF BULK AT MOST 1048576: true; the input reads as it did. -/
def fnKernelUptoRow : OpenClaim := { program := "ytamhmpjadnfpdaagreat", sum := "1be1b8b2b5f1b722802a1463f27fb3123b1022687514465a87f1b1adef0589ec", func := "loop.example/g00802/laws.FnKernel", spec := "fnKernel", inPlace := ["math/bits.Add64"], unfollowed := true, recurses := true, named := ["math/bits.divideError", "math/bits.overflowError"], apart := false, narrowed := true }
def FnKernelUptoSaid : Prop := fnKernelUptoRow.holds Tryz.pinned (OpenSpec.upto fnKernelSpec)

end Rows
end Go.Proofs.YtamhmpjadnfpdaaGreat
