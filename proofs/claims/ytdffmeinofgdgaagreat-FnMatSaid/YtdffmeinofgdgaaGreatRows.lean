/-
  No cell of these rows narrows 'for every input' (looked for: loops, veiled, ifaces, maps, wideKeys, modest, calm, conditions, laid).
  DERIVED. THE GIVEN ROWS OF THIS SEAT. 4 by the template 'for every input the law returns true; each argument reads behind the call as it read before'; 0 by the template 'total and deterministic' (their statements: YtdffmeinofgdgaaGreatTotals.lean).
  GIVEN WITH THE SEED: the statements are not yours to turn. If you find one false, say at which input.
  Laid BY PROGRAM, IN A SANDBOX (cutbox-rows.mjs): the forced cells as the released guide's own fill.sh prints them over the translation f371475611ebdc35… (all of the seat's roots in one cut). By AI agents, Wed Nov 11 2026. No macro, syntax, notation, axiom, sorry.
-/
import Derived.Test.YtdffmeinofgdgaaGreatChecked
import GoSem.Claim
import GoSem.ClaimJoined
import GoSem.ClaimMapViews
import Derived.JoinedTies
import Derived.KernelRfl
namespace Go.Proofs.YtdffmeinofgdgaaGreat
/- THE CELL 'sum', in the pinned program and in every row, IS THE sha256 OF THE DUMP (.gsa) THAT YtdffmeinofgdgaaGreatProg.lean LOADS. Nothing in Lean hashes anything: it is a label: what it is worth is what the hold of that sum in a sandbox is worth. -/
noncomputable def Tryz.pinned : Pinned := { name := "ytdffmeinofgdgaagreat", sum := "f371475611ebdc35a8107933f1a3b523798629cc9d5fb9b5c4c8daf6b2a20769", checked := Tryz.checked }
namespace Rows
def none {H : Type} : Left H := { results := [], args := [] }

/-- 'laws.FnMat': WHATEVER THE INPUT: true; the input reads as it did. -/
def fnMatSpec : ChangeSpec := { name := "fnMat", fn := fun _ => fun
  | [d] => { results := [.lit (.bool true)], args := [d] }
  | _ => none }
def fnMatRow : OpenClaim := { program := "ytdffmeinofgdgaagreat", sum := "f371475611ebdc35a8107933f1a3b523798629cc9d5fb9b5c4c8daf6b2a20769", func := "loop.example/g00802/laws.FnMat", spec := "fnMat", inPlace := ["math/bits.Add64"], unfollowed := true, recurses := true, named := ["math/bits.divideError", "math/bits.overflowError"], apart := false }
def FnMatSaid : Prop := fnMatRow.holds Tryz.pinned (OpenSpec.ofChange fnMatSpec)

/-- ITS FALSE NEIGHBOUR: 'it returns false'. Refute it at one input. -/
def fnMatWrong : ChangeSpec := { name := "fnMat", fn := fun _ => fun
  | [d] => { results := [.lit (.bool false)], args := [d] }
  | _ => none }
def FnMatWrongFalsely : Prop := fnMatRow.holds Tryz.pinned (OpenSpec.ofChange fnMatWrong)

/-- 'laws.FnExactMatVec': WHATEVER THE INPUT: true; the input reads as it did. -/
def fnExactMatVecSpec : ChangeSpec := { name := "fnExactMatVec", fn := fun _ => fun
  | [d1, d2] => { results := [.lit (.bool true)], args := [d1, d2] }
  | _ => none }
def fnExactMatVecRow : OpenClaim := { program := "ytdffmeinofgdgaagreat", sum := "f371475611ebdc35a8107933f1a3b523798629cc9d5fb9b5c4c8daf6b2a20769", func := "loop.example/g00802/laws.FnExactMatVec", spec := "fnExactMatVec", inPlace := ["math/bits.Add64"], unfollowed := true, recurses := true, named := ["math/bits.divideError", "math/bits.overflowError"], apart := false }
def FnExactMatVecSaid : Prop := fnExactMatVecRow.holds Tryz.pinned (OpenSpec.ofChange fnExactMatVecSpec)

/-- ITS FALSE NEIGHBOUR: 'it returns false'. Refute it at one input. -/
def fnExactMatVecWrong : ChangeSpec := { name := "fnExactMatVec", fn := fun _ => fun
  | [d1, d2] => { results := [.lit (.bool false)], args := [d1, d2] }
  | _ => none }
def FnExactMatVecWrongFalsely : Prop := fnExactMatVecRow.holds Tryz.pinned (OpenSpec.ofChange fnExactMatVecWrong)

/-- 'laws.FnExactVecMat': WHATEVER THE INPUT: true; the input reads as it did. -/
def fnExactVecMatSpec : ChangeSpec := { name := "fnExactVecMat", fn := fun _ => fun
  | [d1, d2] => { results := [.lit (.bool true)], args := [d1, d2] }
  | _ => none }
def fnExactVecMatRow : OpenClaim := { program := "ytdffmeinofgdgaagreat", sum := "f371475611ebdc35a8107933f1a3b523798629cc9d5fb9b5c4c8daf6b2a20769", func := "loop.example/g00802/laws.FnExactVecMat", spec := "fnExactVecMat", inPlace := ["math/bits.Add64"], unfollowed := true, recurses := true, named := ["math/bits.divideError", "math/bits.overflowError"], apart := false }
def FnExactVecMatSaid : Prop := fnExactVecMatRow.holds Tryz.pinned (OpenSpec.ofChange fnExactVecMatSpec)

/-- ITS FALSE NEIGHBOUR: 'it returns false'. Refute it at one input. -/
def fnExactVecMatWrong : ChangeSpec := { name := "fnExactVecMat", fn := fun _ => fun
  | [d1, d2] => { results := [.lit (.bool false)], args := [d1, d2] }
  | _ => none }
def FnExactVecMatWrongFalsely : Prop := fnExactVecMatRow.holds Tryz.pinned (OpenSpec.ofChange fnExactVecMatWrong)

/-- 'laws.FnExactMatMul': WHATEVER THE INPUT: true; the input reads as it did. -/
def fnExactMatMulSpec : ChangeSpec := { name := "fnExactMatMul", fn := fun _ => fun
  | [d1, d2] => { results := [.lit (.bool true)], args := [d1, d2] }
  | _ => none }
def fnExactMatMulRow : OpenClaim := { program := "ytdffmeinofgdgaagreat", sum := "f371475611ebdc35a8107933f1a3b523798629cc9d5fb9b5c4c8daf6b2a20769", func := "loop.example/g00802/laws.FnExactMatMul", spec := "fnExactMatMul", inPlace := ["math/bits.Add64"], unfollowed := true, recurses := true, named := ["math/bits.divideError", "math/bits.overflowError"], apart := false }
def FnExactMatMulSaid : Prop := fnExactMatMulRow.holds Tryz.pinned (OpenSpec.ofChange fnExactMatMulSpec)

/-- ITS FALSE NEIGHBOUR: 'it returns false'. Refute it at one input. -/
def fnExactMatMulWrong : ChangeSpec := { name := "fnExactMatMul", fn := fun _ => fun
  | [d1, d2] => { results := [.lit (.bool false)], args := [d1, d2] }
  | _ => none }
def FnExactMatMulWrongFalsely : Prop := fnExactMatMulRow.holds Tryz.pinned (OpenSpec.ofChange fnExactMatMulWrong)

/- THE SECOND FORM. 'bulk': how many values and letters a reading holds, each counted each time it is reached (what is shared counts as often as it is met; a slice's spare places count too). A statement '..UptoSaid' is the law's where the arguments, and the package variables that the reading takes, are together of bulk at most 1048576: NARROWER than '..Said'. Prove '..Said' where nothing that the law and all that it calls make is longer than what came in: it says more and counts as full. Else prove '..UptoSaid'. A law counts once. -/
mutual
def uptoBulk {H : Type} : DataW H → Nat
  | .lit (.string bytes) => bytes.length + 1
  | .lit _ => 1
  | .nil => 1
  | .ptr d => uptoBulk d + 1
  | .slice elems spare => uptoBulkAll elems + uptoBulkAll spare + 1
  | .agg parts => uptoBulkAll parts + 1
  | .iface _ d => uptoBulk d + 1
  | .map entries => uptoBulkEntries entries + 1
  | .held _ => 1
def uptoBulkAll {H : Type} : List (DataW H) → Nat
  | [] => 0
  | d :: r => uptoBulk d + uptoBulkAll r
def uptoBulkEntries {H : Type} : List (Lit × DataW H) → Nat
  | [] => 0
  | x :: r => uptoBulkEntry x + uptoBulkEntries r
def uptoBulkEntry {H : Type} : Lit × DataW H → Nat
  | (.string bytes, d) => bytes.length + uptoBulk d + 1
  | (_, d) => uptoBulk d + 1
 end
def uptoSmall : (H : Type) → List (DataW H) → Bool := fun _ ds => decide (uptoBulkAll ds ≤ 1048576)
def OpenSpec.upto (s : _root_.Go.ChangeSpec) : _root_.Go.OpenSpec := { _root_.Go.OpenSpec.ofChange s with cond := some uptoSmall }

/-- 'laws.FnMat', WHERE WHAT IT READS IS OF BULK AT MOST 1048576: true; the input reads as it did. -/
def fnMatUptoRow : OpenClaim := { program := "ytdffmeinofgdgaagreat", sum := "f371475611ebdc35a8107933f1a3b523798629cc9d5fb9b5c4c8daf6b2a20769", func := "loop.example/g00802/laws.FnMat", spec := "fnMat", inPlace := ["math/bits.Add64"], unfollowed := true, recurses := true, named := ["math/bits.divideError", "math/bits.overflowError"], apart := false, narrowed := true }
def FnMatUptoSaid : Prop := fnMatUptoRow.holds Tryz.pinned (OpenSpec.upto fnMatSpec)

/-- 'laws.FnExactMatVec', WHERE WHAT IT READS IS OF BULK AT MOST 1048576: true; the input reads as it did. -/
def fnExactMatVecUptoRow : OpenClaim := { program := "ytdffmeinofgdgaagreat", sum := "f371475611ebdc35a8107933f1a3b523798629cc9d5fb9b5c4c8daf6b2a20769", func := "loop.example/g00802/laws.FnExactMatVec", spec := "fnExactMatVec", inPlace := ["math/bits.Add64"], unfollowed := true, recurses := true, named := ["math/bits.divideError", "math/bits.overflowError"], apart := false, narrowed := true }
def FnExactMatVecUptoSaid : Prop := fnExactMatVecUptoRow.holds Tryz.pinned (OpenSpec.upto fnExactMatVecSpec)

/-- 'laws.FnExactVecMat', WHERE WHAT IT READS IS OF BULK AT MOST 1048576: true; the input reads as it did. -/
def fnExactVecMatUptoRow : OpenClaim := { program := "ytdffmeinofgdgaagreat", sum := "f371475611ebdc35a8107933f1a3b523798629cc9d5fb9b5c4c8daf6b2a20769", func := "loop.example/g00802/laws.FnExactVecMat", spec := "fnExactVecMat", inPlace := ["math/bits.Add64"], unfollowed := true, recurses := true, named := ["math/bits.divideError", "math/bits.overflowError"], apart := false, narrowed := true }
def FnExactVecMatUptoSaid : Prop := fnExactVecMatUptoRow.holds Tryz.pinned (OpenSpec.upto fnExactVecMatSpec)

/-- 'laws.FnExactMatMul', WHERE WHAT IT READS IS OF BULK AT MOST 1048576: true; the input reads as it did. -/
def fnExactMatMulUptoRow : OpenClaim := { program := "ytdffmeinofgdgaagreat", sum := "f371475611ebdc35a8107933f1a3b523798629cc9d5fb9b5c4c8daf6b2a20769", func := "loop.example/g00802/laws.FnExactMatMul", spec := "fnExactMatMul", inPlace := ["math/bits.Add64"], unfollowed := true, recurses := true, named := ["math/bits.divideError", "math/bits.overflowError"], apart := false, narrowed := true }
def FnExactMatMulUptoSaid : Prop := fnExactMatMulUptoRow.holds Tryz.pinned (OpenSpec.upto fnExactMatMulSpec)

end Rows
end Go.Proofs.YtdffmeinofgdgaaGreat
