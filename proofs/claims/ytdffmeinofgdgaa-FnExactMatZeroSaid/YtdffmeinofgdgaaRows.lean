/-
  No cell of these rows narrows 'for every input' (looked for: loops, veiled, ifaces, maps, wideKeys, modest, calm, conditions, laid).
  DERIVED. THE GIVEN ROWS OF THIS SEAT. 6 by the template 'for every input the law returns true; each argument reads behind the call as it read before'; 0 by the template 'total and deterministic' (their statements: YtdffmeinofgdgaaTotals.lean).
  GIVEN WITH THE SEED: the statements are not yours to turn. If you find one false, say at which input.
  Laid BY PROGRAM, IN A SANDBOX (cutbox-rows.mjs): the forced cells as the released guide's own fill.sh prints them over the translation 58b5e3b2fe067564… (all of the seat's roots in one cut). By AI agents, Wed Nov 11 2026. No macro, syntax, notation, axiom, sorry.
-/
import Derived.Test.YtdffmeinofgdgaaChecked
import GoSem.Claim
import GoSem.ClaimJoined
import GoSem.ClaimMapViews
import Derived.JoinedTies
import Derived.KernelRfl
namespace Go.Proofs.Ytdffmeinofgdgaa
/- THE CELL 'sum', in the pinned program and in every row, IS THE sha256 OF THE DUMP (.gsa) THAT YtdffmeinofgdgaaProg.lean LOADS. Nothing in Lean hashes anything: it is a label: what it is worth is what the hold of that sum in a sandbox is worth. -/
noncomputable def Try.pinned : Pinned := { name := "ytdffmeinofgdgaa", sum := "58b5e3b2fe067564f133134ed778048daf2db8851151f835e23bd02c4f2c101b", checked := Try.checked }
namespace Rows
def none {H : Type} : Left H := { results := [], args := [] }

/-- 'laws.FnExactMatOk': WHATEVER THE INPUT: true; the input reads as it did. -/
def fnExactMatOkSpec : ChangeSpec := { name := "fnExactMatOk", fn := fun _ => fun
  | [d] => { results := [.lit (.bool true)], args := [d] }
  | _ => none }
def fnExactMatOkRow : OpenClaim := { program := "ytdffmeinofgdgaa", sum := "58b5e3b2fe067564f133134ed778048daf2db8851151f835e23bd02c4f2c101b", func := "loop.example/g00802/laws.FnExactMatOk", spec := "fnExactMatOk", inPlace := ["math/bits.Add64"], named := ["math/bits.divideError", "math/bits.overflowError"], apart := false }
def FnExactMatOkSaid : Prop := fnExactMatOkRow.holds Try.pinned (OpenSpec.ofChange fnExactMatOkSpec)

/-- ITS FALSE NEIGHBOUR: 'it returns false'. Refute it at one input. -/
def fnExactMatOkWrong : ChangeSpec := { name := "fnExactMatOk", fn := fun _ => fun
  | [d] => { results := [.lit (.bool false)], args := [d] }
  | _ => none }
def FnExactMatOkWrongFalsely : Prop := fnExactMatOkRow.holds Try.pinned (OpenSpec.ofChange fnExactMatOkWrong)

/-- 'laws.FnExactMatZero': WHATEVER THE INPUT: true; the input reads as it did. -/
def fnExactMatZeroSpec : ChangeSpec := { name := "fnExactMatZero", fn := fun _ => fun
  | [d1, d2] => { results := [.lit (.bool true)], args := [d1, d2] }
  | _ => none }
def fnExactMatZeroRow : OpenClaim := { program := "ytdffmeinofgdgaa", sum := "58b5e3b2fe067564f133134ed778048daf2db8851151f835e23bd02c4f2c101b", func := "loop.example/g00802/laws.FnExactMatZero", spec := "fnExactMatZero", unfollowed := true, recurses := true, apart := false }
def FnExactMatZeroSaid : Prop := fnExactMatZeroRow.holds Try.pinned (OpenSpec.ofChange fnExactMatZeroSpec)

/-- ITS FALSE NEIGHBOUR: 'it returns false'. Refute it at one input. -/
def fnExactMatZeroWrong : ChangeSpec := { name := "fnExactMatZero", fn := fun _ => fun
  | [d1, d2] => { results := [.lit (.bool false)], args := [d1, d2] }
  | _ => none }
def FnExactMatZeroWrongFalsely : Prop := fnExactMatZeroRow.holds Try.pinned (OpenSpec.ofChange fnExactMatZeroWrong)

/-- 'laws.FnExactMatIdentity': WHATEVER THE INPUT: true; the input reads as it did. -/
def fnExactMatIdentitySpec : ChangeSpec := { name := "fnExactMatIdentity", fn := fun _ => fun
  | [d] => { results := [.lit (.bool true)], args := [d] }
  | _ => none }
def fnExactMatIdentityRow : OpenClaim := { program := "ytdffmeinofgdgaa", sum := "58b5e3b2fe067564f133134ed778048daf2db8851151f835e23bd02c4f2c101b", func := "loop.example/g00802/laws.FnExactMatIdentity", spec := "fnExactMatIdentity", unfollowed := true, recurses := true, apart := false }
def FnExactMatIdentitySaid : Prop := fnExactMatIdentityRow.holds Try.pinned (OpenSpec.ofChange fnExactMatIdentitySpec)

/-- ITS FALSE NEIGHBOUR: 'it returns false'. Refute it at one input. -/
def fnExactMatIdentityWrong : ChangeSpec := { name := "fnExactMatIdentity", fn := fun _ => fun
  | [d] => { results := [.lit (.bool false)], args := [d] }
  | _ => none }
def FnExactMatIdentityWrongFalsely : Prop := fnExactMatIdentityRow.holds Try.pinned (OpenSpec.ofChange fnExactMatIdentityWrong)

/-- 'laws.FnExactMatTranspose': WHATEVER THE INPUT: true; the input reads as it did. -/
def fnExactMatTransposeSpec : ChangeSpec := { name := "fnExactMatTranspose", fn := fun _ => fun
  | [d] => { results := [.lit (.bool true)], args := [d] }
  | _ => none }
def fnExactMatTransposeRow : OpenClaim := { program := "ytdffmeinofgdgaa", sum := "58b5e3b2fe067564f133134ed778048daf2db8851151f835e23bd02c4f2c101b", func := "loop.example/g00802/laws.FnExactMatTranspose", spec := "fnExactMatTranspose", inPlace := ["math/bits.Add64"], unfollowed := true, recurses := true, named := ["math/bits.divideError", "math/bits.overflowError"], apart := false }
def FnExactMatTransposeSaid : Prop := fnExactMatTransposeRow.holds Try.pinned (OpenSpec.ofChange fnExactMatTransposeSpec)

/-- ITS FALSE NEIGHBOUR: 'it returns false'. Refute it at one input. -/
def fnExactMatTransposeWrong : ChangeSpec := { name := "fnExactMatTranspose", fn := fun _ => fun
  | [d] => { results := [.lit (.bool false)], args := [d] }
  | _ => none }
def FnExactMatTransposeWrongFalsely : Prop := fnExactMatTransposeRow.holds Try.pinned (OpenSpec.ofChange fnExactMatTransposeWrong)

/-- 'laws.FnExactMatCols': WHATEVER THE INPUT: true; the input reads as it did. -/
def fnExactMatColsSpec : ChangeSpec := { name := "fnExactMatCols", fn := fun _ => fun
  | [d1, d2] => { results := [.lit (.bool true)], args := [d1, d2] }
  | _ => none }
def fnExactMatColsRow : OpenClaim := { program := "ytdffmeinofgdgaa", sum := "58b5e3b2fe067564f133134ed778048daf2db8851151f835e23bd02c4f2c101b", func := "loop.example/g00802/laws.FnExactMatCols", spec := "fnExactMatCols", inPlace := ["math/bits.Add64"], unfollowed := true, recurses := true, named := ["math/bits.divideError", "math/bits.overflowError"], apart := false }
def FnExactMatColsSaid : Prop := fnExactMatColsRow.holds Try.pinned (OpenSpec.ofChange fnExactMatColsSpec)

/-- ITS FALSE NEIGHBOUR: 'it returns false'. Refute it at one input. -/
def fnExactMatColsWrong : ChangeSpec := { name := "fnExactMatCols", fn := fun _ => fun
  | [d1, d2] => { results := [.lit (.bool false)], args := [d1, d2] }
  | _ => none }
def FnExactMatColsWrongFalsely : Prop := fnExactMatColsRow.holds Try.pinned (OpenSpec.ofChange fnExactMatColsWrong)

/-- 'laws.FnExactMatEqual': WHATEVER THE INPUT: true; the input reads as it did. -/
def fnExactMatEqualSpec : ChangeSpec := { name := "fnExactMatEqual", fn := fun _ => fun
  | [d1, d2] => { results := [.lit (.bool true)], args := [d1, d2] }
  | _ => none }
def fnExactMatEqualRow : OpenClaim := { program := "ytdffmeinofgdgaa", sum := "58b5e3b2fe067564f133134ed778048daf2db8851151f835e23bd02c4f2c101b", func := "loop.example/g00802/laws.FnExactMatEqual", spec := "fnExactMatEqual", unfollowed := true, recurses := true, apart := false }
def FnExactMatEqualSaid : Prop := fnExactMatEqualRow.holds Try.pinned (OpenSpec.ofChange fnExactMatEqualSpec)

/-- ITS FALSE NEIGHBOUR: 'it returns false'. Refute it at one input. -/
def fnExactMatEqualWrong : ChangeSpec := { name := "fnExactMatEqual", fn := fun _ => fun
  | [d1, d2] => { results := [.lit (.bool false)], args := [d1, d2] }
  | _ => none }
def FnExactMatEqualWrongFalsely : Prop := fnExactMatEqualRow.holds Try.pinned (OpenSpec.ofChange fnExactMatEqualWrong)

/- THE SECOND FORM. 'bulk': how many values and letters a reading holds, each counted each time it is reached (what is shared counts as often as it is met; a slice's spare places count too). A statement '..UptoSaid' is the law's where the arguments, and the package variables that the reading takes, are together of bulk at most 1048576: NARROWER than '..Said'. Prove '..Said' where nothing that the law and all that it calls make is longer than what came in: it says more and counts as full. Else prove '..UptoSaid'. A law counts once. -/
mutual
def uptoBulk {H : Type} : DataW H → Nat
  | .lit (.string bytes) => bytes.length + 1
  | .lit _ => 1
  | .nil => 1
  | .ptr d => uptoBulk d + 1
  | .slice elems spare => uptoBulkAll elems + uptoBulkAll spare + 1
  | .agg parts => uptoBulkAll parts + 1
  | .iface _ d => uptoBulk d + 1
  | .map entries => uptoBulkEntries entries + 1
  | .held _ => 1
def uptoBulkAll {H : Type} : List (DataW H) → Nat
  | [] => 0
  | d :: r => uptoBulk d + uptoBulkAll r
def uptoBulkEntries {H : Type} : List (Lit × DataW H) → Nat
  | [] => 0
  | x :: r => uptoBulkEntry x + uptoBulkEntries r
def uptoBulkEntry {H : Type} : Lit × DataW H → Nat
  | (.string bytes, d) => bytes.length + uptoBulk d + 1
  | (_, d) => uptoBulk d + 1
 end
def uptoSmall : (H : Type) → List (DataW H) → Bool := fun _ ds => decide (uptoBulkAll ds ≤ 1048576)
def OpenSpec.upto (s : _root_.Go.ChangeSpec) : _root_.Go.OpenSpec := { _root_.Go.OpenSpec.ofChange s with cond := some uptoSmall }

/-- 'laws.FnExactMatOk', WHERE WHAT IT READS IS OF BULK AT MOST 1048576: true; the input reads as it did. -/
def fnExactMatOkUptoRow : OpenClaim := { program := "ytdffmeinofgdgaa", sum := "58b5e3b2fe067564f133134ed778048daf2db8851151f835e23bd02c4f2c101b", func := "loop.example/g00802/laws.FnExactMatOk", spec := "fnExactMatOk", inPlace := ["math/bits.Add64"], named := ["math/bits.divideError", "math/bits.overflowError"], apart := false, narrowed := true }
def FnExactMatOkUptoSaid : Prop := fnExactMatOkUptoRow.holds Try.pinned (OpenSpec.upto fnExactMatOkSpec)

/-- 'laws.FnExactMatZero', WHERE WHAT IT READS IS OF BULK AT MOST 1048576: true; the input reads as it did. -/
def fnExactMatZeroUptoRow : OpenClaim := { program := "ytdffmeinofgdgaa", sum := "58b5e3b2fe067564f133134ed778048daf2db8851151f835e23bd02c4f2c101b", func := "loop.example/g00802/laws.FnExactMatZero", spec := "fnExactMatZero", unfollowed := true, recurses := true, apart := false, narrowed := true }
def FnExactMatZeroUptoSaid : Prop := fnExactMatZeroUptoRow.holds Try.pinned (OpenSpec.upto fnExactMatZeroSpec)

/-- 'laws.FnExactMatIdentity', WHERE WHAT IT READS IS OF BULK AT MOST 1048576: true; the input reads as it did. -/
def fnExactMatIdentityUptoRow : OpenClaim := { program := "ytdffmeinofgdgaa", sum := "58b5e3b2fe067564f133134ed778048daf2db8851151f835e23bd02c4f2c101b", func := "loop.example/g00802/laws.FnExactMatIdentity", spec := "fnExactMatIdentity", unfollowed := true, recurses := true, apart := false, narrowed := true }
def FnExactMatIdentityUptoSaid : Prop := fnExactMatIdentityUptoRow.holds Try.pinned (OpenSpec.upto fnExactMatIdentitySpec)

/-- 'laws.FnExactMatTranspose', WHERE WHAT IT READS IS OF BULK AT MOST 1048576: true; the input reads as it did. -/
def fnExactMatTransposeUptoRow : OpenClaim := { program := "ytdffmeinofgdgaa", sum := "58b5e3b2fe067564f133134ed778048daf2db8851151f835e23bd02c4f2c101b", func := "loop.example/g00802/laws.FnExactMatTranspose", spec := "fnExactMatTranspose", inPlace := ["math/bits.Add64"], unfollowed := true, recurses := true, named := ["math/bits.divideError", "math/bits.overflowError"], apart := false, narrowed := true }
def FnExactMatTransposeUptoSaid : Prop := fnExactMatTransposeUptoRow.holds Try.pinned (OpenSpec.upto fnExactMatTransposeSpec)

/-- 'laws.FnExactMatCols', WHERE WHAT IT READS IS OF BULK AT MOST 1048576: true; the input reads as it did. -/
def fnExactMatColsUptoRow : OpenClaim := { program := "ytdffmeinofgdgaa", sum := "58b5e3b2fe067564f133134ed778048daf2db8851151f835e23bd02c4f2c101b", func := "loop.example/g00802/laws.FnExactMatCols", spec := "fnExactMatCols", inPlace := ["math/bits.Add64"], unfollowed := true, recurses := true, named := ["math/bits.divideError", "math/bits.overflowError"], apart := false, narrowed := true }
def FnExactMatColsUptoSaid : Prop := fnExactMatColsUptoRow.holds Try.pinned (OpenSpec.upto fnExactMatColsSpec)

/-- 'laws.FnExactMatEqual', WHERE WHAT IT READS IS OF BULK AT MOST 1048576: true; the input reads as it did. -/
def fnExactMatEqualUptoRow : OpenClaim := { program := "ytdffmeinofgdgaa", sum := "58b5e3b2fe067564f133134ed778048daf2db8851151f835e23bd02c4f2c101b", func := "loop.example/g00802/laws.FnExactMatEqual", spec := "fnExactMatEqual", unfollowed := true, recurses := true, apart := false, narrowed := true }
def FnExactMatEqualUptoSaid : Prop := fnExactMatEqualUptoRow.holds Try.pinned (OpenSpec.upto fnExactMatEqualSpec)

end Rows
end Go.Proofs.Ytdffmeinofgdgaa
