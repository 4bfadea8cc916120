/-
  No cell of these rows narrows 'for every input' (looked for: loops, veiled, ifaces, maps, wideKeys, modest, calm, conditions, laid).
  DERIVED. THE GIVEN ROWS OF THIS SEAT. 5 by the template 'for every input the law returns true; each argument reads behind the call as it read before'; 0 by the template 'total and deterministic' (their statements: YthkehmnodcmlcaaTotals.lean).
  GIVEN WITH THE SEED: the statements are not yours to turn. If you find one false, say at which input.
  Laid BY PROGRAM, IN A SANDBOX (cutbox-rows.mjs): the forced cells as the released guide's own fill.sh prints them over the translation 67d54d21020ec312… (all of the seat's roots in one cut). By AI agents, Wed Nov 11 2026. No macro, syntax, notation, axiom, sorry.
-/
import Derived.Test.YthkehmnodcmlcaaChecked
import GoSem.Claim
import GoSem.ClaimJoined
import GoSem.ClaimMapViews
import Derived.JoinedTies
import Derived.KernelRfl
namespace Go.Proofs.Ythkehmnodcmlcaa
/- THE CELL 'sum', in the pinned program and in every row, IS THE sha256 OF THE DUMP (.gsa) THAT YthkehmnodcmlcaaProg.lean LOADS. Nothing in Lean hashes anything: it is a label: what it is worth is what the hold of that sum in a sandbox is worth. -/
noncomputable def Try.pinned : Pinned := { name := "ythkehmnodcmlcaa", sum := "67d54d21020ec31295d44bbbb33fc1b60b6c3d60d86055aee6745158bc4b1790", checked := Try.checked }
namespace Rows
def none {H : Type} : Left H := { results := [], args := [] }

/-- 'laws.FnExactRowOk': WHATEVER THE INPUT: true; the input reads as it did. -/
def fnExactRowOkSpec : ChangeSpec := { name := "fnExactRowOk", fn := fun _ => fun
  | [d1, d2] => { results := [.lit (.bool true)], args := [d1, d2] }
  | _ => none }
def fnExactRowOkRow : OpenClaim := { program := "ythkehmnodcmlcaa", sum := "67d54d21020ec31295d44bbbb33fc1b60b6c3d60d86055aee6745158bc4b1790", func := "loop.example/g00802/laws.FnExactRowOk", spec := "fnExactRowOk", inPlace := ["math/bits.Add64"], named := ["math/bits.divideError", "math/bits.overflowError"], apart := false }
def FnExactRowOkSaid : Prop := fnExactRowOkRow.holds Try.pinned (OpenSpec.ofChange fnExactRowOkSpec)

/-- ITS FALSE NEIGHBOUR: 'it returns false'. Refute it at one input. -/
def fnExactRowOkWrong : ChangeSpec := { name := "fnExactRowOk", fn := fun _ => fun
  | [d1, d2] => { results := [.lit (.bool false)], args := [d1, d2] }
  | _ => none }
def FnExactRowOkWrongFalsely : Prop := fnExactRowOkRow.holds Try.pinned (OpenSpec.ofChange fnExactRowOkWrong)

/-- 'laws.FnExactRowEqual': WHATEVER THE INPUT: true; the input reads as it did. -/
def fnExactRowEqualSpec : ChangeSpec := { name := "fnExactRowEqual", fn := fun _ => fun
  | [d1, d2] => { results := [.lit (.bool true)], args := [d1, d2] }
  | _ => none }
def fnExactRowEqualRow : OpenClaim := { program := "ythkehmnodcmlcaa", sum := "67d54d21020ec31295d44bbbb33fc1b60b6c3d60d86055aee6745158bc4b1790", func := "loop.example/g00802/laws.FnExactRowEqual", spec := "fnExactRowEqual", unfollowed := true, recurses := true, apart := false }
def FnExactRowEqualSaid : Prop := fnExactRowEqualRow.holds Try.pinned (OpenSpec.ofChange fnExactRowEqualSpec)

/-- ITS FALSE NEIGHBOUR: 'it returns false'. Refute it at one input. -/
def fnExactRowEqualWrong : ChangeSpec := { name := "fnExactRowEqual", fn := fun _ => fun
  | [d1, d2] => { results := [.lit (.bool false)], args := [d1, d2] }
  | _ => none }
def FnExactRowEqualWrongFalsely : Prop := fnExactRowEqualRow.holds Try.pinned (OpenSpec.ofChange fnExactRowEqualWrong)

/-- 'laws.FnExactFormatSense': WHATEVER THE INPUT: true; the input reads as it did. -/
def fnExactFormatSenseSpec : ChangeSpec := { name := "fnExactFormatSense", fn := fun _ => fun
  | [d] => { results := [.lit (.bool true)], args := [d] }
  | _ => none }
def fnExactFormatSenseRow : OpenClaim := { program := "ythkehmnodcmlcaa", sum := "67d54d21020ec31295d44bbbb33fc1b60b6c3d60d86055aee6745158bc4b1790", func := "loop.example/g00802/laws.FnExactFormatSense", spec := "fnExactFormatSense", apart := false }
def FnExactFormatSenseSaid : Prop := fnExactFormatSenseRow.holds Try.pinned (OpenSpec.ofChange fnExactFormatSenseSpec)

/-- ITS FALSE NEIGHBOUR: 'it returns false'. Refute it at one input. -/
def fnExactFormatSenseWrong : ChangeSpec := { name := "fnExactFormatSense", fn := fun _ => fun
  | [d] => { results := [.lit (.bool false)], args := [d] }
  | _ => none }
def FnExactFormatSenseWrongFalsely : Prop := fnExactFormatSenseRow.holds Try.pinned (OpenSpec.ofChange fnExactFormatSenseWrong)

/-- 'laws.FnExactFactorOk': WHATEVER THE INPUT: true; the input reads as it did. -/
def fnExactFactorOkSpec : ChangeSpec := { name := "fnExactFactorOk", fn := fun _ => fun
  | [d] => { results := [.lit (.bool true)], args := [d] }
  | _ => none }
def fnExactFactorOkRow : OpenClaim := { program := "ythkehmnodcmlcaa", sum := "67d54d21020ec31295d44bbbb33fc1b60b6c3d60d86055aee6745158bc4b1790", func := "loop.example/g00802/laws.FnExactFactorOk", spec := "fnExactFactorOk", inPlace := ["math/bits.Add64"], named := ["math/bits.divideError", "math/bits.overflowError"], apart := false }
def FnExactFactorOkSaid : Prop := fnExactFactorOkRow.holds Try.pinned (OpenSpec.ofChange fnExactFactorOkSpec)

/-- ITS FALSE NEIGHBOUR: 'it returns false'. Refute it at one input. -/
def fnExactFactorOkWrong : ChangeSpec := { name := "fnExactFactorOk", fn := fun _ => fun
  | [d] => { results := [.lit (.bool false)], args := [d] }
  | _ => none }
def FnExactFactorOkWrongFalsely : Prop := fnExactFactorOkRow.holds Try.pinned (OpenSpec.ofChange fnExactFactorOkWrong)

/-- 'laws.FnExactFactorEqual': WHATEVER THE INPUT: true; the input reads as it did. -/
def fnExactFactorEqualSpec : ChangeSpec := { name := "fnExactFactorEqual", fn := fun _ => fun
  | [d1, d2] => { results := [.lit (.bool true)], args := [d1, d2] }
  | _ => none }
def fnExactFactorEqualRow : OpenClaim := { program := "ythkehmnodcmlcaa", sum := "67d54d21020ec31295d44bbbb33fc1b60b6c3d60d86055aee6745158bc4b1790", func := "loop.example/g00802/laws.FnExactFactorEqual", spec := "fnExactFactorEqual", unfollowed := true, recurses := true, apart := false }
def FnExactFactorEqualSaid : Prop := fnExactFactorEqualRow.holds Try.pinned (OpenSpec.ofChange fnExactFactorEqualSpec)

/-- ITS FALSE NEIGHBOUR: 'it returns false'. Refute it at one input. -/
def fnExactFactorEqualWrong : ChangeSpec := { name := "fnExactFactorEqual", fn := fun _ => fun
  | [d1, d2] => { results := [.lit (.bool false)], args := [d1, d2] }
  | _ => none }
def FnExactFactorEqualWrongFalsely : Prop := fnExactFactorEqualRow.holds Try.pinned (OpenSpec.ofChange fnExactFactorEqualWrong)

/- THE SECOND FORM. 'bulk': how many values and letters a reading holds, each counted each time it is reached (what is shared counts as often as it is met; a slice's spare places count too). A statement '..UptoSaid' is the law's where the arguments, and the package variables that the reading takes, are together of bulk at most 1048576: NARROWER than '..Said'. Prove '..Said' where nothing that the law and all that it calls make is longer than what came in: it says more and counts as full. Else prove '..UptoSaid'. A law counts once. -/
mutual
def uptoBulk {H : Type} : DataW H → Nat
  | .lit (.string bytes) => bytes.length + 1
  | .lit _ => 1
  | .nil => 1
  | .ptr d => uptoBulk d + 1
  | .slice elems spare => uptoBulkAll elems + uptoBulkAll spare + 1
  | .agg parts => uptoBulkAll parts + 1
  | .iface _ d => uptoBulk d + 1
  | .map entries => uptoBulkEntries entries + 1
  | .held _ => 1
def uptoBulkAll {H : Type} : List (DataW H) → Nat
  | [] => 0
  | d :: r => uptoBulk d + uptoBulkAll r
def uptoBulkEntries {H : Type} : List (Lit × DataW H) → Nat
  | [] => 0
  | x :: r => uptoBulkEntry x + uptoBulkEntries r
def uptoBulkEntry {H : Type} : Lit × DataW H → Nat
  | (.string bytes, d) => bytes.length + uptoBulk d + 1
  | (_, d) => uptoBulk d + 1
 end
def uptoSmall : (H : Type) → List (DataW H) → Bool := fun _ ds => decide (uptoBulkAll ds ≤ 1048576)
def OpenSpec.upto (s : _root_.Go.ChangeSpec) : _root_.Go.OpenSpec := { _root_.Go.OpenSpec.ofChange s with cond := some uptoSmall }

/-- 'laws.FnExactRowOk', WHERE WHAT IT READS IS OF BULK AT MOST 1048576: true; the input reads as it did. -/
def fnExactRowOkUptoRow : OpenClaim := { program := "ythkehmnodcmlcaa", sum := "67d54d21020ec31295d44bbbb33fc1b60b6c3d60d86055aee6745158bc4b1790", func := "loop.example/g00802/laws.FnExactRowOk", spec := "fnExactRowOk", inPlace := ["math/bits.Add64"], named := ["math/bits.divideError", "math/bits.overflowError"], apart := false, narrowed := true }
def FnExactRowOkUptoSaid : Prop := fnExactRowOkUptoRow.holds Try.pinned (OpenSpec.upto fnExactRowOkSpec)

/-- 'laws.FnExactRowEqual', WHERE WHAT IT READS IS OF BULK AT MOST 1048576: true; the input reads as it did. -/
def fnExactRowEqualUptoRow : OpenClaim := { program := "ythkehmnodcmlcaa", sum := "67d54d21020ec31295d44bbbb33fc1b60b6c3d60d86055aee6745158bc4b1790", func := "loop.example/g00802/laws.FnExactRowEqual", spec := "fnExactRowEqual", unfollowed := true, recurses := true, apart := false, narrowed := true }
def FnExactRowEqualUptoSaid : Prop := fnExactRowEqualUptoRow.holds Try.pinned (OpenSpec.upto fnExactRowEqualSpec)

/-- 'laws.FnExactFormatSense', WHERE WHAT IT READS IS OF BULK AT MOST 1048576: true; the input reads as it did. -/
def fnExactFormatSenseUptoRow : OpenClaim := { program := "ythkehmnodcmlcaa", sum := "67d54d21020ec31295d44bbbb33fc1b60b6c3d60d86055aee6745158bc4b1790", func := "loop.example/g00802/laws.FnExactFormatSense", spec := "fnExactFormatSense", apart := false, narrowed := true }
def FnExactFormatSenseUptoSaid : Prop := fnExactFormatSenseUptoRow.holds Try.pinned (OpenSpec.upto fnExactFormatSenseSpec)

/-- 'laws.FnExactFactorOk', WHERE WHAT IT READS IS OF BULK AT MOST 1048576: true; the input reads as it did. -/
def fnExactFactorOkUptoRow : OpenClaim := { program := "ythkehmnodcmlcaa", sum := "67d54d21020ec31295d44bbbb33fc1b60b6c3d60d86055aee6745158bc4b1790", func := "loop.example/g00802/laws.FnExactFactorOk", spec := "fnExactFactorOk", inPlace := ["math/bits.Add64"], named := ["math/bits.divideError", "math/bits.overflowError"], apart := false, narrowed := true }
def FnExactFactorOkUptoSaid : Prop := fnExactFactorOkUptoRow.holds Try.pinned (OpenSpec.upto fnExactFactorOkSpec)

/-- 'laws.FnExactFactorEqual', WHERE WHAT IT READS IS OF BULK AT MOST 1048576: true; the input reads as it did. -/
def fnExactFactorEqualUptoRow : OpenClaim := { program := "ythkehmnodcmlcaa", sum := "67d54d21020ec31295d44bbbb33fc1b60b6c3d60d86055aee6745158bc4b1790", func := "loop.example/g00802/laws.FnExactFactorEqual", spec := "fnExactFactorEqual", unfollowed := true, recurses := true, apart := false, narrowed := true }
def FnExactFactorEqualUptoSaid : Prop := fnExactFactorEqualUptoRow.holds Try.pinned (OpenSpec.upto fnExactFactorEqualSpec)

end Rows
end Go.Proofs.Ythkehmnodcmlcaa
