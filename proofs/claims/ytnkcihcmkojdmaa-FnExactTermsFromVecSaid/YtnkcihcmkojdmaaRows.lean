/-
  No cell of these rows narrows 'for every input' (looked for: loops, veiled, ifaces, maps, wideKeys, modest, calm, conditions, laid).
  DERIVED. THE GIVEN ROWS OF THIS SEAT. 6 by the template 'for every input the law returns true; each argument reads behind the call as it read before'; 0 by the template 'total and deterministic' (their statements: YtnkcihcmkojdmaaTotals.lean).
  GIVEN WITH THE SEED: the statements are not yours to turn. If you find one false, say at which input.
  Laid BY PROGRAM, IN A SANDBOX (cutbox-rows.mjs): the forced cells as the released guide's own fill.sh prints them over the translation 22b7b2544e3ec08a… (all of the seat's roots in one cut). By AI agents, Wed Nov 11 2026. No macro, syntax, notation, axiom, sorry.
-/
import Derived.Test.YtnkcihcmkojdmaaChecked
import GoSem.Claim
import GoSem.ClaimJoined
import GoSem.ClaimMapViews
import Derived.JoinedTies
import Derived.KernelRfl
namespace Go.Proofs.Ytnkcihcmkojdmaa
/- THE CELL 'sum', in the pinned program and in every row, IS THE sha256 OF THE DUMP (.gsa) THAT YtnkcihcmkojdmaaProg.lean LOADS. Nothing in Lean hashes anything: it is a label: what it is worth is what the hold of that sum in a sandbox is worth. -/
noncomputable def Try.pinned : Pinned := { name := "ytnkcihcmkojdmaa", sum := "22b7b2544e3ec08a34d20e9aac13e462657b16a3c0315c74edba4e80a8bc2889", checked := Try.checked }
namespace Rows
def none {H : Type} : Left H := { results := [], args := [] }

/-- 'laws.FnExactTermsOk': WHATEVER THE INPUT: true; the input reads as it did. -/
def fnExactTermsOkSpec : ChangeSpec := { name := "fnExactTermsOk", fn := fun _ => fun
  | [d1, d2] => { results := [.lit (.bool true)], args := [d1, d2] }
  | _ => none }
def fnExactTermsOkRow : OpenClaim := { program := "ytnkcihcmkojdmaa", sum := "22b7b2544e3ec08a34d20e9aac13e462657b16a3c0315c74edba4e80a8bc2889", func := "loop.example/g00802/laws.FnExactTermsOk", spec := "fnExactTermsOk", inPlace := ["math/bits.Add64"], named := ["math/bits.divideError", "math/bits.overflowError"], apart := false }
def FnExactTermsOkSaid : Prop := fnExactTermsOkRow.holds Try.pinned (OpenSpec.ofChange fnExactTermsOkSpec)

/-- ITS FALSE NEIGHBOUR: 'it returns false'. Refute it at one input. -/
def fnExactTermsOkWrong : ChangeSpec := { name := "fnExactTermsOk", fn := fun _ => fun
  | [d1, d2] => { results := [.lit (.bool false)], args := [d1, d2] }
  | _ => none }
def FnExactTermsOkWrongFalsely : Prop := fnExactTermsOkRow.holds Try.pinned (OpenSpec.ofChange fnExactTermsOkWrong)

/-- 'laws.FnExactTermsFromVec': WHATEVER THE INPUT: true; the input reads as it did. -/
def fnExactTermsFromVecSpec : ChangeSpec := { name := "fnExactTermsFromVec", fn := fun _ => fun
  | [d] => { results := [.lit (.bool true)], args := [d] }
  | _ => none }
def fnExactTermsFromVecRow : OpenClaim := { program := "ytnkcihcmkojdmaa", sum := "22b7b2544e3ec08a34d20e9aac13e462657b16a3c0315c74edba4e80a8bc2889", func := "loop.example/g00802/laws.FnExactTermsFromVec", spec := "fnExactTermsFromVec", inPlace := ["math/bits.Add64"], recurses := true, named := ["math/bits.divideError", "math/bits.overflowError"], apart := false }
def FnExactTermsFromVecSaid : Prop := fnExactTermsFromVecRow.holds Try.pinned (OpenSpec.ofChange fnExactTermsFromVecSpec)

/-- ITS FALSE NEIGHBOUR: 'it returns false'. Refute it at one input. -/
def fnExactTermsFromVecWrong : ChangeSpec := { name := "fnExactTermsFromVec", fn := fun _ => fun
  | [d] => { results := [.lit (.bool false)], args := [d] }
  | _ => none }
def FnExactTermsFromVecWrongFalsely : Prop := fnExactTermsFromVecRow.holds Try.pinned (OpenSpec.ofChange fnExactTermsFromVecWrong)

/-- 'laws.FnExactTermsToVec': WHATEVER THE INPUT: true; the input reads as it did. -/
def fnExactTermsToVecSpec : ChangeSpec := { name := "fnExactTermsToVec", fn := fun _ => fun
  | [d1, d2] => { results := [.lit (.bool true)], args := [d1, d2] }
  | _ => none }
def fnExactTermsToVecRow : OpenClaim := { program := "ytnkcihcmkojdmaa", sum := "22b7b2544e3ec08a34d20e9aac13e462657b16a3c0315c74edba4e80a8bc2889", func := "loop.example/g00802/laws.FnExactTermsToVec", spec := "fnExactTermsToVec", inPlace := ["math/bits.Add64"], named := ["math/bits.divideError", "math/bits.overflowError"], apart := false }
def FnExactTermsToVecSaid : Prop := fnExactTermsToVecRow.holds Try.pinned (OpenSpec.ofChange fnExactTermsToVecSpec)

/-- ITS FALSE NEIGHBOUR: 'it returns false'. Refute it at one input. -/
def fnExactTermsToVecWrong : ChangeSpec := { name := "fnExactTermsToVec", fn := fun _ => fun
  | [d1, d2] => { results := [.lit (.bool false)], args := [d1, d2] }
  | _ => none }
def FnExactTermsToVecWrongFalsely : Prop := fnExactTermsToVecRow.holds Try.pinned (OpenSpec.ofChange fnExactTermsToVecWrong)

/-- 'laws.FnExactTermsCoef': WHATEVER THE INPUT: true; the input reads as it did. -/
def fnExactTermsCoefSpec : ChangeSpec := { name := "fnExactTermsCoef", fn := fun _ => fun
  | [d1, d2] => { results := [.lit (.bool true)], args := [d1, d2] }
  | _ => none }
def fnExactTermsCoefRow : OpenClaim := { program := "ytnkcihcmkojdmaa", sum := "22b7b2544e3ec08a34d20e9aac13e462657b16a3c0315c74edba4e80a8bc2889", func := "loop.example/g00802/laws.FnExactTermsCoef", spec := "fnExactTermsCoef", apart := false }
def FnExactTermsCoefSaid : Prop := fnExactTermsCoefRow.holds Try.pinned (OpenSpec.ofChange fnExactTermsCoefSpec)

/-- ITS FALSE NEIGHBOUR: 'it returns false'. Refute it at one input. -/
def fnExactTermsCoefWrong : ChangeSpec := { name := "fnExactTermsCoef", fn := fun _ => fun
  | [d1, d2] => { results := [.lit (.bool false)], args := [d1, d2] }
  | _ => none }
def FnExactTermsCoefWrongFalsely : Prop := fnExactTermsCoefRow.holds Try.pinned (OpenSpec.ofChange fnExactTermsCoefWrong)

/-- 'laws.FnExactTermsCols': WHATEVER THE INPUT: true; the input reads as it did. -/
def fnExactTermsColsSpec : ChangeSpec := { name := "fnExactTermsCols", fn := fun _ => fun
  | [d] => { results := [.lit (.bool true)], args := [d] }
  | _ => none }
def fnExactTermsColsRow : OpenClaim := { program := "ytnkcihcmkojdmaa", sum := "22b7b2544e3ec08a34d20e9aac13e462657b16a3c0315c74edba4e80a8bc2889", func := "loop.example/g00802/laws.FnExactTermsCols", spec := "fnExactTermsCols", apart := false }
def FnExactTermsColsSaid : Prop := fnExactTermsColsRow.holds Try.pinned (OpenSpec.ofChange fnExactTermsColsSpec)

/-- ITS FALSE NEIGHBOUR: 'it returns false'. Refute it at one input. -/
def fnExactTermsColsWrong : ChangeSpec := { name := "fnExactTermsCols", fn := fun _ => fun
  | [d] => { results := [.lit (.bool false)], args := [d] }
  | _ => none }
def FnExactTermsColsWrongFalsely : Prop := fnExactTermsColsRow.holds Try.pinned (OpenSpec.ofChange fnExactTermsColsWrong)

/-- 'laws.FnExactTermsEqual': WHATEVER THE INPUT: true; the input reads as it did. -/
def fnExactTermsEqualSpec : ChangeSpec := { name := "fnExactTermsEqual", fn := fun _ => fun
  | [d1, d2] => { results := [.lit (.bool true)], args := [d1, d2] }
  | _ => none }
def fnExactTermsEqualRow : OpenClaim := { program := "ytnkcihcmkojdmaa", sum := "22b7b2544e3ec08a34d20e9aac13e462657b16a3c0315c74edba4e80a8bc2889", func := "loop.example/g00802/laws.FnExactTermsEqual", spec := "fnExactTermsEqual", unfollowed := true, recurses := true, apart := false }
def FnExactTermsEqualSaid : Prop := fnExactTermsEqualRow.holds Try.pinned (OpenSpec.ofChange fnExactTermsEqualSpec)

/-- ITS FALSE NEIGHBOUR: 'it returns false'. Refute it at one input. -/
def fnExactTermsEqualWrong : ChangeSpec := { name := "fnExactTermsEqual", fn := fun _ => fun
  | [d1, d2] => { results := [.lit (.bool false)], args := [d1, d2] }
  | _ => none }
def FnExactTermsEqualWrongFalsely : Prop := fnExactTermsEqualRow.holds Try.pinned (OpenSpec.ofChange fnExactTermsEqualWrong)

/- THE SECOND FORM. 'bulk': how many values and letters a reading holds, each counted each time it is reached (what is shared counts as often as it is met; a slice's spare places count too). A statement '..UptoSaid' is the law's where the arguments, and the package variables that the reading takes, are together of bulk at most 1048576: NARROWER than '..Said'. Prove '..Said' where nothing that the law and all that it calls make is longer than what came in: it says more and counts as full. Else prove '..UptoSaid'. A law counts once. -/
mutual
def uptoBulk {H : Type} : DataW H → Nat
  | .lit (.string bytes) => bytes.length + 1
  | .lit _ => 1
  | .nil => 1
  | .ptr d => uptoBulk d + 1
  | .slice elems spare => uptoBulkAll elems + uptoBulkAll spare + 1
  | .agg parts => uptoBulkAll parts + 1
  | .iface _ d => uptoBulk d + 1
  | .map entries => uptoBulkEntries entries + 1
  | .held _ => 1
def uptoBulkAll {H : Type} : List (DataW H) → Nat
  | [] => 0
  | d :: r => uptoBulk d + uptoBulkAll r
def uptoBulkEntries {H : Type} : List (Lit × DataW H) → Nat
  | [] => 0
  | x :: r => uptoBulkEntry x + uptoBulkEntries r
def uptoBulkEntry {H : Type} : Lit × DataW H → Nat
  | (.string bytes, d) => bytes.length + uptoBulk d + 1
  | (_, d) => uptoBulk d + 1
 end
def uptoSmall : (H : Type) → List (DataW H) → Bool := fun _ ds => decide (uptoBulkAll ds ≤ 1048576)
def OpenSpec.upto (s : _root_.Go.ChangeSpec) : _root_.Go.OpenSpec := { _root_.Go.OpenSpec.ofChange s with cond := some uptoSmall }

/-- 'laws.FnExactTermsOk', WHERE WHAT IT READS IS OF BULK AT MOST 1048576: true; the input reads as it did. -/
def fnExactTermsOkUptoRow : OpenClaim := { program := "ytnkcihcmkojdmaa", sum := "22b7b2544e3ec08a34d20e9aac13e462657b16a3c0315c74edba4e80a8bc2889", func := "loop.example/g00802/laws.FnExactTermsOk", spec := "fnExactTermsOk", inPlace := ["math/bits.Add64"], named := ["math/bits.divideError", "math/bits.overflowError"], apart := false, narrowed := true }
def FnExactTermsOkUptoSaid : Prop := fnExactTermsOkUptoRow.holds Try.pinned (OpenSpec.upto fnExactTermsOkSpec)

/-- 'laws.FnExactTermsFromVec', WHERE WHAT IT READS IS OF BULK AT MOST 1048576: true; the input reads as it did. -/
def fnExactTermsFromVecUptoRow : OpenClaim := { program := "ytnkcihcmkojdmaa", sum := "22b7b2544e3ec08a34d20e9aac13e462657b16a3c0315c74edba4e80a8bc2889", func := "loop.example/g00802/laws.FnExactTermsFromVec", spec := "fnExactTermsFromVec", inPlace := ["math/bits.Add64"], recurses := true, named := ["math/bits.divideError", "math/bits.overflowError"], apart := false, narrowed := true }
def FnExactTermsFromVecUptoSaid : Prop := fnExactTermsFromVecUptoRow.holds Try.pinned (OpenSpec.upto fnExactTermsFromVecSpec)

/-- 'laws.FnExactTermsToVec', WHERE WHAT IT READS IS OF BULK AT MOST 1048576: true; the input reads as it did. -/
def fnExactTermsToVecUptoRow : OpenClaim := { program := "ytnkcihcmkojdmaa", sum := "22b7b2544e3ec08a34d20e9aac13e462657b16a3c0315c74edba4e80a8bc2889", func := "loop.example/g00802/laws.FnExactTermsToVec", spec := "fnExactTermsToVec", inPlace := ["math/bits.Add64"], named := ["math/bits.divideError", "math/bits.overflowError"], apart := false, narrowed := true }
def FnExactTermsToVecUptoSaid : Prop := fnExactTermsToVecUptoRow.holds Try.pinned (OpenSpec.upto fnExactTermsToVecSpec)

/-- 'laws.FnExactTermsCoef', WHERE WHAT IT READS IS OF BULK AT MOST 1048576: true; the input reads as it did. -/
def fnExactTermsCoefUptoRow : OpenClaim := { program := "ytnkcihcmkojdmaa", sum := "22b7b2544e3ec08a34d20e9aac13e462657b16a3c0315c74edba4e80a8bc2889", func := "loop.example/g00802/laws.FnExactTermsCoef", spec := "fnExactTermsCoef", apart := false, narrowed := true }
def FnExactTermsCoefUptoSaid : Prop := fnExactTermsCoefUptoRow.holds Try.pinned (OpenSpec.upto fnExactTermsCoefSpec)

/-- 'laws.FnExactTermsCols', WHERE WHAT IT READS IS OF BULK AT MOST 1048576: true; the input reads as it did. -/
def fnExactTermsColsUptoRow : OpenClaim := { program := "ytnkcihcmkojdmaa", sum := "22b7b2544e3ec08a34d20e9aac13e462657b16a3c0315c74edba4e80a8bc2889", func := "loop.example/g00802/laws.FnExactTermsCols", spec := "fnExactTermsCols", apart := false, narrowed := true }
def FnExactTermsColsUptoSaid : Prop := fnExactTermsColsUptoRow.holds Try.pinned (OpenSpec.upto fnExactTermsColsSpec)

/-- 'laws.FnExactTermsEqual', WHERE WHAT IT READS IS OF BULK AT MOST 1048576: true; the input reads as it did. -/
def fnExactTermsEqualUptoRow : OpenClaim := { program := "ytnkcihcmkojdmaa", sum := "22b7b2544e3ec08a34d20e9aac13e462657b16a3c0315c74edba4e80a8bc2889", func := "loop.example/g00802/laws.FnExactTermsEqual", spec := "fnExactTermsEqual", unfollowed := true, recurses := true, apart := false, narrowed := true }
def FnExactTermsEqualUptoSaid : Prop := fnExactTermsEqualUptoRow.holds Try.pinned (OpenSpec.upto fnExactTermsEqualSpec)

end Rows
end Go.Proofs.Ytnkcihcmkojdmaa
