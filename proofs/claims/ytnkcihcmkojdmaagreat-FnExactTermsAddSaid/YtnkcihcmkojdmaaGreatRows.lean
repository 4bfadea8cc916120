/-
  No cell of these rows narrows 'for every input' (looked for: loops, veiled, ifaces, maps, wideKeys, modest, calm, conditions, laid).
  DERIVED. THE GIVEN ROWS OF THIS SEAT. 4 by the template 'for every input the law returns true; each argument reads behind the call as it read before'; 0 by the template 'total and deterministic' (their statements: YtnkcihcmkojdmaaGreatTotals.lean).
  GIVEN WITH THE SEED: the statements are not yours to turn. If you find one false, say at which input.
  Laid BY PROGRAM, IN A SANDBOX (cutbox-rows.mjs): the forced cells as the released guide's own fill.sh prints them over the translation 427d1a3ea18f9c14… (all of the seat's roots in one cut). By AI agents, Wed Nov 11 2026. No macro, syntax, notation, axiom, sorry.
-/
import Derived.Test.YtnkcihcmkojdmaaGreatChecked
import GoSem.Claim
import GoSem.ClaimJoined
import GoSem.ClaimMapViews
import Derived.JoinedTies
import Derived.KernelRfl
namespace Go.Proofs.YtnkcihcmkojdmaaGreat
/- THE CELL 'sum', in the pinned program and in every row, IS THE sha256 OF THE DUMP (.gsa) THAT YtnkcihcmkojdmaaGreatProg.lean LOADS. Nothing in Lean hashes anything: it is a label: what it is worth is what the hold of that sum in a sandbox is worth. -/
noncomputable def Tryz.pinned : Pinned := { name := "ytnkcihcmkojdmaagreat", sum := "427d1a3ea18f9c14499fac97e5da53a0df3734ed959422476664756dfda827e5", checked := Tryz.checked }
namespace Rows
def none {H : Type} : Left H := { results := [], args := [] }

/-- 'laws.FnVec': WHATEVER THE INPUT: true; the input reads as it did. -/
def fnVecSpec : ChangeSpec := { name := "fnVec", fn := fun _ => fun
  | [d] => { results := [.lit (.bool true)], args := [d] }
  | _ => none }
def fnVecRow : OpenClaim := { program := "ytnkcihcmkojdmaagreat", sum := "427d1a3ea18f9c14499fac97e5da53a0df3734ed959422476664756dfda827e5", func := "loop.example/g00802/laws.FnVec", spec := "fnVec", inPlace := ["math/bits.Add64"], unfollowed := true, recurses := true, named := ["math/bits.divideError", "math/bits.overflowError"], apart := false }
def FnVecSaid : Prop := fnVecRow.holds Tryz.pinned (OpenSpec.ofChange fnVecSpec)

/-- ITS FALSE NEIGHBOUR: 'it returns false'. Refute it at one input. -/
def fnVecWrong : ChangeSpec := { name := "fnVec", fn := fun _ => fun
  | [d] => { results := [.lit (.bool false)], args := [d] }
  | _ => none }
def FnVecWrongFalsely : Prop := fnVecRow.holds Tryz.pinned (OpenSpec.ofChange fnVecWrong)

/-- 'laws.FnExactTermsAdd': WHATEVER THE INPUT: true; the input reads as it did. -/
def fnExactTermsAddSpec : ChangeSpec := { name := "fnExactTermsAdd", fn := fun _ => fun
  | [d1, d2] => { results := [.lit (.bool true)], args := [d1, d2] }
  | _ => none }
def fnExactTermsAddRow : OpenClaim := { program := "ytnkcihcmkojdmaagreat", sum := "427d1a3ea18f9c14499fac97e5da53a0df3734ed959422476664756dfda827e5", func := "loop.example/g00802/laws.FnExactTermsAdd", spec := "fnExactTermsAdd", inPlace := ["math/bits.Add64"], unfollowed := true, recurses := true, named := ["math/bits.divideError", "math/bits.overflowError"], apart := false }
def FnExactTermsAddSaid : Prop := fnExactTermsAddRow.holds Tryz.pinned (OpenSpec.ofChange fnExactTermsAddSpec)

/-- ITS FALSE NEIGHBOUR: 'it returns false'. Refute it at one input. -/
def fnExactTermsAddWrong : ChangeSpec := { name := "fnExactTermsAdd", fn := fun _ => fun
  | [d1, d2] => { results := [.lit (.bool false)], args := [d1, d2] }
  | _ => none }
def FnExactTermsAddWrongFalsely : Prop := fnExactTermsAddRow.holds Tryz.pinned (OpenSpec.ofChange fnExactTermsAddWrong)

/-- 'laws.FnExactTermsScale': WHATEVER THE INPUT: true; the input reads as it did. -/
def fnExactTermsScaleSpec : ChangeSpec := { name := "fnExactTermsScale", fn := fun _ => fun
  | [d1, d2] => { results := [.lit (.bool true)], args := [d1, d2] }
  | _ => none }
def fnExactTermsScaleRow : OpenClaim := { program := "ytnkcihcmkojdmaagreat", sum := "427d1a3ea18f9c14499fac97e5da53a0df3734ed959422476664756dfda827e5", func := "loop.example/g00802/laws.FnExactTermsScale", spec := "fnExactTermsScale", inPlace := ["math/bits.Add64"], unfollowed := true, recurses := true, named := ["math/bits.divideError", "math/bits.overflowError"], apart := false }
def FnExactTermsScaleSaid : Prop := fnExactTermsScaleRow.holds Tryz.pinned (OpenSpec.ofChange fnExactTermsScaleSpec)

/-- ITS FALSE NEIGHBOUR: 'it returns false'. Refute it at one input. -/
def fnExactTermsScaleWrong : ChangeSpec := { name := "fnExactTermsScale", fn := fun _ => fun
  | [d1, d2] => { results := [.lit (.bool false)], args := [d1, d2] }
  | _ => none }
def FnExactTermsScaleWrongFalsely : Prop := fnExactTermsScaleRow.holds Tryz.pinned (OpenSpec.ofChange fnExactTermsScaleWrong)

/-- 'laws.FnExactTermsValue': WHATEVER THE INPUT: true; the input reads as it did. -/
def fnExactTermsValueSpec : ChangeSpec := { name := "fnExactTermsValue", fn := fun _ => fun
  | [d1, d2] => { results := [.lit (.bool true)], args := [d1, d2] }
  | _ => none }
def fnExactTermsValueRow : OpenClaim := { program := "ytnkcihcmkojdmaagreat", sum := "427d1a3ea18f9c14499fac97e5da53a0df3734ed959422476664756dfda827e5", func := "loop.example/g00802/laws.FnExactTermsValue", spec := "fnExactTermsValue", inPlace := ["math/bits.Add64"], unfollowed := true, recurses := true, named := ["math/bits.divideError", "math/bits.overflowError"], apart := false }
def FnExactTermsValueSaid : Prop := fnExactTermsValueRow.holds Tryz.pinned (OpenSpec.ofChange fnExactTermsValueSpec)

/-- ITS FALSE NEIGHBOUR: 'it returns false'. Refute it at one input. -/
def fnExactTermsValueWrong : ChangeSpec := { name := "fnExactTermsValue", fn := fun _ => fun
  | [d1, d2] => { results := [.lit (.bool false)], args := [d1, d2] }
  | _ => none }
def FnExactTermsValueWrongFalsely : Prop := fnExactTermsValueRow.holds Tryz.pinned (OpenSpec.ofChange fnExactTermsValueWrong)

/- THE SECOND FORM. 'bulk': how many values and letters a reading holds, each counted each time it is reached (what is shared counts as often as it is met; a slice's spare places count too). A statement '..UptoSaid' is the law's where the arguments, and the package variables that the reading takes, are together of bulk at most 1048576: NARROWER than '..Said'. Prove '..Said' where nothing that the law and all that it calls make is longer than what came in: it says more and counts as full. Else prove '..UptoSaid'. A law counts once. -/
mutual
def uptoBulk {H : Type} : DataW H → Nat
  | .lit (.string bytes) => bytes.length + 1
  | .lit _ => 1
  | .nil => 1
  | .ptr d => uptoBulk d + 1
  | .slice elems spare => uptoBulkAll elems + uptoBulkAll spare + 1
  | .agg parts => uptoBulkAll parts + 1
  | .iface _ d => uptoBulk d + 1
  | .map entries => uptoBulkEntries entries + 1
  | .held _ => 1
def uptoBulkAll {H : Type} : List (DataW H) → Nat
  | [] => 0
  | d :: r => uptoBulk d + uptoBulkAll r
def uptoBulkEntries {H : Type} : List (Lit × DataW H) → Nat
  | [] => 0
  | x :: r => uptoBulkEntry x + uptoBulkEntries r
def uptoBulkEntry {H : Type} : Lit × DataW H → Nat
  | (.string bytes, d) => bytes.length + uptoBulk d + 1
  | (_, d) => uptoBulk d + 1
 end
def uptoSmall : (H : Type) → List (DataW H) → Bool := fun _ ds => decide (uptoBulkAll ds ≤ 1048576)
def OpenSpec.upto (s : _root_.Go.ChangeSpec) : _root_.Go.OpenSpec := { _root_.Go.OpenSpec.ofChange s with cond := some uptoSmall }

/-- 'laws.FnVec', WHERE WHAT IT READS IS OF BULK AT MOST 1048576: true; the input reads as it did. -/
def fnVecUptoRow : OpenClaim := { program := "ytnkcihcmkojdmaagreat", sum := "427d1a3ea18f9c14499fac97e5da53a0df3734ed959422476664756dfda827e5", func := "loop.example/g00802/laws.FnVec", spec := "fnVec", inPlace := ["math/bits.Add64"], unfollowed := true, recurses := true, named := ["math/bits.divideError", "math/bits.overflowError"], apart := false, narrowed := true }
def FnVecUptoSaid : Prop := fnVecUptoRow.holds Tryz.pinned (OpenSpec.upto fnVecSpec)

/-- 'laws.FnExactTermsAdd', WHERE WHAT IT READS IS OF BULK AT MOST 1048576: true; the input reads as it did. -/
def fnExactTermsAddUptoRow : OpenClaim := { program := "ytnkcihcmkojdmaagreat", sum := "427d1a3ea18f9c14499fac97e5da53a0df3734ed959422476664756dfda827e5", func := "loop.example/g00802/laws.FnExactTermsAdd", spec := "fnExactTermsAdd", inPlace := ["math/bits.Add64"], unfollowed := true, recurses := true, named := ["math/bits.divideError", "math/bits.overflowError"], apart := false, narrowed := true }
def FnExactTermsAddUptoSaid : Prop := fnExactTermsAddUptoRow.holds Tryz.pinned (OpenSpec.upto fnExactTermsAddSpec)

/-- 'laws.FnExactTermsScale', WHERE WHAT IT READS IS OF BULK AT MOST 1048576: true; the input reads as it did. -/
def fnExactTermsScaleUptoRow : OpenClaim := { program := "ytnkcihcmkojdmaagreat", sum := "427d1a3ea18f9c14499fac97e5da53a0df3734ed959422476664756dfda827e5", func := "loop.example/g00802/laws.FnExactTermsScale", spec := "fnExactTermsScale", inPlace := ["math/bits.Add64"], unfollowed := true, recurses := true, named := ["math/bits.divideError", "math/bits.overflowError"], apart := false, narrowed := true }
def FnExactTermsScaleUptoSaid : Prop := fnExactTermsScaleUptoRow.holds Tryz.pinned (OpenSpec.upto fnExactTermsScaleSpec)

/-- 'laws.FnExactTermsValue', WHERE WHAT IT READS IS OF BULK AT MOST 1048576: true; the input reads as it did. -/
def fnExactTermsValueUptoRow : OpenClaim := { program := "ytnkcihcmkojdmaagreat", sum := "427d1a3ea18f9c14499fac97e5da53a0df3734ed959422476664756dfda827e5", func := "loop.example/g00802/laws.FnExactTermsValue", spec := "fnExactTermsValue", inPlace := ["math/bits.Add64"], unfollowed := true, recurses := true, named := ["math/bits.divideError", "math/bits.overflowError"], apart := false, narrowed := true }
def FnExactTermsValueUptoSaid : Prop := fnExactTermsValueUptoRow.holds Tryz.pinned (OpenSpec.upto fnExactTermsValueSpec)

end Rows
end Go.Proofs.YtnkcihcmkojdmaaGreat
