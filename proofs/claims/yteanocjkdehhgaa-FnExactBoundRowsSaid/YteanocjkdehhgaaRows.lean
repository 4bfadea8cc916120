/-
  No cell of these rows narrows 'for every input' (looked for: loops, veiled, ifaces, maps, wideKeys, modest, calm, conditions, laid).
  DERIVED. THE GIVEN ROWS OF THIS SEAT. 7 by the template 'for every input the law returns true; each argument reads behind the call as it read before'; 0 by the template 'total and deterministic' (their statements: YteanocjkdehhgaaTotals.lean).
  GIVEN WITH THE SEED: the statements are not yours to turn. If you find one false, say at which input.
  Laid BY PROGRAM, IN A SANDBOX (cutbox-rows.mjs): the forced cells as the released guide's own fill.sh prints them over the translation 946589b44ba33092… (all of the seat's roots in one cut). By AI agents, Wed Nov 11 2026. No macro, syntax, notation, axiom, sorry.
-/
import Derived.Test.YteanocjkdehhgaaChecked
import GoSem.Claim
import GoSem.ClaimJoined
import GoSem.ClaimMapViews
import Derived.JoinedTies
import Derived.KernelRfl
namespace Go.Proofs.Yteanocjkdehhgaa
/- THE CELL 'sum', in the pinned program and in every row, IS THE sha256 OF THE DUMP (.gsa) THAT YteanocjkdehhgaaProg.lean LOADS. Nothing in Lean hashes anything: it is a label: what it is worth is what the hold of that sum in a sandbox is worth. -/
noncomputable def Try.pinned : Pinned := { name := "yteanocjkdehhgaa", sum := "946589b44ba3309209a9e95e920d6b57c3b5ef0ae2711e2253156b8327f952cc", checked := Try.checked }
namespace Rows
def none {H : Type} : Left H := { results := [], args := [] }

/-- 'laws.FnExactHasUpper': WHATEVER THE INPUT: true; the input reads as it did. -/
def fnExactHasUpperSpec : ChangeSpec := { name := "fnExactHasUpper", fn := fun _ => fun
  | [d] => { results := [.lit (.bool true)], args := [d] }
  | _ => none }
def fnExactHasUpperRow : OpenClaim := { program := "yteanocjkdehhgaa", sum := "946589b44ba3309209a9e95e920d6b57c3b5ef0ae2711e2253156b8327f952cc", func := "loop.example/g00802/laws.FnExactHasUpper", spec := "fnExactHasUpper", apart := false }
def FnExactHasUpperSaid : Prop := fnExactHasUpperRow.holds Try.pinned (OpenSpec.ofChange fnExactHasUpperSpec)

/-- ITS FALSE NEIGHBOUR: 'it returns false'. Refute it at one input. -/
def fnExactHasUpperWrong : ChangeSpec := { name := "fnExactHasUpper", fn := fun _ => fun
  | [d] => { results := [.lit (.bool false)], args := [d] }
  | _ => none }
def FnExactHasUpperWrongFalsely : Prop := fnExactHasUpperRow.holds Try.pinned (OpenSpec.ofChange fnExactHasUpperWrong)

/-- 'laws.FnExactColNames': WHATEVER THE INPUT: true; the input reads as it did. -/
def fnExactColNamesSpec : ChangeSpec := { name := "fnExactColNames", fn := fun _ => fun
  | [d] => { results := [.lit (.bool true)], args := [d] }
  | _ => none }
def fnExactColNamesRow : OpenClaim := { program := "yteanocjkdehhgaa", sum := "946589b44ba3309209a9e95e920d6b57c3b5ef0ae2711e2253156b8327f952cc", func := "loop.example/g00802/laws.FnExactColNames", spec := "fnExactColNames", apart := false }
def FnExactColNamesSaid : Prop := fnExactColNamesRow.holds Try.pinned (OpenSpec.ofChange fnExactColNamesSpec)

/-- ITS FALSE NEIGHBOUR: 'it returns false'. Refute it at one input. -/
def fnExactColNamesWrong : ChangeSpec := { name := "fnExactColNames", fn := fun _ => fun
  | [d] => { results := [.lit (.bool false)], args := [d] }
  | _ => none }
def FnExactColNamesWrongFalsely : Prop := fnExactColNamesRow.holds Try.pinned (OpenSpec.ofChange fnExactColNamesWrong)

/-- 'laws.FnExactBoundRows': WHATEVER THE INPUT: true; the input reads as it did. -/
def fnExactBoundRowsSpec : ChangeSpec := { name := "fnExactBoundRows", fn := fun _ => fun
  | [d] => { results := [.lit (.bool true)], args := [d] }
  | _ => none }
def fnExactBoundRowsRow : OpenClaim := { program := "yteanocjkdehhgaa", sum := "946589b44ba3309209a9e95e920d6b57c3b5ef0ae2711e2253156b8327f952cc", func := "loop.example/g00802/laws.FnExactBoundRows", spec := "fnExactBoundRows", unfollowed := true, recurses := true, apart := false }
def FnExactBoundRowsSaid : Prop := fnExactBoundRowsRow.holds Try.pinned (OpenSpec.ofChange fnExactBoundRowsSpec)

/-- ITS FALSE NEIGHBOUR: 'it returns false'. Refute it at one input. -/
def fnExactBoundRowsWrong : ChangeSpec := { name := "fnExactBoundRows", fn := fun _ => fun
  | [d] => { results := [.lit (.bool false)], args := [d] }
  | _ => none }
def FnExactBoundRowsWrongFalsely : Prop := fnExactBoundRowsRow.holds Try.pinned (OpenSpec.ofChange fnExactBoundRowsWrong)

/-- 'laws.FnExactAllRows': WHATEVER THE INPUT: true; the input reads as it did. -/
def fnExactAllRowsSpec : ChangeSpec := { name := "fnExactAllRows", fn := fun _ => fun
  | [d] => { results := [.lit (.bool true)], args := [d] }
  | _ => none }
def fnExactAllRowsRow : OpenClaim := { program := "yteanocjkdehhgaa", sum := "946589b44ba3309209a9e95e920d6b57c3b5ef0ae2711e2253156b8327f952cc", func := "loop.example/g00802/laws.FnExactAllRows", spec := "fnExactAllRows", unfollowed := true, recurses := true, apart := false }
def FnExactAllRowsSaid : Prop := fnExactAllRowsRow.holds Try.pinned (OpenSpec.ofChange fnExactAllRowsSpec)

/-- ITS FALSE NEIGHBOUR: 'it returns false'. Refute it at one input. -/
def fnExactAllRowsWrong : ChangeSpec := { name := "fnExactAllRows", fn := fun _ => fun
  | [d] => { results := [.lit (.bool false)], args := [d] }
  | _ => none }
def FnExactAllRowsWrongFalsely : Prop := fnExactAllRowsRow.holds Try.pinned (OpenSpec.ofChange fnExactAllRowsWrong)

/-- 'laws.FnExactModelEqual': WHATEVER THE INPUT: true; the input reads as it did. -/
def fnExactModelEqualSpec : ChangeSpec := { name := "fnExactModelEqual", fn := fun _ => fun
  | [d1, d2] => { results := [.lit (.bool true)], args := [d1, d2] }
  | _ => none }
def fnExactModelEqualRow : OpenClaim := { program := "yteanocjkdehhgaa", sum := "946589b44ba3309209a9e95e920d6b57c3b5ef0ae2711e2253156b8327f952cc", func := "loop.example/g00802/laws.FnExactModelEqual", spec := "fnExactModelEqual", unfollowed := true, recurses := true, apart := false }
def FnExactModelEqualSaid : Prop := fnExactModelEqualRow.holds Try.pinned (OpenSpec.ofChange fnExactModelEqualSpec)

/-- ITS FALSE NEIGHBOUR: 'it returns false'. Refute it at one input. -/
def fnExactModelEqualWrong : ChangeSpec := { name := "fnExactModelEqual", fn := fun _ => fun
  | [d1, d2] => { results := [.lit (.bool false)], args := [d1, d2] }
  | _ => none }
def FnExactModelEqualWrongFalsely : Prop := fnExactModelEqualRow.holds Try.pinned (OpenSpec.ofChange fnExactModelEqualWrong)

/-- 'laws.FnExactFactorOk': WHATEVER THE INPUT: true; the input reads as it did. -/
def fnExactFactorOkSpec : ChangeSpec := { name := "fnExactFactorOk", fn := fun _ => fun
  | [d] => { results := [.lit (.bool true)], args := [d] }
  | _ => none }
def fnExactFactorOkRow : OpenClaim := { program := "yteanocjkdehhgaa", sum := "946589b44ba3309209a9e95e920d6b57c3b5ef0ae2711e2253156b8327f952cc", func := "loop.example/g00802/laws.FnExactFactorOk", spec := "fnExactFactorOk", inPlace := ["math/bits.Add64"], named := ["math/bits.divideError", "math/bits.overflowError"], apart := false }
def FnExactFactorOkSaid : Prop := fnExactFactorOkRow.holds Try.pinned (OpenSpec.ofChange fnExactFactorOkSpec)

/-- ITS FALSE NEIGHBOUR: 'it returns false'. Refute it at one input. -/
def fnExactFactorOkWrong : ChangeSpec := { name := "fnExactFactorOk", fn := fun _ => fun
  | [d] => { results := [.lit (.bool false)], args := [d] }
  | _ => none }
def FnExactFactorOkWrongFalsely : Prop := fnExactFactorOkRow.holds Try.pinned (OpenSpec.ofChange fnExactFactorOkWrong)

/-- 'laws.FnExactFactorEqual': WHATEVER THE INPUT: true; the input reads as it did. -/
def fnExactFactorEqualSpec : ChangeSpec := { name := "fnExactFactorEqual", fn := fun _ => fun
  | [d1, d2] => { results := [.lit (.bool true)], args := [d1, d2] }
  | _ => none }
def fnExactFactorEqualRow : OpenClaim := { program := "yteanocjkdehhgaa", sum := "946589b44ba3309209a9e95e920d6b57c3b5ef0ae2711e2253156b8327f952cc", func := "loop.example/g00802/laws.FnExactFactorEqual", spec := "fnExactFactorEqual", unfollowed := true, recurses := true, apart := false }
def FnExactFactorEqualSaid : Prop := fnExactFactorEqualRow.holds Try.pinned (OpenSpec.ofChange fnExactFactorEqualSpec)

/-- ITS FALSE NEIGHBOUR: 'it returns false'. Refute it at one input. -/
def fnExactFactorEqualWrong : ChangeSpec := { name := "fnExactFactorEqual", fn := fun _ => fun
  | [d1, d2] => { results := [.lit (.bool false)], args := [d1, d2] }
  | _ => none }
def FnExactFactorEqualWrongFalsely : Prop := fnExactFactorEqualRow.holds Try.pinned (OpenSpec.ofChange fnExactFactorEqualWrong)

/- THE SECOND FORM. 'bulk': how many values and letters a reading holds, each counted each time it is reached (what is shared counts as often as it is met; a slice's spare places count too). A statement '..UptoSaid' is the law's where the arguments, and the package variables that the reading takes, are together of bulk at most 1048576: NARROWER than '..Said'. Prove '..Said' where nothing that the law and all that it calls make is longer than what came in: it says more and counts as full. Else prove '..UptoSaid'. A law counts once. -/
mutual
def uptoBulk {H : Type} : DataW H → Nat
  | .lit (.string bytes) => bytes.length + 1
  | .lit _ => 1
  | .nil => 1
  | .ptr d => uptoBulk d + 1
  | .slice elems spare => uptoBulkAll elems + uptoBulkAll spare + 1
  | .agg parts => uptoBulkAll parts + 1
  | .iface _ d => uptoBulk d + 1
  | .map entries => uptoBulkEntries entries + 1
  | .held _ => 1
def uptoBulkAll {H : Type} : List (DataW H) → Nat
  | [] => 0
  | d :: r => uptoBulk d + uptoBulkAll r
def uptoBulkEntries {H : Type} : List (Lit × DataW H) → Nat
  | [] => 0
  | x :: r => uptoBulkEntry x + uptoBulkEntries r
def uptoBulkEntry {H : Type} : Lit × DataW H → Nat
  | (.string bytes, d) => bytes.length + uptoBulk d + 1
  | (_, d) => uptoBulk d + 1
 end
def uptoSmall : (H : Type) → List (DataW H) → Bool := fun _ ds => decide (uptoBulkAll ds ≤ 1048576)
def OpenSpec.upto (s : _root_.Go.ChangeSpec) : _root_.Go.OpenSpec := { _root_.Go.OpenSpec.ofChange s with cond := some uptoSmall }

/-- 'laws.FnExactHasUpper', WHERE WHAT IT READS IS OF BULK AT MOST 1048576: true; the input reads as it did. -/
def fnExactHasUpperUptoRow : OpenClaim := { program := "yteanocjkdehhgaa", sum := "946589b44ba3309209a9e95e920d6b57c3b5ef0ae2711e2253156b8327f952cc", func := "loop.example/g00802/laws.FnExactHasUpper", spec := "fnExactHasUpper", apart := false, narrowed := true }
def FnExactHasUpperUptoSaid : Prop := fnExactHasUpperUptoRow.holds Try.pinned (OpenSpec.upto fnExactHasUpperSpec)

/-- 'laws.FnExactColNames', WHERE WHAT IT READS IS OF BULK AT MOST 1048576: true; the input reads as it did. -/
def fnExactColNamesUptoRow : OpenClaim := { program := "yteanocjkdehhgaa", sum := "946589b44ba3309209a9e95e920d6b57c3b5ef0ae2711e2253156b8327f952cc", func := "loop.example/g00802/laws.FnExactColNames", spec := "fnExactColNames", apart := false, narrowed := true }
def FnExactColNamesUptoSaid : Prop := fnExactColNamesUptoRow.holds Try.pinned (OpenSpec.upto fnExactColNamesSpec)

/-- 'laws.FnExactBoundRows', WHERE WHAT IT READS IS OF BULK AT MOST 1048576: true; the input reads as it did. -/
def fnExactBoundRowsUptoRow : OpenClaim := { program := "yteanocjkdehhgaa", sum := "946589b44ba3309209a9e95e920d6b57c3b5ef0ae2711e2253156b8327f952cc", func := "loop.example/g00802/laws.FnExactBoundRows", spec := "fnExactBoundRows", unfollowed := true, recurses := true, apart := false, narrowed := true }
def FnExactBoundRowsUptoSaid : Prop := fnExactBoundRowsUptoRow.holds Try.pinned (OpenSpec.upto fnExactBoundRowsSpec)

/-- 'laws.FnExactAllRows', WHERE WHAT IT READS IS OF BULK AT MOST 1048576: true; the input reads as it did. -/
def fnExactAllRowsUptoRow : OpenClaim := { program := "yteanocjkdehhgaa", sum := "946589b44ba3309209a9e95e920d6b57c3b5ef0ae2711e2253156b8327f952cc", func := "loop.example/g00802/laws.FnExactAllRows", spec := "fnExactAllRows", unfollowed := true, recurses := true, apart := false, narrowed := true }
def FnExactAllRowsUptoSaid : Prop := fnExactAllRowsUptoRow.holds Try.pinned (OpenSpec.upto fnExactAllRowsSpec)

/-- 'laws.FnExactModelEqual', WHERE WHAT IT READS IS OF BULK AT MOST 1048576: true; the input reads as it did. -/
def fnExactModelEqualUptoRow : OpenClaim := { program := "yteanocjkdehhgaa", sum := "946589b44ba3309209a9e95e920d6b57c3b5ef0ae2711e2253156b8327f952cc", func := "loop.example/g00802/laws.FnExactModelEqual", spec := "fnExactModelEqual", unfollowed := true, recurses := true, apart := false, narrowed := true }
def FnExactModelEqualUptoSaid : Prop := fnExactModelEqualUptoRow.holds Try.pinned (OpenSpec.upto fnExactModelEqualSpec)

/-- 'laws.FnExactFactorOk', WHERE WHAT IT READS IS OF BULK AT MOST 1048576: true; the input reads as it did. -/
def fnExactFactorOkUptoRow : OpenClaim := { program := "yteanocjkdehhgaa", sum := "946589b44ba3309209a9e95e920d6b57c3b5ef0ae2711e2253156b8327f952cc", func := "loop.example/g00802/laws.FnExactFactorOk", spec := "fnExactFactorOk", inPlace := ["math/bits.Add64"], named := ["math/bits.divideError", "math/bits.overflowError"], apart := false, narrowed := true }
def FnExactFactorOkUptoSaid : Prop := fnExactFactorOkUptoRow.holds Try.pinned (OpenSpec.upto fnExactFactorOkSpec)

/-- 'laws.FnExactFactorEqual', WHERE WHAT IT READS IS OF BULK AT MOST 1048576: true; the input reads as it did. -/
def fnExactFactorEqualUptoRow : OpenClaim := { program := "yteanocjkdehhgaa", sum := "946589b44ba3309209a9e95e920d6b57c3b5ef0ae2711e2253156b8327f952cc", func := "loop.example/g00802/laws.FnExactFactorEqual", spec := "fnExactFactorEqual", unfollowed := true, recurses := true, apart := false, narrowed := true }
def FnExactFactorEqualUptoSaid : Prop := fnExactFactorEqualUptoRow.holds Try.pinned (OpenSpec.upto fnExactFactorEqualSpec)

end Rows
end Go.Proofs.Yteanocjkdehhgaa
