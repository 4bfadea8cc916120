/-
  No cell of these rows narrows 'for every input' (looked for: loops, veiled, ifaces, maps, wideKeys, modest, calm, conditions, laid).
  DERIVED. THE GIVEN ROWS OF THIS SEAT. 10 by the template 'for every input the law returns true; each argument reads behind the call as it read before'; 0 by the template 'total and deterministic' (their statements: YteanocjkdehhgaaGreatTotals.lean).
  GIVEN WITH THE SEED: the statements are not yours to turn. If you find one false, say at which input.
  Laid BY PROGRAM, IN A SANDBOX (cutbox-rows.mjs): the forced cells as the released guide's own fill.sh prints them over the translation 91de434c46d6bba5… (all of the seat's roots in one cut). By AI agents, Wed Nov 11 2026. No macro, syntax, notation, axiom, sorry.
-/
import Derived.Test.YteanocjkdehhgaaGreatChecked
import GoSem.Claim
import GoSem.ClaimJoined
import GoSem.ClaimMapViews
import Derived.JoinedTies
import Derived.KernelRfl
namespace Go.Proofs.YteanocjkdehhgaaGreat
/- THE CELL 'sum', in the pinned program and in every row, IS THE sha256 OF THE DUMP (.gsa) THAT YteanocjkdehhgaaGreatProg.lean LOADS. Nothing in Lean hashes anything: it is a label: what it is worth is what the hold of that sum in a sandbox is worth. -/
noncomputable def Tryz.pinned : Pinned := { name := "yteanocjkdehhgaagreat", sum := "91de434c46d6bba595d663567ed2bc002414aa473548996d7b2ac01390cabdeb", checked := Tryz.checked }
namespace Rows
def none {H : Type} : Left H := { results := [], args := [] }

/-- 'laws.FnExactModelOk': WHATEVER THE INPUT: true; the input reads as it did. -/
def fnExactModelOkSpec : ChangeSpec := { name := "fnExactModelOk", fn := fun _ => fun
  | [d] => { results := [.lit (.bool true)], args := [d] }
  | _ => none }
def fnExactModelOkRow : OpenClaim := { program := "yteanocjkdehhgaagreat", sum := "91de434c46d6bba595d663567ed2bc002414aa473548996d7b2ac01390cabdeb", func := "loop.example/g00802/laws.FnExactModelOk", spec := "fnExactModelOk", inPlace := ["math/bits.Add64"], unfollowed := true, recurses := true, named := ["math/bits.divideError", "math/bits.overflowError"], apart := false }
def FnExactModelOkSaid : Prop := fnExactModelOkRow.holds Tryz.pinned (OpenSpec.ofChange fnExactModelOkSpec)

/-- ITS FALSE NEIGHBOUR: 'it returns false'. Refute it at one input. -/
def fnExactModelOkWrong : ChangeSpec := { name := "fnExactModelOk", fn := fun _ => fun
  | [d] => { results := [.lit (.bool false)], args := [d] }
  | _ => none }
def FnExactModelOkWrongFalsely : Prop := fnExactModelOkRow.holds Tryz.pinned (OpenSpec.ofChange fnExactModelOkWrong)

/-- 'laws.FnExactViolatedRows': WHATEVER THE INPUT: true; the input reads as it did. -/
def fnExactViolatedRowsSpec : ChangeSpec := { name := "fnExactViolatedRows", fn := fun _ => fun
  | [d1, d2] => { results := [.lit (.bool true)], args := [d1, d2] }
  | _ => none }
def fnExactViolatedRowsRow : OpenClaim := { program := "yteanocjkdehhgaagreat", sum := "91de434c46d6bba595d663567ed2bc002414aa473548996d7b2ac01390cabdeb", func := "loop.example/g00802/laws.FnExactViolatedRows", spec := "fnExactViolatedRows", inPlace := ["math/bits.Add64"], unfollowed := true, recurses := true, named := ["math/bits.divideError", "math/bits.overflowError"], apart := false }
def FnExactViolatedRowsSaid : Prop := fnExactViolatedRowsRow.holds Tryz.pinned (OpenSpec.ofChange fnExactViolatedRowsSpec)

/-- ITS FALSE NEIGHBOUR: 'it returns false'. Refute it at one input. -/
def fnExactViolatedRowsWrong : ChangeSpec := { name := "fnExactViolatedRows", fn := fun _ => fun
  | [d1, d2] => { results := [.lit (.bool false)], args := [d1, d2] }
  | _ => none }
def FnExactViolatedRowsWrongFalsely : Prop := fnExactViolatedRowsRow.holds Tryz.pinned (OpenSpec.ofChange fnExactViolatedRowsWrong)

/-- 'laws.FnExactFeasible': WHATEVER THE INPUT: true; the input reads as it did. -/
def fnExactFeasibleSpec : ChangeSpec := { name := "fnExactFeasible", fn := fun _ => fun
  | [d1, d2] => { results := [.lit (.bool true)], args := [d1, d2] }
  | _ => none }
def fnExactFeasibleRow : OpenClaim := { program := "yteanocjkdehhgaagreat", sum := "91de434c46d6bba595d663567ed2bc002414aa473548996d7b2ac01390cabdeb", func := "loop.example/g00802/laws.FnExactFeasible", spec := "fnExactFeasible", inPlace := ["math/bits.Add64"], unfollowed := true, recurses := true, named := ["math/bits.divideError", "math/bits.overflowError"], apart := false }
def FnExactFeasibleSaid : Prop := fnExactFeasibleRow.holds Tryz.pinned (OpenSpec.ofChange fnExactFeasibleSpec)

/-- ITS FALSE NEIGHBOUR: 'it returns false'. Refute it at one input. -/
def fnExactFeasibleWrong : ChangeSpec := { name := "fnExactFeasible", fn := fun _ => fun
  | [d1, d2] => { results := [.lit (.bool false)], args := [d1, d2] }
  | _ => none }
def FnExactFeasibleWrongFalsely : Prop := fnExactFeasibleRow.holds Tryz.pinned (OpenSpec.ofChange fnExactFeasibleWrong)

/-- 'laws.FnExactIntFeasible': WHATEVER THE INPUT: true; the input reads as it did. -/
def fnExactIntFeasibleSpec : ChangeSpec := { name := "fnExactIntFeasible", fn := fun _ => fun
  | [d1, d2] => { results := [.lit (.bool true)], args := [d1, d2] }
  | _ => none }
def fnExactIntFeasibleRow : OpenClaim := { program := "yteanocjkdehhgaagreat", sum := "91de434c46d6bba595d663567ed2bc002414aa473548996d7b2ac01390cabdeb", func := "loop.example/g00802/laws.FnExactIntFeasible", spec := "fnExactIntFeasible", inPlace := ["math/bits.Add64"], unfollowed := true, recurses := true, named := ["math/bits.divideError", "math/bits.overflowError"], apart := false }
def FnExactIntFeasibleSaid : Prop := fnExactIntFeasibleRow.holds Tryz.pinned (OpenSpec.ofChange fnExactIntFeasibleSpec)

/-- ITS FALSE NEIGHBOUR: 'it returns false'. Refute it at one input. -/
def fnExactIntFeasibleWrong : ChangeSpec := { name := "fnExactIntFeasible", fn := fun _ => fun
  | [d1, d2] => { results := [.lit (.bool false)], args := [d1, d2] }
  | _ => none }
def FnExactIntFeasibleWrongFalsely : Prop := fnExactIntFeasibleRow.holds Tryz.pinned (OpenSpec.ofChange fnExactIntFeasibleWrong)

/-- 'laws.FnExactObjValue': WHATEVER THE INPUT: true; the input reads as it did. -/
def fnExactObjValueSpec : ChangeSpec := { name := "fnExactObjValue", fn := fun _ => fun
  | [d1, d2] => { results := [.lit (.bool true)], args := [d1, d2] }
  | _ => none }
def fnExactObjValueRow : OpenClaim := { program := "yteanocjkdehhgaagreat", sum := "91de434c46d6bba595d663567ed2bc002414aa473548996d7b2ac01390cabdeb", func := "loop.example/g00802/laws.FnExactObjValue", spec := "fnExactObjValue", inPlace := ["math/bits.Add64"], unfollowed := true, recurses := true, named := ["math/bits.divideError", "math/bits.overflowError"], apart := false }
def FnExactObjValueSaid : Prop := fnExactObjValueRow.holds Tryz.pinned (OpenSpec.ofChange fnExactObjValueSpec)

/-- ITS FALSE NEIGHBOUR: 'it returns false'. Refute it at one input. -/
def fnExactObjValueWrong : ChangeSpec := { name := "fnExactObjValue", fn := fun _ => fun
  | [d1, d2] => { results := [.lit (.bool false)], args := [d1, d2] }
  | _ => none }
def FnExactObjValueWrongFalsely : Prop := fnExactObjValueRow.holds Tryz.pinned (OpenSpec.ofChange fnExactObjValueWrong)

/-- 'laws.FnExactWithBound': WHATEVER THE INPUT: true; the input reads as it did. -/
def fnExactWithBoundSpec : ChangeSpec := { name := "fnExactWithBound", fn := fun _ => fun
  | [d1, d2, d3, d4] => { results := [.lit (.bool true)], args := [d1, d2, d3, d4] }
  | _ => none }
def fnExactWithBoundRow : OpenClaim := { program := "yteanocjkdehhgaagreat", sum := "91de434c46d6bba595d663567ed2bc002414aa473548996d7b2ac01390cabdeb", func := "loop.example/g00802/laws.FnExactWithBound", spec := "fnExactWithBound", inPlace := ["math/bits.Add64"], unfollowed := true, recurses := true, named := ["math/bits.divideError", "math/bits.overflowError"], apart := false }
def FnExactWithBoundSaid : Prop := fnExactWithBoundRow.holds Tryz.pinned (OpenSpec.ofChange fnExactWithBoundSpec)

/-- ITS FALSE NEIGHBOUR: 'it returns false'. Refute it at one input. -/
def fnExactWithBoundWrong : ChangeSpec := { name := "fnExactWithBound", fn := fun _ => fun
  | [d1, d2, d3, d4] => { results := [.lit (.bool false)], args := [d1, d2, d3, d4] }
  | _ => none }
def FnExactWithBoundWrongFalsely : Prop := fnExactWithBoundRow.holds Tryz.pinned (OpenSpec.ofChange fnExactWithBoundWrong)

/-- 'laws.FnExactWithRows': WHATEVER THE INPUT: true; the input reads as it did. -/
def fnExactWithRowsSpec : ChangeSpec := { name := "fnExactWithRows", fn := fun _ => fun
  | [d1, d2] => { results := [.lit (.bool true)], args := [d1, d2] }
  | _ => none }
def fnExactWithRowsRow : OpenClaim := { program := "yteanocjkdehhgaagreat", sum := "91de434c46d6bba595d663567ed2bc002414aa473548996d7b2ac01390cabdeb", func := "loop.example/g00802/laws.FnExactWithRows", spec := "fnExactWithRows", inPlace := ["math/bits.Add64"], unfollowed := true, recurses := true, named := ["math/bits.divideError", "math/bits.overflowError"], apart := false }
def FnExactWithRowsSaid : Prop := fnExactWithRowsRow.holds Tryz.pinned (OpenSpec.ofChange fnExactWithRowsSpec)

/-- ITS FALSE NEIGHBOUR: 'it returns false'. Refute it at one input. -/
def fnExactWithRowsWrong : ChangeSpec := { name := "fnExactWithRows", fn := fun _ => fun
  | [d1, d2] => { results := [.lit (.bool false)], args := [d1, d2] }
  | _ => none }
def FnExactWithRowsWrongFalsely : Prop := fnExactWithRowsRow.holds Tryz.pinned (OpenSpec.ofChange fnExactWithRowsWrong)

/-- 'laws.FnFits': WHATEVER THE INPUT: true; the input reads as it did. -/
def fnFitsSpec : ChangeSpec := { name := "fnFits", fn := fun _ => fun
  | [d] => { results := [.lit (.bool true)], args := [d] }
  | _ => none }
def fnFitsRow : OpenClaim := { program := "yteanocjkdehhgaagreat", sum := "91de434c46d6bba595d663567ed2bc002414aa473548996d7b2ac01390cabdeb", func := "loop.example/g00802/laws.FnFits", spec := "fnFits", inPlace := ["math/bits.Add64"], unfollowed := true, recurses := true, named := ["math/bits.divideError", "math/bits.overflowError"], apart := false }
def FnFitsSaid : Prop := fnFitsRow.holds Tryz.pinned (OpenSpec.ofChange fnFitsSpec)

/-- ITS FALSE NEIGHBOUR: 'it returns false'. Refute it at one input. -/
def fnFitsWrong : ChangeSpec := { name := "fnFits", fn := fun _ => fun
  | [d] => { results := [.lit (.bool false)], args := [d] }
  | _ => none }
def FnFitsWrongFalsely : Prop := fnFitsRow.holds Tryz.pinned (OpenSpec.ofChange fnFitsWrong)

/-- 'laws.FnRow': WHATEVER THE INPUT: true; the input reads as it did. -/
def fnRowSpec : ChangeSpec := { name := "fnRow", fn := fun _ => fun
  | [d] => { results := [.lit (.bool true)], args := [d] }
  | _ => none }
def fnRowRow : OpenClaim := { program := "yteanocjkdehhgaagreat", sum := "91de434c46d6bba595d663567ed2bc002414aa473548996d7b2ac01390cabdeb", func := "loop.example/g00802/laws.FnRow", spec := "fnRow", inPlace := ["math/bits.Add64"], unfollowed := true, recurses := true, named := ["math/bits.divideError", "math/bits.overflowError"], apart := false }
def FnRowSaid : Prop := fnRowRow.holds Tryz.pinned (OpenSpec.ofChange fnRowSpec)

/-- ITS FALSE NEIGHBOUR: 'it returns false'. Refute it at one input. -/
def fnRowWrong : ChangeSpec := { name := "fnRow", fn := fun _ => fun
  | [d] => { results := [.lit (.bool false)], args := [d] }
  | _ => none }
def FnRowWrongFalsely : Prop := fnRowRow.holds Tryz.pinned (OpenSpec.ofChange fnRowWrong)

/-- 'laws.FnImplies': WHATEVER THE INPUT: true; the input reads as it did. -/
def fnImpliesSpec : ChangeSpec := { name := "fnImplies", fn := fun _ => fun
  | [d] => { results := [.lit (.bool true)], args := [d] }
  | _ => none }
def fnImpliesRow : OpenClaim := { program := "yteanocjkdehhgaagreat", sum := "91de434c46d6bba595d663567ed2bc002414aa473548996d7b2ac01390cabdeb", func := "loop.example/g00802/laws.FnImplies", spec := "fnImplies", inPlace := ["math/bits.Add64"], unfollowed := true, recurses := true, named := ["math/bits.divideError", "math/bits.overflowError"], apart := false }
def FnImpliesSaid : Prop := fnImpliesRow.holds Tryz.pinned (OpenSpec.ofChange fnImpliesSpec)

/-- ITS FALSE NEIGHBOUR: 'it returns false'. Refute it at one input. -/
def fnImpliesWrong : ChangeSpec := { name := "fnImplies", fn := fun _ => fun
  | [d] => { results := [.lit (.bool false)], args := [d] }
  | _ => none }
def FnImpliesWrongFalsely : Prop := fnImpliesRow.holds Tryz.pinned (OpenSpec.ofChange fnImpliesWrong)

/- THE SECOND FORM. 'bulk': how many values and letters a reading holds, each counted each time it is reached (what is shared counts as often as it is met; a slice's spare places count too). A statement '..UptoSaid' is the law's where the arguments, and the package variables that the reading takes, are together of bulk at most 1048576: NARROWER than '..Said'. Prove '..Said' where nothing that the law and all that it calls make is longer than what came in: it says more and counts as full. Else prove '..UptoSaid'. A law counts once. -/
mutual
def uptoBulk {H : Type} : DataW H → Nat
  | .lit (.string bytes) => bytes.length + 1
  | .lit _ => 1
  | .nil => 1
  | .ptr d => uptoBulk d + 1
  | .slice elems spare => uptoBulkAll elems + uptoBulkAll spare + 1
  | .agg parts => uptoBulkAll parts + 1
  | .iface _ d => uptoBulk d + 1
  | .map entries => uptoBulkEntries entries + 1
  | .held _ => 1
def uptoBulkAll {H : Type} : List (DataW H) → Nat
  | [] => 0
  | d :: r => uptoBulk d + uptoBulkAll r
def uptoBulkEntries {H : Type} : List (Lit × DataW H) → Nat
  | [] => 0
  | x :: r => uptoBulkEntry x + uptoBulkEntries r
def uptoBulkEntry {H : Type} : Lit × DataW H → Nat
  | (.string bytes, d) => bytes.length + uptoBulk d + 1
  | (_, d) => uptoBulk d + 1
 end
def uptoSmall : (H : Type) → List (DataW H) → Bool := fun _ ds => decide (uptoBulkAll ds ≤ 1048576)
def OpenSpec.upto (s : _root_.Go.ChangeSpec) : _root_.Go.OpenSpec := { _root_.Go.OpenSpec.ofChange s with cond := some uptoSmall }

/-- 'laws.FnExactModelOk', WHERE WHAT IT READS IS OF BULK AT MOST 1048576: true; the input reads as it did. -/
def fnExactModelOkUptoRow : OpenClaim := { program := "yteanocjkdehhgaagreat", sum := "91de434c46d6bba595d663567ed2bc002414aa473548996d7b2ac01390cabdeb", func := "loop.example/g00802/laws.FnExactModelOk", spec := "fnExactModelOk", inPlace := ["math/bits.Add64"], unfollowed := true, recurses := true, named := ["math/bits.divideError", "math/bits.overflowError"], apart := false, narrowed := true }
def FnExactModelOkUptoSaid : Prop := fnExactModelOkUptoRow.holds Tryz.pinned (OpenSpec.upto fnExactModelOkSpec)

/-- 'laws.FnExactViolatedRows', WHERE WHAT IT READS IS OF BULK AT MOST 1048576: true; the input reads as it did. -/
def fnExactViolatedRowsUptoRow : OpenClaim := { program := "yteanocjkdehhgaagreat", sum := "91de434c46d6bba595d663567ed2bc002414aa473548996d7b2ac01390cabdeb", func := "loop.example/g00802/laws.FnExactViolatedRows", spec := "fnExactViolatedRows", inPlace := ["math/bits.Add64"], unfollowed := true, recurses := true, named := ["math/bits.divideError", "math/bits.overflowError"], apart := false, narrowed := true }
def FnExactViolatedRowsUptoSaid : Prop := fnExactViolatedRowsUptoRow.holds Tryz.pinned (OpenSpec.upto fnExactViolatedRowsSpec)

/-- 'laws.FnExactFeasible', WHERE WHAT IT READS IS OF BULK AT MOST 1048576: true; the input reads as it did. -/
def fnExactFeasibleUptoRow : OpenClaim := { program := "yteanocjkdehhgaagreat", sum := "91de434c46d6bba595d663567ed2bc002414aa473548996d7b2ac01390cabdeb", func := "loop.example/g00802/laws.FnExactFeasible", spec := "fnExactFeasible", inPlace := ["math/bits.Add64"], unfollowed := true, recurses := true, named := ["math/bits.divideError", "math/bits.overflowError"], apart := false, narrowed := true }
def FnExactFeasibleUptoSaid : Prop := fnExactFeasibleUptoRow.holds Tryz.pinned (OpenSpec.upto fnExactFeasibleSpec)

/-- 'laws.FnExactIntFeasible', WHERE WHAT IT READS IS OF BULK AT MOST 1048576: true; the input reads as it did. -/
def fnExactIntFeasibleUptoRow : OpenClaim := { program := "yteanocjkdehhgaagreat", sum := "91de434c46d6bba595d663567ed2bc002414aa473548996d7b2ac01390cabdeb", func := "loop.example/g00802/laws.FnExactIntFeasible", spec := "fnExactIntFeasible", inPlace := ["math/bits.Add64"], unfollowed := true, recurses := true, named := ["math/bits.divideError", "math/bits.overflowError"], apart := false, narrowed := true }
def FnExactIntFeasibleUptoSaid : Prop := fnExactIntFeasibleUptoRow.holds Tryz.pinned (OpenSpec.upto fnExactIntFeasibleSpec)

/-- 'laws.FnExactObjValue', WHERE WHAT IT READS IS OF BULK AT MOST 1048576: true; the input reads as it did. -/
def fnExactObjValueUptoRow : OpenClaim := { program := "yteanocjkdehhgaagreat", sum := "91de434c46d6bba595d663567ed2bc002414aa473548996d7b2ac01390cabdeb", func := "loop.example/g00802/laws.FnExactObjValue", spec := "fnExactObjValue", inPlace := ["math/bits.Add64"], unfollowed := true, recurses := true, named := ["math/bits.divideError", "math/bits.overflowError"], apart := false, narrowed := true }
def FnExactObjValueUptoSaid : Prop := fnExactObjValueUptoRow.holds Tryz.pinned (OpenSpec.upto fnExactObjValueSpec)

/-- 'laws.FnExactWithBound', WHERE WHAT IT READS IS OF BULK AT MOST 1048576: true; the input reads as it did. -/
def fnExactWithBoundUptoRow : OpenClaim := { program := "yteanocjkdehhgaagreat", sum := "91de434c46d6bba595d663567ed2bc002414aa473548996d7b2ac01390cabdeb", func := "loop.example/g00802/laws.FnExactWithBound", spec := "fnExactWithBound", inPlace := ["math/bits.Add64"], unfollowed := true, recurses := true, named := ["math/bits.divideError", "math/bits.overflowError"], apart := false, narrowed := true }
def FnExactWithBoundUptoSaid : Prop := fnExactWithBoundUptoRow.holds Tryz.pinned (OpenSpec.upto fnExactWithBoundSpec)

/-- 'laws.FnExactWithRows', WHERE WHAT IT READS IS OF BULK AT MOST 1048576: true; the input reads as it did. -/
def fnExactWithRowsUptoRow : OpenClaim := { program := "yteanocjkdehhgaagreat", sum := "91de434c46d6bba595d663567ed2bc002414aa473548996d7b2ac01390cabdeb", func := "loop.example/g00802/laws.FnExactWithRows", spec := "fnExactWithRows", inPlace := ["math/bits.Add64"], unfollowed := true, recurses := true, named := ["math/bits.divideError", "math/bits.overflowError"], apart := false, narrowed := true }
def FnExactWithRowsUptoSaid : Prop := fnExactWithRowsUptoRow.holds Tryz.pinned (OpenSpec.upto fnExactWithRowsSpec)

/-- 'laws.FnFits', WHERE WHAT IT READS IS OF BULK AT MOST 1048576: true; the input reads as it did. -/
def fnFitsUptoRow : OpenClaim := { program := "yteanocjkdehhgaagreat", sum := "91de434c46d6bba595d663567ed2bc002414aa473548996d7b2ac01390cabdeb", func := "loop.example/g00802/laws.FnFits", spec := "fnFits", inPlace := ["math/bits.Add64"], unfollowed := true, recurses := true, named := ["math/bits.divideError", "math/bits.overflowError"], apart := false, narrowed := true }
def FnFitsUptoSaid : Prop := fnFitsUptoRow.holds Tryz.pinned (OpenSpec.upto fnFitsSpec)

/-- 'laws.FnRow', WHERE WHAT IT READS IS OF BULK AT MOST 1048576: true; the input reads as it did. -/
def fnRowUptoRow : OpenClaim := { program := "yteanocjkdehhgaagreat", sum := "91de434c46d6bba595d663567ed2bc002414aa473548996d7b2ac01390cabdeb", func := "loop.example/g00802/laws.FnRow", spec := "fnRow", inPlace := ["math/bits.Add64"], unfollowed := true, recurses := true, named := ["math/bits.divideError", "math/bits.overflowError"], apart := false, narrowed := true }
def FnRowUptoSaid : Prop := fnRowUptoRow.holds Tryz.pinned (OpenSpec.upto fnRowSpec)

/-- 'laws.FnImplies', WHERE WHAT IT READS IS OF BULK AT MOST 1048576: true; the input reads as it did. -/
def fnImpliesUptoRow : OpenClaim := { program := "yteanocjkdehhgaagreat", sum := "91de434c46d6bba595d663567ed2bc002414aa473548996d7b2ac01390cabdeb", func := "loop.example/g00802/laws.FnImplies", spec := "fnImplies", inPlace := ["math/bits.Add64"], unfollowed := true, recurses := true, named := ["math/bits.divideError", "math/bits.overflowError"], apart := false, narrowed := true }
def FnImpliesUptoSaid : Prop := fnImpliesUptoRow.holds Tryz.pinned (OpenSpec.upto fnImpliesSpec)

end Rows
end Go.Proofs.YteanocjkdehhgaaGreat
