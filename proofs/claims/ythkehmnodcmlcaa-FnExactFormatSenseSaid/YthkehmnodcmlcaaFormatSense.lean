/- For every int the law FnExactFormatSense returns true: the program's FormatSense answers as the reference's does; no condition. -/
import Derived.Test.YthkehmnodcmlcaaRows
import Derived.Test.YthkehmnodcmlcaaPff
import Derived.Test.YthkehmnodcmlcaaRfs
import Derived.WalkKit
import Derived.ProofKit
import Derived.OpenShut
import Derived.ShutString
import Derived.ChangeOld
import Derived.Below
import Derived.Lib.SmallJoins
namespace Go.Proofs.Ythkehmnodcmlcaa.fnExactFormatSense
open Go.ChangeShapes Go.WideShapes Go.ChangeAt Go.RowKit
open Go.ChangeMaps (open_string shut_string)
open Go.Joins (open_agg2)
set_option linter.unusedVariables false

theorem own : ownKnob Try.prog.godebug = none := by kernel_rfl
theorem laidOut : laidOutB Try.prog = true := by kernel_rfl

/-- A slice of integers that came in. -/
def IsRow (k : IntKind) (w : World) (a : Option Addr) (len cap : Nat) (zs : List Int) : Prop :=
  (a = none ∧ len = 0 ∧ cap = 0 ∧ zs = []) ∨
  ∃ x, a = some x ∧ len ≤ cap ∧ cap ≤ maxLen ∧ zs.length = cap ∧ (∀ i, i < zs.length → w.cell? (x.add i) = some (.int k (zs.getD i 0))) ∧ ∀ n ∈ zs, (Lit.int k n).wf = true

theorem walk (a0 : Int) (w0 : (Lit.int .i64 a0).wf = true) (w : World) :
    Calls Try.prog 5 #[.int .i64 a0] w fun e w' => e = .returned (.bool true) ∧ Below w.heap.size w w' := by
  exact law_FormatSense a0 w

set_option maxRecDepth 100000 in
theorem lifted (os : Os) (started : os.Started) (H : Type) (enc : TypeId × Value → H) :
    ReturnsInHanded {} Try.checked os 5 .any (Rows.fnExactFormatSenseSpec.pre6 enc Try.prog Try.f5 Rows.fnExactFormatSenseRow.domain false) (Rows.fnExactFormatSenseSpec.post enc Try.prog Try.f5 false true false false) := by
  refine returnsInHanded_of_change (C := Try.checked) own started (by kernel_rfl) Try.func5
    (ChangeSpec.witness6 (enc := enc) (C := Try.checked) false ⟨#[], #[.int .i64 0], []⟩ 8 (by kernel_rfl) (by kernel_rfl) (by kernel_rfl) (by kernel_rfl)) ?_
  intro W base args ds gs before hval0 hW hcnd _
  have hval : ∀ (j : Nat) t v, Try.f5.params[j]? = some t → args[j]? = some v → Value.okWide Try.prog W .any base t v := hval0
  have hW' := hW
  obtain ⟨p, q, hA0, hV, rfl, hfz, hnd⟩ := hW
  have hA : DataW.TrodAll enc Try.prog W 0 (fun _ => true) true Try.f5.params.toList args.toList ds p := hA0
  rw [Try.params5] at hA hval
  obtain ⟨v0, vs0, d0, ds0, p0, q0, hargs, rfl, rfl, h0, r0⟩ := trodAll_cons hA
  obtain ⟨rfl, rfl, rfl⟩ := trodAll_nil r0
  obtain rfl : args = #[v0] := by cases args; simp_all
  obtain ⟨rfl, rfl⟩ := trodVars_none hV
  obtain ⟨a0, rfl, rfl, rfl, w0⟩ := open_int Try.underlying3 (hval 0 3 v0 rfl rfl) h0
  clear hA0 hval0
  simp only [List.append_nil] at hW'
  refine (walk a0 w0 W).mono fun e W' ⟨he, bel⟩ => ?_
  subst he
  exact ⟨_, rfl, _, _, _, [], _, [], hW', trodAll_mk1 (shut_bool Try.underlying4 _), (trodAll_cons_mk (shut_int Try.underlying3 w0) trodAll_mk0), rfl, bel.frame _, fun h => by cases h⟩

theorem k0 : (Rows.fnExactFormatSenseRow.wf (OpenSpec.ofChange Rows.fnExactFormatSenseSpec)) = true := by kernel_rfl
theorem k3 : (Try.f5.params.all (Try.pinned.checked.prog.readableRec ·)) = true := by kernel_rfl
theorem k4 : (namedTie Try.pinned.checked.prog Rows.fnExactFormatSenseRow.named Rows.fnExactFormatSenseSpec.vars) = true := by kernel_rfl
theorem k5 : (Rows.fnExactFormatSenseRow.stops == []) = true := by kernel_rfl
theorem k7 : (Rows.fnExactFormatSenseRow.knobs == []) = true := by kernel_rfl
theorem k9 : (Rows.fnExactFormatSenseRow.inPlace == Try.pinned.checked.prog.inPlace 5) = true := by kernel_rfl
theorem k10 : (Rows.fnExactFormatSenseRow.unfollowed == Try.pinned.checked.prog.unfollowed 5) = true := by kernel_rfl
theorem k11 : (Rows.fnExactFormatSenseRow.recurses == Try.pinned.checked.prog.recurses 5) = true := by kernel_rfl
theorem k12 : (Rows.fnExactFormatSenseRow.named == Try.pinned.checked.prog.varsNamed 5) = true := by kernel_rfl
theorem k13 : (Rows.fnExactFormatSenseRow.maps == (Try.f5.params.toList ++ Rows.fnExactFormatSenseSpec.plain.varTypes Try.pinned.checked.prog).any (Try.pinned.checked.prog.mapsRec ·)) = true := by kernel_rfl
theorem k14 : (Rows.fnExactFormatSenseRow.ifaces == (Try.f5.params.toList ++ Rows.fnExactFormatSenseSpec.plain.varTypes Try.pinned.checked.prog).any (Try.pinned.checked.prog.ifacesRec ·)) = true := by kernel_rfl
theorem k15 : (Rows.fnExactFormatSenseRow.mapsOut == Try.pinned.checked.prog.mapsAmong Try.f5.resultTypes.toList) = true := by kernel_rfl
theorem k16 : (Rows.fnExactFormatSenseRow.loops == (Try.f5.params.toList ++ Rows.fnExactFormatSenseSpec.plain.varTypes Try.pinned.checked.prog).any (Try.pinned.checked.prog.loopsFrom ·)) = true := by kernel_rfl
theorem k17 : (Rows.fnExactFormatSenseRow.wideKeys == (Try.f5.params.toList ++ Rows.fnExactFormatSenseSpec.plain.varTypes Try.pinned.checked.prog ++ Try.f5.resultTypes.toList).any (Try.pinned.checked.prog.wideKeysFrom ·)) = true := by kernel_rfl
theorem k18 : (Rows.fnExactFormatSenseSpec.vars.all (Try.pinned.checked.prog.varReadable ·)) = true := by kernel_rfl
theorem k19 : (Try.f5.resultTypes.all (fun t => Try.pinned.checked.prog.readableRec t && decide (t < Try.pinned.checked.prog.types.size))) = true := by kernel_rfl
theorem k20 : (Rows.fnExactFormatSenseRow.ifacesOut == Try.f5.resultTypes.toList.any (Try.pinned.checked.prog.ifacesRec ·)) = true := by kernel_rfl
theorem k21 : (Rows.fnExactFormatSenseRow.loopsOut == Try.f5.resultTypes.toList.any (Try.pinned.checked.prog.loopsFrom ·)) = true := by kernel_rfl
theorem k22 : (Rows.fnExactFormatSenseRow.plainKeys == Try.pinned.checked.prog.plainKeys) = true := by rw [p_keys]; rfl
theorem k23 : (Rows.fnExactFormatSenseRow.shortTexts.isNone) = true := by kernel_rfl
theorem k26 : (Rows.fnExactFormatSenseRow.lifted == Try.pinned.checked.prog.liftsFinal) = true := by rw [p_lift]; rfl
theorem k27 : (Try.pinned.checked.prog.make == some Rows.fnExactFormatSenseRow.make) = true := by rw [p_make]; rfl
theorem k28 : (Rows.fnExactFormatSenseRow.kinds == kindsOf Try.pinned.checked.prog Try.f5 Rows.fnExactFormatSenseRow) = true := by kernel_rfl
theorem k29 : (Rows.fnExactFormatSenseRow.pinned == Rows.fnExactFormatSenseRow.pinnedBy) = true := by kernel_rfl
theorem k30 : (Rows.fnExactFormatSenseRow.veiled == (Try.f5.params.toList ++ Rows.fnExactFormatSenseSpec.plain.varTypes Try.pinned.checked.prog ++ Try.f5.resultTypes.toList).any (Try.pinned.checked.prog.veiledRec ·)) = true := by kernel_rfl
theorem k31 : (Rows.fnExactFormatSenseRow.veiledFits Try.pinned.checked.prog Try.f5.params.toList (Try.f5.params.toList ++ Rows.fnExactFormatSenseSpec.plain.varTypes Try.pinned.checked.prog ++ Try.f5.resultTypes.toList)) = true := by kernel_rfl
theorem closed : joinedFacts Try.pinned.checked.prog 5 Try.f5 Rows.fnExactFormatSenseSpec Rows.fnExactFormatSenseRow = true :=
  joined_by k0 p_laid p_maps k3 k4 k5 p_stops k7 p_knobs k9 k10 k11 k12 k13 k14 k15 k16 k17 k18 k19 k20 k21 k22 k23 p_heard p_enter k26 k27 k28 k29 k30 k31
theorem func_of : Try.pinned.checked.prog.funcNamed Rows.fnExactFormatSenseRow.func = some 5 := by kernel_rfl
theorem inst : Try.f5.isInstance Try.pinned.checked.prog Rows.fnExactFormatSenseRow.origin Rows.fnExactFormatSenseRow.targs := of_decide_eq_true (by kernel_rfl)
theorem wrap : Try.f5.isWrapper Try.pinned.checked.prog Rows.fnExactFormatSenseRow.wrapper Rows.fnExactFormatSenseRow.mainSum := by
  unfold Func.isWrapper
  first | (rw [if_pos (by decide +kernel)]; kernel_rfl) | (rw [if_neg (by decide +kernel)]; exact ⟨rfl, rfl⟩)
theorem over : Rows.fnExactFormatSenseRow.holds Try.pinned (OpenSpec.ofChange Rows.fnExactFormatSenseSpec) :=
  OpenClaim.holds_of_wide 5 Try.f5 rfl rfl rfl rfl rfl rfl rfl ⟨rfl, rfl, rfl, rfl, rfl⟩ rfl rfl rfl rfl rfl func_of Try.func5 closed inst wrap
    (fun os started H enc _ => lifted os started H enc)

theorem proved : Rows.FnExactFormatSenseSaid := over
#print axioms proved
end Go.Proofs.Ythkehmnodcmlcaa.fnExactFormatSense
