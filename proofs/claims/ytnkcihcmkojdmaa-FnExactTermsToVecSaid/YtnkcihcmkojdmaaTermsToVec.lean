/- For every slice of structs of an int and a struct of a struct of a bool and a slice of ints and a slice of ints and every int the law FnExactTermsToVec returns true: the program's TermsToVec answers as the reference's does, writes into no argument, and its answer owns its memory; no condition. -/
import Derived.Test.YtnkcihcmkojdmaaRows
import Derived.Test.YtnkcihcmkojdmaaPff
import Derived.Test.YtnkcihcmkojdmaaTlc
import Derived.Test.YtnkcihcmkojdmaaOpt
import Derived.WalkKit
import Derived.ProofKit
import Derived.OpenShut
import Derived.ShutString
import Derived.ChangeOld
import Derived.Below
import Derived.Lib.SmallJoins
namespace Go.Proofs.Ytnkcihcmkojdmaa.fnExactTermsToVec
open Go.ChangeShapes Go.WideShapes Go.ChangeAt Go.RowKit
open Go.ChangeMaps (open_string shut_string)
open Go.Joins (open_agg2)
set_option linter.unusedVariables false

theorem own : ownKnob Try.prog.godebug = none := by kernel_rfl
theorem laidOut : laidOutB Try.prog = true := by kernel_rfl

/-- A slice of integers that came in. -/
def IsRow (k : IntKind) (w : World) (a : Option Addr) (len cap : Nat) (zs : List Int) : Prop :=
  (a = none ∧ len = 0 ∧ cap = 0 ∧ zs = []) ∨
  ∃ x, a = some x ∧ len ≤ cap ∧ cap ≤ maxLen ∧ zs.length = cap ∧ (∀ i, i < zs.length → w.cell? (x.add i) = some (.int k (zs.getD i 0))) ∧ ∀ n ∈ zs, (Lit.int k n).wf = true

theorem walk (a0 : Option Addr) (len0 cap0 : Nat) (K0 : List Tq) (m0 : len0 ≤ maxLen) (s0 : ∀ f ∈ K0, f.A.length ≤ maxLen ∧ f.D.length ≤ maxLen) (a1 : Int) (w : World) (w0 : TCame w w.heap.size a0 len0 K0) (w1 : (Lit.int .i64 a1).wf = true) :
    Calls Try.prog 5 #[.slice a0 len0 cap0, .int .i64 a1] w fun e w' => e = .returned (.bool true) ∧ Below w.heap.size w w' := by
  exact law_TermsToVec a0 len0 cap0 K0 m0 s0 a1 (by have h := w1; simp only [Lit.wf, Bool.and_eq_true, decide_eq_true_eq] at h; exact h.1) (by have h := w1; simp only [Lit.wf, Bool.and_eq_true, decide_eq_true_eq] at h; exact h.2) w w0

set_option maxRecDepth 100000 in
theorem lifted (os : Os) (started : os.Started) (H : Type) (enc : TypeId × Value → H) :
    ReturnsInHanded {} Try.checked os 5 .any (Rows.fnExactTermsToVecSpec.pre6 enc Try.prog Try.f5 Rows.fnExactTermsToVecRow.domain false) (Rows.fnExactTermsToVecSpec.post enc Try.prog Try.f5 false true false false) := by
  refine returnsInHanded_of_change (C := Try.checked) own started (by kernel_rfl) Try.func5
    (ChangeSpec.witness6 (enc := enc) (C := Try.checked) false ⟨#[], #[.slice none 0 0, .int .i64 0], []⟩ 8 (by kernel_rfl) (by kernel_rfl) (by kernel_rfl) (by kernel_rfl)) ?_
  intro W base args ds gs before hval0 hW hcnd _
  have hval : ∀ (j : Nat) t v, Try.f5.params[j]? = some t → args[j]? = some v → Value.okWide Try.prog W .any base t v := hval0
  have hW' := hW
  obtain ⟨p, q, hA0, hV, rfl, hfz, hnd⟩ := hW
  have hA : DataW.TrodAll enc Try.prog W 0 (fun _ => true) true Try.f5.params.toList args.toList ds p := hA0
  rw [Try.params5] at hA hval
  obtain ⟨v0, vs0, d0, ds0, p0, q0, hargs, rfl, rfl, h0, r0⟩ := trodAll_cons hA
  obtain ⟨v1, vs1, d1, ds1, p1, q1, rfl, rfl, rfl, h1, r1⟩ := trodAll_cons r0
  obtain ⟨rfl, rfl, rfl⟩ := trodAll_nil r1
  obtain rfl : args = #[v0, v1] := by cases args; simp_all
  obtain ⟨rfl, rfl⟩ := trodVars_none hV
  have k0 := h0
  have lt0 : ∀ x ∈ p0, x.block < W.heap.size := by obtain ⟨m, hm⟩ := k0; exact DataW.trod_lt m _ _ _ hm
  obtain ⟨a0, len0, cap0, rfl⟩ := okWide_slice Try.underlying22 (hval 0 22 v0 rfl rfl)
  obtain ⟨m0, K0, w0, s0⟩ := open_terms h0
  obtain ⟨a1, rfl, rfl, rfl, w1⟩ := open_int Try.underlying3 (hval 1 3 v1 rfl rfl) h1
  clear hA0 hval0
  simp only [List.append_nil] at hW'
  refine (walk a0 len0 cap0 K0 m0 s0 a1 W w0 w1).mono fun e W' ⟨he, bel⟩ => ?_
  subst he
  exact ⟨_, rfl, _, _, _, [], _, [], hW', trodAll_mk1 (shut_bool Try.underlying4 _), (trodAll_cons_mk (Below.trod laidOut (by kernel_rfl) (of_decide_eq_true (by kernel_rfl)) k0 bel lt0) (trodAll_cons_mk (shut_int Try.underlying3 w1) trodAll_mk0)), rfl, bel.frame _, fun h => by cases h⟩

theorem k0 : (Rows.fnExactTermsToVecRow.wf (OpenSpec.ofChange Rows.fnExactTermsToVecSpec)) = true := by kernel_rfl
theorem k3 : (Try.f5.params.all (Try.pinned.checked.prog.readableRec ·)) = true := by kernel_rfl
theorem k4 : (namedTie Try.pinned.checked.prog Rows.fnExactTermsToVecRow.named Rows.fnExactTermsToVecSpec.vars) = true := by kernel_rfl
theorem k5 : (Rows.fnExactTermsToVecRow.stops == []) = true := by kernel_rfl
theorem k7 : (Rows.fnExactTermsToVecRow.knobs == []) = true := by kernel_rfl
theorem k9 : (Rows.fnExactTermsToVecRow.inPlace == Try.pinned.checked.prog.inPlace 5) = true := by kernel_rfl
theorem k10 : (Rows.fnExactTermsToVecRow.unfollowed == Try.pinned.checked.prog.unfollowed 5) = true := by kernel_rfl
theorem k11 : (Rows.fnExactTermsToVecRow.recurses == Try.pinned.checked.prog.recurses 5) = true := by kernel_rfl
theorem k12 : (Rows.fnExactTermsToVecRow.named == Try.pinned.checked.prog.varsNamed 5) = true := by kernel_rfl
theorem k13 : (Rows.fnExactTermsToVecRow.maps == (Try.f5.params.toList ++ Rows.fnExactTermsToVecSpec.plain.varTypes Try.pinned.checked.prog).any (Try.pinned.checked.prog.mapsRec ·)) = true := by kernel_rfl
theorem k14 : (Rows.fnExactTermsToVecRow.ifaces == (Try.f5.params.toList ++ Rows.fnExactTermsToVecSpec.plain.varTypes Try.pinned.checked.prog).any (Try.pinned.checked.prog.ifacesRec ·)) = true := by kernel_rfl
theorem k15 : (Rows.fnExactTermsToVecRow.mapsOut == Try.pinned.checked.prog.mapsAmong Try.f5.resultTypes.toList) = true := by kernel_rfl
theorem k16 : (Rows.fnExactTermsToVecRow.loops == (Try.f5.params.toList ++ Rows.fnExactTermsToVecSpec.plain.varTypes Try.pinned.checked.prog).any (Try.pinned.checked.prog.loopsFrom ·)) = true := by kernel_rfl
theorem k17 : (Rows.fnExactTermsToVecRow.wideKeys == (Try.f5.params.toList ++ Rows.fnExactTermsToVecSpec.plain.varTypes Try.pinned.checked.prog ++ Try.f5.resultTypes.toList).any (Try.pinned.checked.prog.wideKeysFrom ·)) = true := by kernel_rfl
theorem k18 : (Rows.fnExactTermsToVecSpec.vars.all (Try.pinned.checked.prog.varReadable ·)) = true := by kernel_rfl
theorem k19 : (Try.f5.resultTypes.all (fun t => Try.pinned.checked.prog.readableRec t && decide (t < Try.pinned.checked.prog.types.size))) = true := by kernel_rfl
theorem k20 : (Rows.fnExactTermsToVecRow.ifacesOut == Try.f5.resultTypes.toList.any (Try.pinned.checked.prog.ifacesRec ·)) = true := by kernel_rfl
theorem k21 : (Rows.fnExactTermsToVecRow.loopsOut == Try.f5.resultTypes.toList.any (Try.pinned.checked.prog.loopsFrom ·)) = true := by kernel_rfl
theorem k22 : (Rows.fnExactTermsToVecRow.plainKeys == Try.pinned.checked.prog.plainKeys) = true := by rw [p_keys]; rfl
theorem k23 : (Rows.fnExactTermsToVecRow.shortTexts.isNone) = true := by kernel_rfl
theorem k26 : (Rows.fnExactTermsToVecRow.lifted == Try.pinned.checked.prog.liftsFinal) = true := by rw [p_lift]; rfl
theorem k27 : (Try.pinned.checked.prog.make == some Rows.fnExactTermsToVecRow.make) = true := by rw [p_make]; rfl
theorem k28 : (Rows.fnExactTermsToVecRow.kinds == kindsOf Try.pinned.checked.prog Try.f5 Rows.fnExactTermsToVecRow) = true := by kernel_rfl
theorem k29 : (Rows.fnExactTermsToVecRow.pinned == Rows.fnExactTermsToVecRow.pinnedBy) = true := by kernel_rfl
theorem k30 : (Rows.fnExactTermsToVecRow.veiled == (Try.f5.params.toList ++ Rows.fnExactTermsToVecSpec.plain.varTypes Try.pinned.checked.prog ++ Try.f5.resultTypes.toList).any (Try.pinned.checked.prog.veiledRec ·)) = true := by kernel_rfl
theorem k31 : (Rows.fnExactTermsToVecRow.veiledFits Try.pinned.checked.prog Try.f5.params.toList (Try.f5.params.toList ++ Rows.fnExactTermsToVecSpec.plain.varTypes Try.pinned.checked.prog ++ Try.f5.resultTypes.toList)) = true := by kernel_rfl
theorem closed : joinedFacts Try.pinned.checked.prog 5 Try.f5 Rows.fnExactTermsToVecSpec Rows.fnExactTermsToVecRow = true :=
  joined_by k0 p_laid p_maps k3 k4 k5 p_stops k7 p_knobs k9 k10 k11 k12 k13 k14 k15 k16 k17 k18 k19 k20 k21 k22 k23 p_heard p_enter k26 k27 k28 k29 k30 k31
theorem func_of : Try.pinned.checked.prog.funcNamed Rows.fnExactTermsToVecRow.func = some 5 := by kernel_rfl
theorem inst : Try.f5.isInstance Try.pinned.checked.prog Rows.fnExactTermsToVecRow.origin Rows.fnExactTermsToVecRow.targs := of_decide_eq_true (by kernel_rfl)
theorem wrap : Try.f5.isWrapper Try.pinned.checked.prog Rows.fnExactTermsToVecRow.wrapper Rows.fnExactTermsToVecRow.mainSum := by
  unfold Func.isWrapper
  first | (rw [if_pos (by decide +kernel)]; kernel_rfl) | (rw [if_neg (by decide +kernel)]; exact ⟨rfl, rfl⟩)
theorem over : Rows.fnExactTermsToVecRow.holds Try.pinned (OpenSpec.ofChange Rows.fnExactTermsToVecSpec) :=
  OpenClaim.holds_of_wide 5 Try.f5 rfl rfl rfl rfl rfl rfl rfl ⟨rfl, rfl, rfl, rfl, rfl⟩ rfl rfl rfl rfl rfl func_of Try.func5 closed inst wrap
    (fun os started H enc _ => lifted os started H enc)

theorem proved : Rows.FnExactTermsToVecSaid := over
#print axioms proved
end Go.Proofs.Ytnkcihcmkojdmaa.fnExactTermsToVec
