/- For every slice of structs of a struct of a bool and a slice of ints and a slice of ints the law FnExactVecArgMin returns true: the program's VecArgMin answers as the reference's does and writes into no argument; no condition. -/
import Derived.Test.YtmghoedjcokhpaaRows
import Derived.Test.YtmghoedjcokhpaaPff
import Derived.Test.YtmghoedjcokhpaaVld
import Derived.Test.YtmghoedjcokhpaaOpv
import Derived.WalkKit
import Derived.ProofKit
import Derived.OpenShut
import Derived.ShutString
import Derived.ChangeOld
import Derived.Below
import Derived.Lib.SmallJoins
namespace Go.Proofs.Ytmghoedjcokhpaa.fnExactVecArgMin
open Go.ChangeShapes Go.WideShapes Go.ChangeAt Go.RowKit
open Go.ChangeMaps (open_string shut_string)
open Go.Joins (open_agg2)
set_option linter.unusedVariables false

theorem own : ownKnob Try.prog.godebug = none := by kernel_rfl
theorem laidOut : laidOutB Try.prog = true := by kernel_rfl

/-- A slice of integers that came in. -/
def IsRow (k : IntKind) (w : World) (a : Option Addr) (len cap : Nat) (zs : List Int) : Prop :=
  (a = none ∧ len = 0 ∧ cap = 0 ∧ zs = []) ∨
  ∃ x, a = some x ∧ len ≤ cap ∧ cap ≤ maxLen ∧ zs.length = cap ∧ (∀ i, i < zs.length → w.cell? (x.add i) = some (.int k (zs.getD i 0))) ∧ ∀ n ∈ zs, (Lit.int k n).wf = true

theorem walk (a0 : Option Addr) (len0 cap0 : Nat) (K0 : List Fq) (m0 : len0 ≤ maxLen) (s0 : ∀ f ∈ K0, f.A.length ≤ maxLen ∧ f.D.length ≤ maxLen) (w : World) (w0 : VCame w w.heap.size a0 len0 K0) :
    Calls Try.prog 10 #[.slice a0 len0 cap0] w fun e w' => e = .returned (.bool true) ∧ Below w.heap.size w w' := by
  exact law_VecArgMin a0 len0 cap0 K0 m0 s0 w w0

set_option maxRecDepth 100000 in
theorem lifted (os : Os) (started : os.Started) (H : Type) (enc : TypeId × Value → H) :
    ReturnsInHanded {} Try.checked os 10 .any (Rows.fnExactVecArgMinSpec.pre6 enc Try.prog Try.f10 Rows.fnExactVecArgMinRow.domain false) (Rows.fnExactVecArgMinSpec.post enc Try.prog Try.f10 false true false false) := by
  refine returnsInHanded_of_change (C := Try.checked) own started (by kernel_rfl) Try.func10
    (ChangeSpec.witness6 (enc := enc) (C := Try.checked) false ⟨#[], #[.slice none 0 0], []⟩ 8 (by kernel_rfl) (by kernel_rfl) (by kernel_rfl) (by kernel_rfl)) ?_
  intro W base args ds gs before hval0 hW hcnd _
  have hval : ∀ (j : Nat) t v, Try.f10.params[j]? = some t → args[j]? = some v → Value.okWide Try.prog W .any base t v := hval0
  have hW' := hW
  obtain ⟨p, q, hA0, hV, rfl, hfz, hnd⟩ := hW
  have hA : DataW.TrodAll enc Try.prog W 0 (fun _ => true) true Try.f10.params.toList args.toList ds p := hA0
  rw [Try.params10] at hA hval
  obtain ⟨v0, vs0, d0, ds0, p0, q0, hargs, rfl, rfl, h0, r0⟩ := trodAll_cons hA
  obtain ⟨rfl, rfl, rfl⟩ := trodAll_nil r0
  obtain rfl : args = #[v0] := by cases args; simp_all
  obtain ⟨rfl, rfl⟩ := trodVars_none hV
  have k0 := h0
  have lt0 : ∀ x ∈ p0, x.block < W.heap.size := by obtain ⟨m, hm⟩ := k0; exact DataW.trod_lt m _ _ _ hm
  obtain ⟨a0, len0, cap0, rfl⟩ := okWide_slice Try.underlying22 (hval 0 22 v0 rfl rfl)
  obtain ⟨m0, K0, w0, s0⟩ := open_rats h0
  clear hA0 hval0
  refine (walk a0 len0 cap0 K0 m0 s0 W w0).mono fun e W' ⟨he, bel⟩ => ?_
  subst he
  exact ⟨_, rfl, _, _, _, [], _, [], hW', trodAll_mk1 (shut_bool Try.underlying4 _), (trodAll_cons_mk (Below.trod laidOut (by kernel_rfl) (of_decide_eq_true (by kernel_rfl)) k0 bel lt0) trodAll_mk0), rfl, bel.frame _, fun h => by cases h⟩

theorem k0 : (Rows.fnExactVecArgMinRow.wf (OpenSpec.ofChange Rows.fnExactVecArgMinSpec)) = true := by kernel_rfl
theorem k3 : (Try.f10.params.all (Try.pinned.checked.prog.readableRec ·)) = true := by kernel_rfl
theorem k4 : (namedTie Try.pinned.checked.prog Rows.fnExactVecArgMinRow.named Rows.fnExactVecArgMinSpec.vars) = true := by kernel_rfl
theorem k5 : (Rows.fnExactVecArgMinRow.stops == []) = true := by kernel_rfl
theorem k7 : (Rows.fnExactVecArgMinRow.knobs == []) = true := by kernel_rfl
theorem k9 : (Rows.fnExactVecArgMinRow.inPlace == Try.pinned.checked.prog.inPlace 10) = true := by kernel_rfl
theorem k10 : (Rows.fnExactVecArgMinRow.unfollowed == Try.pinned.checked.prog.unfollowed 10) = true := by kernel_rfl
theorem k11 : (Rows.fnExactVecArgMinRow.recurses == Try.pinned.checked.prog.recurses 10) = true := by kernel_rfl
theorem k12 : (Rows.fnExactVecArgMinRow.named == Try.pinned.checked.prog.varsNamed 10) = true := by kernel_rfl
theorem k13 : (Rows.fnExactVecArgMinRow.maps == (Try.f10.params.toList ++ Rows.fnExactVecArgMinSpec.plain.varTypes Try.pinned.checked.prog).any (Try.pinned.checked.prog.mapsRec ·)) = true := by kernel_rfl
theorem k14 : (Rows.fnExactVecArgMinRow.ifaces == (Try.f10.params.toList ++ Rows.fnExactVecArgMinSpec.plain.varTypes Try.pinned.checked.prog).any (Try.pinned.checked.prog.ifacesRec ·)) = true := by kernel_rfl
theorem k15 : (Rows.fnExactVecArgMinRow.mapsOut == Try.pinned.checked.prog.mapsAmong Try.f10.resultTypes.toList) = true := by kernel_rfl
theorem k16 : (Rows.fnExactVecArgMinRow.loops == (Try.f10.params.toList ++ Rows.fnExactVecArgMinSpec.plain.varTypes Try.pinned.checked.prog).any (Try.pinned.checked.prog.loopsFrom ·)) = true := by kernel_rfl
theorem k17 : (Rows.fnExactVecArgMinRow.wideKeys == (Try.f10.params.toList ++ Rows.fnExactVecArgMinSpec.plain.varTypes Try.pinned.checked.prog ++ Try.f10.resultTypes.toList).any (Try.pinned.checked.prog.wideKeysFrom ·)) = true := by kernel_rfl
theorem k18 : (Rows.fnExactVecArgMinSpec.vars.all (Try.pinned.checked.prog.varReadable ·)) = true := by kernel_rfl
theorem k19 : (Try.f10.resultTypes.all (fun t => Try.pinned.checked.prog.readableRec t && decide (t < Try.pinned.checked.prog.types.size))) = true := by kernel_rfl
theorem k20 : (Rows.fnExactVecArgMinRow.ifacesOut == Try.f10.resultTypes.toList.any (Try.pinned.checked.prog.ifacesRec ·)) = true := by kernel_rfl
theorem k21 : (Rows.fnExactVecArgMinRow.loopsOut == Try.f10.resultTypes.toList.any (Try.pinned.checked.prog.loopsFrom ·)) = true := by kernel_rfl
theorem k22 : (Rows.fnExactVecArgMinRow.plainKeys == Try.pinned.checked.prog.plainKeys) = true := by rw [p_keys]; rfl
theorem k23 : (Rows.fnExactVecArgMinRow.shortTexts.isNone) = true := by kernel_rfl
theorem k26 : (Rows.fnExactVecArgMinRow.lifted == Try.pinned.checked.prog.liftsFinal) = true := by rw [p_lift]; rfl
theorem k27 : (Try.pinned.checked.prog.make == some Rows.fnExactVecArgMinRow.make) = true := by rw [p_make]; rfl
theorem k28 : (Rows.fnExactVecArgMinRow.kinds == kindsOf Try.pinned.checked.prog Try.f10 Rows.fnExactVecArgMinRow) = true := by kernel_rfl
theorem k29 : (Rows.fnExactVecArgMinRow.pinned == Rows.fnExactVecArgMinRow.pinnedBy) = true := by kernel_rfl
theorem k30 : (Rows.fnExactVecArgMinRow.veiled == (Try.f10.params.toList ++ Rows.fnExactVecArgMinSpec.plain.varTypes Try.pinned.checked.prog ++ Try.f10.resultTypes.toList).any (Try.pinned.checked.prog.veiledRec ·)) = true := by kernel_rfl
theorem k31 : (Rows.fnExactVecArgMinRow.veiledFits Try.pinned.checked.prog Try.f10.params.toList (Try.f10.params.toList ++ Rows.fnExactVecArgMinSpec.plain.varTypes Try.pinned.checked.prog ++ Try.f10.resultTypes.toList)) = true := by kernel_rfl
theorem closed : joinedFacts Try.pinned.checked.prog 10 Try.f10 Rows.fnExactVecArgMinSpec Rows.fnExactVecArgMinRow = true :=
  joined_by k0 p_laid p_maps k3 k4 k5 p_stops k7 p_knobs k9 k10 k11 k12 k13 k14 k15 k16 k17 k18 k19 k20 k21 k22 k23 p_heard p_enter k26 k27 k28 k29 k30 k31
theorem func_of : Try.pinned.checked.prog.funcNamed Rows.fnExactVecArgMinRow.func = some 10 := by kernel_rfl
theorem inst : Try.f10.isInstance Try.pinned.checked.prog Rows.fnExactVecArgMinRow.origin Rows.fnExactVecArgMinRow.targs := of_decide_eq_true (by kernel_rfl)
theorem wrap : Try.f10.isWrapper Try.pinned.checked.prog Rows.fnExactVecArgMinRow.wrapper Rows.fnExactVecArgMinRow.mainSum := by
  unfold Func.isWrapper
  first | (rw [if_pos (by decide +kernel)]; kernel_rfl) | (rw [if_neg (by decide +kernel)]; exact ⟨rfl, rfl⟩)
theorem over : Rows.fnExactVecArgMinRow.holds Try.pinned (OpenSpec.ofChange Rows.fnExactVecArgMinSpec) :=
  OpenClaim.holds_of_wide 10 Try.f10 rfl rfl rfl rfl rfl rfl rfl ⟨rfl, rfl, rfl, rfl, rfl⟩ rfl rfl rfl rfl rfl func_of Try.func10 closed inst wrap
    (fun os started H enc _ => lifted os started H enc)

theorem proved : Rows.FnExactVecArgMinSaid := over
#print axioms proved
end Go.Proofs.Ytmghoedjcokhpaa.fnExactVecArgMin
