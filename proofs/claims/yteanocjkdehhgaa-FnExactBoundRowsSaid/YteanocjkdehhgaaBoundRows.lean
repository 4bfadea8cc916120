/- For every struct of a slice of columns, a slice of terms and a slice of rows the law FnExactBoundRows returns true: the program's BoundRows answers as the reference's does, writes into no argument, and its answer owns its memory; no condition. -/
import Derived.Test.YteanocjkdehhgaaRows
import Derived.Test.YteanocjkdehhgaaPff
import Derived.Test.YteanocjkdehhgaaKle
import Derived.Test.YteanocjkdehhgaaOpk
import Derived.WalkKit
import Derived.ProofKit
import Derived.OpenShut
import Derived.ShutString
import Derived.ChangeOld
import Derived.Below
import Derived.Lib.SmallJoins
namespace Go.Proofs.Yteanocjkdehhgaa.fnExactBoundRows
open Go.ChangeShapes Go.WideShapes Go.ChangeAt Go.RowKit
open Go.ChangeMaps (open_string shut_string)
open Go.Joins (open_agg2)
set_option linter.unusedVariables false

theorem own : ownKnob Try.prog.godebug = none := by kernel_rfl
theorem laidOut : laidOutB Try.prog = true := by kernel_rfl

/-- A slice of integers that came in. -/
def IsRow (k : IntKind) (w : World) (a : Option Addr) (len cap : Nat) (zs : List Int) : Prop :=
  (a = none ∧ len = 0 ∧ cap = 0 ∧ zs = []) ∨
  ∃ x, a = some x ∧ len ≤ cap ∧ cap ≤ maxLen ∧ zs.length = cap ∧ (∀ i, i < zs.length → w.cell? (x.add i) = some (.int k (zs.getD i 0))) ∧ ∀ n ∈ zs, (Lit.int k n).wf = true

theorem walk (xa0 : Option Addr) (xn0 xc0 : Nat) (xC0 : List Cq) (xb0 : Option Addr) (xm0 xd0 : Nat) (xK0 : List Tq) (xe0 : Option Addr) (xk0 xf0 : Nat) (xR0 : List Wq) (hn0 : xn0 ≤ maxLen) (hC0 : ∀ f ∈ xC0, okC f) (hb0 : xm0 ≤ maxLen) (hm0 : ∀ f ∈ xK0, f.A.length ≤ maxLen ∧ f.D.length ≤ maxLen) (hk0 : xk0 ≤ maxLen) (hR0 : ∀ f ∈ xR0, okR f) (w : World) (w0 : NCame w w.heap.size xa0 xn0 xC0 xb0 xm0 xK0 xe0 xk0 xR0) :
    Calls Try.prog 5 #[.agg #[.slice xa0 xn0 xc0, .slice xb0 xm0 xd0, .slice xe0 xk0 xf0]] w fun e w' => e = .returned (.bool true) ∧ Below w.heap.size w w' := by
  exact law_BoundRows xa0 xn0 xc0 xC0 xb0 xm0 xd0 xK0 xe0 xk0 xf0 xR0 hn0 hC0 hb0 hm0 hk0 hR0 w w0

set_option maxRecDepth 100000 in
theorem lifted (os : Os) (started : os.Started) (H : Type) (enc : TypeId × Value → H) :
    ReturnsInHanded {} Try.checked os 5 .any (Rows.fnExactBoundRowsSpec.pre6 enc Try.prog Try.f5 Rows.fnExactBoundRowsRow.domain false) (Rows.fnExactBoundRowsSpec.post enc Try.prog Try.f5 false true false false) := by
  refine returnsInHanded_of_change (C := Try.checked) own started (by kernel_rfl) Try.func5
    (ChangeSpec.witness6 (enc := enc) (C := Try.checked) false ⟨#[], #[.agg #[.slice none 0 0, .slice none 0 0, .slice none 0 0]], []⟩ 8 (by kernel_rfl) (by kernel_rfl) (by kernel_rfl) (by kernel_rfl)) ?_
  intro W base args ds gs before hval0 hW hcnd _
  have hval : ∀ (j : Nat) t v, Try.f5.params[j]? = some t → args[j]? = some v → Value.okWide Try.prog W .any base t v := hval0
  have hW' := hW
  obtain ⟨p, q, hA0, hV, rfl, hfz, hnd⟩ := hW
  have hA : DataW.TrodAll enc Try.prog W 0 (fun _ => true) true Try.f5.params.toList args.toList ds p := hA0
  rw [Try.params5] at hA hval
  obtain ⟨v0, vs0, d0, ds0, p0, q0, hargs, rfl, rfl, h0, r0⟩ := trodAll_cons hA
  obtain ⟨rfl, rfl, rfl⟩ := trodAll_nil r0
  obtain rfl : args = #[v0] := by cases args; simp_all
  obtain ⟨rfl, rfl⟩ := trodVars_none hV
  have k0 := h0
  have lt0 : ∀ x ∈ p0, x.block < W.heap.size := by obtain ⟨m, hm⟩ := k0; exact DataW.trod_lt m _ _ _ hm
  obtain ⟨xa0, xn0, xc0, xC0, xb0, xm0, xd0, xK0, xe0, xk0, xf0, xR0, rfl, hn0, hC0, hb0, hm0, hk0, hR0, w0⟩ := open_model (hval 0 43 v0 rfl rfl) h0
  clear hA0 hval0
  refine (walk xa0 xn0 xc0 xC0 xb0 xm0 xd0 xK0 xe0 xk0 xf0 xR0 hn0 hC0 hb0 hm0 hk0 hR0 W w0).mono fun e W' ⟨he, bel⟩ => ?_
  subst he
  exact ⟨_, rfl, _, _, _, [], _, [], hW', trodAll_mk1 (shut_bool Try.underlying4 _), (trodAll_cons_mk (Below.trod laidOut (by kernel_rfl) (of_decide_eq_true (by kernel_rfl)) k0 bel lt0) trodAll_mk0), rfl, bel.frame _, fun h => by cases h⟩

theorem k0 : (Rows.fnExactBoundRowsRow.wf (OpenSpec.ofChange Rows.fnExactBoundRowsSpec)) = true := by kernel_rfl
theorem k3 : (Try.f5.params.all (Try.pinned.checked.prog.readableRec ·)) = true := by kernel_rfl
theorem k4 : (namedTie Try.pinned.checked.prog Rows.fnExactBoundRowsRow.named Rows.fnExactBoundRowsSpec.vars) = true := by kernel_rfl
theorem k5 : (Rows.fnExactBoundRowsRow.stops == []) = true := by kernel_rfl
theorem k7 : (Rows.fnExactBoundRowsRow.knobs == []) = true := by kernel_rfl
theorem k9 : (Rows.fnExactBoundRowsRow.inPlace == Try.pinned.checked.prog.inPlace 5) = true := by kernel_rfl
theorem k10 : (Rows.fnExactBoundRowsRow.unfollowed == Try.pinned.checked.prog.unfollowed 5) = true := by kernel_rfl
theorem k11 : (Rows.fnExactBoundRowsRow.recurses == Try.pinned.checked.prog.recurses 5) = true := by kernel_rfl
theorem k12 : (Rows.fnExactBoundRowsRow.named == Try.pinned.checked.prog.varsNamed 5) = true := by kernel_rfl
theorem k13 : (Rows.fnExactBoundRowsRow.maps == (Try.f5.params.toList ++ Rows.fnExactBoundRowsSpec.plain.varTypes Try.pinned.checked.prog).any (Try.pinned.checked.prog.mapsRec ·)) = true := by kernel_rfl
theorem k14 : (Rows.fnExactBoundRowsRow.ifaces == (Try.f5.params.toList ++ Rows.fnExactBoundRowsSpec.plain.varTypes Try.pinned.checked.prog).any (Try.pinned.checked.prog.ifacesRec ·)) = true := by kernel_rfl
theorem k15 : (Rows.fnExactBoundRowsRow.mapsOut == Try.pinned.checked.prog.mapsAmong Try.f5.resultTypes.toList) = true := by kernel_rfl
theorem k16 : (Rows.fnExactBoundRowsRow.loops == (Try.f5.params.toList ++ Rows.fnExactBoundRowsSpec.plain.varTypes Try.pinned.checked.prog).any (Try.pinned.checked.prog.loopsFrom ·)) = true := by kernel_rfl
theorem k17 : (Rows.fnExactBoundRowsRow.wideKeys == (Try.f5.params.toList ++ Rows.fnExactBoundRowsSpec.plain.varTypes Try.pinned.checked.prog ++ Try.f5.resultTypes.toList).any (Try.pinned.checked.prog.wideKeysFrom ·)) = true := by kernel_rfl
theorem k18 : (Rows.fnExactBoundRowsSpec.vars.all (Try.pinned.checked.prog.varReadable ·)) = true := by kernel_rfl
theorem k19 : (Try.f5.resultTypes.all (fun t => Try.pinned.checked.prog.readableRec t && decide (t < Try.pinned.checked.prog.types.size))) = true := by kernel_rfl
theorem k20 : (Rows.fnExactBoundRowsRow.ifacesOut == Try.f5.resultTypes.toList.any (Try.pinned.checked.prog.ifacesRec ·)) = true := by kernel_rfl
theorem k21 : (Rows.fnExactBoundRowsRow.loopsOut == Try.f5.resultTypes.toList.any (Try.pinned.checked.prog.loopsFrom ·)) = true := by kernel_rfl
theorem k22 : (Rows.fnExactBoundRowsRow.plainKeys == Try.pinned.checked.prog.plainKeys) = true := by rw [p_keys]; rfl
theorem k23 : (Rows.fnExactBoundRowsRow.shortTexts.isNone) = true := by kernel_rfl
theorem k26 : (Rows.fnExactBoundRowsRow.lifted == Try.pinned.checked.prog.liftsFinal) = true := by rw [p_lift]; rfl
theorem k27 : (Try.pinned.checked.prog.make == some Rows.fnExactBoundRowsRow.make) = true := by rw [p_make]; rfl
theorem k28 : (Rows.fnExactBoundRowsRow.kinds == kindsOf Try.pinned.checked.prog Try.f5 Rows.fnExactBoundRowsRow) = true := by kernel_rfl
theorem k29 : (Rows.fnExactBoundRowsRow.pinned == Rows.fnExactBoundRowsRow.pinnedBy) = true := by kernel_rfl
theorem k30 : (Rows.fnExactBoundRowsRow.veiled == (Try.f5.params.toList ++ Rows.fnExactBoundRowsSpec.plain.varTypes Try.pinned.checked.prog ++ Try.f5.resultTypes.toList).any (Try.pinned.checked.prog.veiledRec ·)) = true := by kernel_rfl
theorem k31 : (Rows.fnExactBoundRowsRow.veiledFits Try.pinned.checked.prog Try.f5.params.toList (Try.f5.params.toList ++ Rows.fnExactBoundRowsSpec.plain.varTypes Try.pinned.checked.prog ++ Try.f5.resultTypes.toList)) = true := by kernel_rfl
theorem closed : joinedFacts Try.pinned.checked.prog 5 Try.f5 Rows.fnExactBoundRowsSpec Rows.fnExactBoundRowsRow = true :=
  joined_by k0 p_laid p_maps k3 k4 k5 p_stops k7 p_knobs k9 k10 k11 k12 k13 k14 k15 k16 k17 k18 k19 k20 k21 k22 k23 p_heard p_enter k26 k27 k28 k29 k30 k31
theorem func_of : Try.pinned.checked.prog.funcNamed Rows.fnExactBoundRowsRow.func = some 5 := by kernel_rfl
theorem inst : Try.f5.isInstance Try.pinned.checked.prog Rows.fnExactBoundRowsRow.origin Rows.fnExactBoundRowsRow.targs := of_decide_eq_true (by kernel_rfl)
theorem wrap : Try.f5.isWrapper Try.pinned.checked.prog Rows.fnExactBoundRowsRow.wrapper Rows.fnExactBoundRowsRow.mainSum := by
  unfold Func.isWrapper
  first | (rw [if_pos (by decide +kernel)]; kernel_rfl) | (rw [if_neg (by decide +kernel)]; exact ⟨rfl, rfl⟩)
theorem over : Rows.fnExactBoundRowsRow.holds Try.pinned (OpenSpec.ofChange Rows.fnExactBoundRowsSpec) :=
  OpenClaim.holds_of_wide 5 Try.f5 rfl rfl rfl rfl rfl rfl rfl ⟨rfl, rfl, rfl, rfl, rfl⟩ rfl rfl rfl rfl rfl func_of Try.func5 closed inst wrap
    (fun os started H enc _ => lifted os started H enc)

theorem proved : Rows.FnExactBoundRowsSaid := over
#print axioms proved
end Go.Proofs.Yteanocjkdehhgaa.fnExactBoundRows
