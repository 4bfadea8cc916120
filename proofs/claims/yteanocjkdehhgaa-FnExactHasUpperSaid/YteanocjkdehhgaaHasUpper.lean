/- For every struct of a string, two fractions and a bool the law FnExactHasUpper returns true: the program's HasUpper answers as the reference's does and writes into no argument; no condition. -/
import Derived.Test.YteanocjkdehhgaaRows
import Derived.Test.YteanocjkdehhgaaPff
import Derived.Test.YteanocjkdehhgaaKla
import Derived.Test.YteanocjkdehhgaaOpk
import Derived.WalkKit
import Derived.ProofKit
import Derived.OpenShut
import Derived.ShutString
import Derived.ChangeOld
import Derived.Below
import Derived.Lib.SmallJoins
namespace Go.Proofs.Yteanocjkdehhgaa.fnExactHasUpper
open Go.ChangeShapes Go.WideShapes Go.ChangeAt Go.RowKit
open Go.ChangeMaps (open_string shut_string)
open Go.Joins (open_agg2)
set_option linter.unusedVariables false

theorem own : ownKnob Try.prog.godebug = none := by kernel_rfl
theorem laidOut : laidOutB Try.prog = true := by kernel_rfl

/-- A slice of integers that came in. -/
def IsRow (k : IntKind) (w : World) (a : Option Addr) (len cap : Nat) (zs : List Int) : Prop :=
  (a = none ∧ len = 0 ∧ cap = 0 ∧ zs = []) ∨
  ∃ x, a = some x ∧ len ≤ cap ∧ cap ≤ maxLen ∧ zs.length = cap ∧ (∀ i, i < zs.length → w.cell? (x.add i) = some (.int k (zs.getD i 0))) ∧ ∀ n ∈ zs, (Lit.int k n).wf = true

theorem walk (xN0 : ByteArray) (xs0 : Bool) (xa0 : Option Addr) (xn0 xc0 : Nat) (xA0 : List Int) (xb0 : Option Addr) (xm0 xd0 : Nat) (xD0 : List Int) (xz0 : Bool) (xe0 : Option Addr) (xk0 xf0 : Nat) (xF0 : List Int) (xg0 : Option Addr) (xl0 xi0 : Nat) (xG0 : List Int) (xt0 : Bool) (hN0 : xN0.size ≤ maxLen) (hn0 : xn0 ≤ maxLen) (hm0 : xm0 ≤ maxLen) (hk0 : xk0 ≤ maxLen) (hl0 : xl0 ≤ maxLen) (w : World) (w0 : ClCame w w.heap.size xa0 xn0 xA0 xb0 xm0 xD0 xe0 xk0 xF0 xg0 xl0 xG0) :
    Calls Try.prog 3 #[.agg #[.string xN0, .bool xs0, .slice xa0 xn0 xc0, .slice xb0 xm0 xd0, .bool xz0, .slice xe0 xk0 xf0, .slice xg0 xl0 xi0, .bool xt0]] w fun e w' => e = .returned (.bool true) ∧ Below w.heap.size w w' := by
  exact law_HasUpper xN0 xs0 xa0 xn0 xc0 xA0 xb0 xm0 xd0 xD0 xz0 xe0 xk0 xf0 xF0 xg0 xl0 xi0 xG0 xt0 hN0 hn0 hm0 hk0 hl0 w w0

set_option maxRecDepth 100000 in
theorem lifted (os : Os) (started : os.Started) (H : Type) (enc : TypeId × Value → H) :
    ReturnsInHanded {} Try.checked os 3 .any (Rows.fnExactHasUpperSpec.pre6 enc Try.prog Try.f3 Rows.fnExactHasUpperRow.domain false) (Rows.fnExactHasUpperSpec.post enc Try.prog Try.f3 false true false false) := by
  refine returnsInHanded_of_change (C := Try.checked) own started (by kernel_rfl) Try.func3
    (ChangeSpec.witness6 (enc := enc) (C := Try.checked) false ⟨#[], #[.agg #[.string ByteArray.empty, .bool false, .slice none 0 0, .slice none 0 0, .bool false, .slice none 0 0, .slice none 0 0, .bool false]], []⟩ 8 (by kernel_rfl) (by kernel_rfl) (by kernel_rfl) (by kernel_rfl)) ?_
  intro W base args ds gs before hval0 hW hcnd _
  have hval : ∀ (j : Nat) t v, Try.f3.params[j]? = some t → args[j]? = some v → Value.okWide Try.prog W .any base t v := hval0
  have hW' := hW
  obtain ⟨p, q, hA0, hV, rfl, hfz, hnd⟩ := hW
  have hA : DataW.TrodAll enc Try.prog W 0 (fun _ => true) true Try.f3.params.toList args.toList ds p := hA0
  rw [Try.params3] at hA hval
  obtain ⟨v0, vs0, d0, ds0, p0, q0, hargs, rfl, rfl, h0, r0⟩ := trodAll_cons hA
  obtain ⟨rfl, rfl, rfl⟩ := trodAll_nil r0
  obtain rfl : args = #[v0] := by cases args; simp_all
  obtain ⟨rfl, rfl⟩ := trodVars_none hV
  have k0 := h0
  have lt0 : ∀ x ∈ p0, x.block < W.heap.size := by obtain ⟨m, hm⟩ := k0; exact DataW.trod_lt m _ _ _ hm
  obtain ⟨xN0, xs0, xa0, xn0, xc0, xA0, xb0, xm0, xd0, xD0, xz0, xe0, xk0, xf0, xF0, xg0, xl0, xi0, xG0, xt0, rfl, hN0, hn0, hm0, hk0, hl0, w0⟩ := open_col (hval 0 28 v0 rfl rfl) h0
  clear hA0 hval0
  refine (walk xN0 xs0 xa0 xn0 xc0 xA0 xb0 xm0 xd0 xD0 xz0 xe0 xk0 xf0 xF0 xg0 xl0 xi0 xG0 xt0 hN0 hn0 hm0 hk0 hl0 W w0).mono fun e W' ⟨he, bel⟩ => ?_
  subst he
  exact ⟨_, rfl, _, _, _, [], _, [], hW', trodAll_mk1 (shut_bool Try.underlying4 _), (trodAll_cons_mk (Below.trod laidOut (by kernel_rfl) (of_decide_eq_true (by kernel_rfl)) k0 bel lt0) trodAll_mk0), rfl, bel.frame _, fun h => by cases h⟩

theorem k0 : (Rows.fnExactHasUpperRow.wf (OpenSpec.ofChange Rows.fnExactHasUpperSpec)) = true := by kernel_rfl
theorem k3 : (Try.f3.params.all (Try.pinned.checked.prog.readableRec ·)) = true := by kernel_rfl
theorem k4 : (namedTie Try.pinned.checked.prog Rows.fnExactHasUpperRow.named Rows.fnExactHasUpperSpec.vars) = true := by kernel_rfl
theorem k5 : (Rows.fnExactHasUpperRow.stops == []) = true := by kernel_rfl
theorem k7 : (Rows.fnExactHasUpperRow.knobs == []) = true := by kernel_rfl
theorem k9 : (Rows.fnExactHasUpperRow.inPlace == Try.pinned.checked.prog.inPlace 3) = true := by kernel_rfl
theorem k10 : (Rows.fnExactHasUpperRow.unfollowed == Try.pinned.checked.prog.unfollowed 3) = true := by kernel_rfl
theorem k11 : (Rows.fnExactHasUpperRow.recurses == Try.pinned.checked.prog.recurses 3) = true := by kernel_rfl
theorem k12 : (Rows.fnExactHasUpperRow.named == Try.pinned.checked.prog.varsNamed 3) = true := by kernel_rfl
theorem k13 : (Rows.fnExactHasUpperRow.maps == (Try.f3.params.toList ++ Rows.fnExactHasUpperSpec.plain.varTypes Try.pinned.checked.prog).any (Try.pinned.checked.prog.mapsRec ·)) = true := by kernel_rfl
theorem k14 : (Rows.fnExactHasUpperRow.ifaces == (Try.f3.params.toList ++ Rows.fnExactHasUpperSpec.plain.varTypes Try.pinned.checked.prog).any (Try.pinned.checked.prog.ifacesRec ·)) = true := by kernel_rfl
theorem k15 : (Rows.fnExactHasUpperRow.mapsOut == Try.pinned.checked.prog.mapsAmong Try.f3.resultTypes.toList) = true := by kernel_rfl
theorem k16 : (Rows.fnExactHasUpperRow.loops == (Try.f3.params.toList ++ Rows.fnExactHasUpperSpec.plain.varTypes Try.pinned.checked.prog).any (Try.pinned.checked.prog.loopsFrom ·)) = true := by kernel_rfl
theorem k17 : (Rows.fnExactHasUpperRow.wideKeys == (Try.f3.params.toList ++ Rows.fnExactHasUpperSpec.plain.varTypes Try.pinned.checked.prog ++ Try.f3.resultTypes.toList).any (Try.pinned.checked.prog.wideKeysFrom ·)) = true := by kernel_rfl
theorem k18 : (Rows.fnExactHasUpperSpec.vars.all (Try.pinned.checked.prog.varReadable ·)) = true := by kernel_rfl
theorem k19 : (Try.f3.resultTypes.all (fun t => Try.pinned.checked.prog.readableRec t && decide (t < Try.pinned.checked.prog.types.size))) = true := by kernel_rfl
theorem k20 : (Rows.fnExactHasUpperRow.ifacesOut == Try.f3.resultTypes.toList.any (Try.pinned.checked.prog.ifacesRec ·)) = true := by kernel_rfl
theorem k21 : (Rows.fnExactHasUpperRow.loopsOut == Try.f3.resultTypes.toList.any (Try.pinned.checked.prog.loopsFrom ·)) = true := by kernel_rfl
theorem k22 : (Rows.fnExactHasUpperRow.plainKeys == Try.pinned.checked.prog.plainKeys) = true := by rw [p_keys]; rfl
theorem k23 : (Rows.fnExactHasUpperRow.shortTexts.isNone) = true := by kernel_rfl
theorem k26 : (Rows.fnExactHasUpperRow.lifted == Try.pinned.checked.prog.liftsFinal) = true := by rw [p_lift]; rfl
theorem k27 : (Try.pinned.checked.prog.make == some Rows.fnExactHasUpperRow.make) = true := by rw [p_make]; rfl
theorem k28 : (Rows.fnExactHasUpperRow.kinds == kindsOf Try.pinned.checked.prog Try.f3 Rows.fnExactHasUpperRow) = true := by kernel_rfl
theorem k29 : (Rows.fnExactHasUpperRow.pinned == Rows.fnExactHasUpperRow.pinnedBy) = true := by kernel_rfl
theorem k30 : (Rows.fnExactHasUpperRow.veiled == (Try.f3.params.toList ++ Rows.fnExactHasUpperSpec.plain.varTypes Try.pinned.checked.prog ++ Try.f3.resultTypes.toList).any (Try.pinned.checked.prog.veiledRec ·)) = true := by kernel_rfl
theorem k31 : (Rows.fnExactHasUpperRow.veiledFits Try.pinned.checked.prog Try.f3.params.toList (Try.f3.params.toList ++ Rows.fnExactHasUpperSpec.plain.varTypes Try.pinned.checked.prog ++ Try.f3.resultTypes.toList)) = true := by kernel_rfl
theorem closed : joinedFacts Try.pinned.checked.prog 3 Try.f3 Rows.fnExactHasUpperSpec Rows.fnExactHasUpperRow = true :=
  joined_by k0 p_laid p_maps k3 k4 k5 p_stops k7 p_knobs k9 k10 k11 k12 k13 k14 k15 k16 k17 k18 k19 k20 k21 k22 k23 p_heard p_enter k26 k27 k28 k29 k30 k31
theorem func_of : Try.pinned.checked.prog.funcNamed Rows.fnExactHasUpperRow.func = some 3 := by kernel_rfl
theorem inst : Try.f3.isInstance Try.pinned.checked.prog Rows.fnExactHasUpperRow.origin Rows.fnExactHasUpperRow.targs := of_decide_eq_true (by kernel_rfl)
theorem wrap : Try.f3.isWrapper Try.pinned.checked.prog Rows.fnExactHasUpperRow.wrapper Rows.fnExactHasUpperRow.mainSum := by
  unfold Func.isWrapper
  first | (rw [if_pos (by decide +kernel)]; kernel_rfl) | (rw [if_neg (by decide +kernel)]; exact ⟨rfl, rfl⟩)
theorem over : Rows.fnExactHasUpperRow.holds Try.pinned (OpenSpec.ofChange Rows.fnExactHasUpperSpec) :=
  OpenClaim.holds_of_wide 3 Try.f3 rfl rfl rfl rfl rfl rfl rfl ⟨rfl, rfl, rfl, rfl, rfl⟩ rfl rfl rfl rfl rfl func_of Try.func3 closed inst wrap
    (fun os started H enc _ => lifted os started H enc)

theorem proved : Rows.FnExactHasUpperSaid := over
#print axioms proved
end Go.Proofs.Yteanocjkdehhgaa.fnExactHasUpper
