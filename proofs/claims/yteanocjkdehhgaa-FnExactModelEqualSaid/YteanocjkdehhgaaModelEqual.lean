/- For every two structs of a slice of columns, a slice of terms and a slice of rows the law FnExactModelEqual returns true: the program's ModelEqual answers as the reference's does and writes into no argument; no condition. -/
import Derived.Test.YteanocjkdehhgaaRows
import Derived.Test.YteanocjkdehhgaaPff
import Derived.Test.YteanocjkdehhgaaKlb
import Derived.Test.YteanocjkdehhgaaOpk
import Derived.WalkKit
import Derived.ProofKit
import Derived.OpenShut
import Derived.ShutString
import Derived.ChangeOld
import Derived.Below
import Derived.Lib.SmallJoins
namespace Go.Proofs.Yteanocjkdehhgaa.fnExactModelEqual
open Go.ChangeShapes Go.WideShapes Go.ChangeAt Go.RowKit
open Go.ChangeMaps (open_string shut_string)
open Go.Joins (open_agg2)
set_option linter.unusedVariables false

theorem own : ownKnob Try.prog.godebug = none := by kernel_rfl
theorem laidOut : laidOutB Try.prog = true := by kernel_rfl

/-- A slice of integers that came in. -/
def IsRow (k : IntKind) (w : World) (a : Option Addr) (len cap : Nat) (zs : List Int) : Prop :=
  (a = none ∧ len = 0 ∧ cap = 0 ∧ zs = []) ∨
  ∃ x, a = some x ∧ len ≤ cap ∧ cap ≤ maxLen ∧ zs.length = cap ∧ (∀ i, i < zs.length → w.cell? (x.add i) = some (.int k (zs.getD i 0))) ∧ ∀ n ∈ zs, (Lit.int k n).wf = true

theorem walk (xa0 : Option Addr) (xn0 xc0 : Nat) (xC0 : List Cq) (xb0 : Option Addr) (xm0 xd0 : Nat) (xK0 : List Tq) (xe0 : Option Addr) (xk0 xf0 : Nat) (xR0 : List Wq) (hn0 : xn0 ≤ maxLen) (hC0 : ∀ f ∈ xC0, okC f) (hb0 : xm0 ≤ maxLen) (hm0 : ∀ f ∈ xK0, f.A.length ≤ maxLen ∧ f.D.length ≤ maxLen) (hk0 : xk0 ≤ maxLen) (hR0 : ∀ f ∈ xR0, okR f) (xa1 : Option Addr) (xn1 xc1 : Nat) (xC1 : List Cq) (xb1 : Option Addr) (xm1 xd1 : Nat) (xK1 : List Tq) (xe1 : Option Addr) (xk1 xf1 : Nat) (xR1 : List Wq) (hn1 : xn1 ≤ maxLen) (hC1 : ∀ f ∈ xC1, okC f) (hb1 : xm1 ≤ maxLen) (hm1 : ∀ f ∈ xK1, f.A.length ≤ maxLen ∧ f.D.length ≤ maxLen) (hk1 : xk1 ≤ maxLen) (hR1 : ∀ f ∈ xR1, okR f) (w : World) (w0 : NCame w w.heap.size xa0 xn0 xC0 xb0 xm0 xK0 xe0 xk0 xR0) (w1 : NCame w w.heap.size xa1 xn1 xC1 xb1 xm1 xK1 xe1 xk1 xR1) :
    Calls Try.prog 7 #[.agg #[.slice xa0 xn0 xc0, .slice xb0 xm0 xd0, .slice xe0 xk0 xf0], .agg #[.slice xa1 xn1 xc1, .slice xb1 xm1 xd1, .slice xe1 xk1 xf1]] w fun e w' => e = .returned (.bool true) ∧ Below w.heap.size w w' := by
  exact law_ModelEqual xa0 xn0 xc0 xC0 xb0 xm0 xd0 xK0 xe0 xk0 xf0 xR0 hn0 hC0 hb0 hm0 hk0 hR0 xa1 xn1 xc1 xC1 xb1 xm1 xd1 xK1 xe1 xk1 xf1 xR1 hn1 hC1 hb1 hm1 hk1 hR1 w w0 w1

set_option maxRecDepth 100000 in
theorem lifted (os : Os) (started : os.Started) (H : Type) (enc : TypeId × Value → H) :
    ReturnsInHanded {} Try.checked os 7 .any (Rows.fnExactModelEqualSpec.pre6 enc Try.prog Try.f7 Rows.fnExactModelEqualRow.domain false) (Rows.fnExactModelEqualSpec.post enc Try.prog Try.f7 false true false false) := by
  refine returnsInHanded_of_change (C := Try.checked) own started (by kernel_rfl) Try.func7
    (ChangeSpec.witness6 (enc := enc) (C := Try.checked) false ⟨#[], #[.agg #[.slice none 0 0, .slice none 0 0, .slice none 0 0], .agg #[.slice none 0 0, .slice none 0 0, .slice none 0 0]], []⟩ 8 (by kernel_rfl) (by kernel_rfl) (by kernel_rfl) (by kernel_rfl)) ?_
  intro W base args ds gs before hval0 hW hcnd _
  have hval : ∀ (j : Nat) t v, Try.f7.params[j]? = some t → args[j]? = some v → Value.okWide Try.prog W .any base t v := hval0
  have hW' := hW
  obtain ⟨p, q, hA0, hV, rfl, hfz, hnd⟩ := hW
  have hA : DataW.TrodAll enc Try.prog W 0 (fun _ => true) true Try.f7.params.toList args.toList ds p := hA0
  rw [Try.params7] at hA hval
  obtain ⟨v0, vs0, d0, ds0, p0, q0, hargs, rfl, rfl, h0, r0⟩ := trodAll_cons hA
  obtain ⟨v1, vs1, d1, ds1, p1, q1, rfl, rfl, rfl, h1, r1⟩ := trodAll_cons r0
  obtain ⟨rfl, rfl, rfl⟩ := trodAll_nil r1
  obtain rfl : args = #[v0, v1] := by cases args; simp_all
  obtain ⟨rfl, rfl⟩ := trodVars_none hV
  have k0 := h0
  have lt0 : ∀ x ∈ p0, x.block < W.heap.size := by obtain ⟨m, hm⟩ := k0; exact DataW.trod_lt m _ _ _ hm
  obtain ⟨xa0, xn0, xc0, xC0, xb0, xm0, xd0, xK0, xe0, xk0, xf0, xR0, rfl, hn0, hC0, hb0, hm0, hk0, hR0, w0⟩ := open_model (hval 0 43 v0 rfl rfl) h0
  have k1 := h1
  have lt1 : ∀ x ∈ p1, x.block < W.heap.size := by obtain ⟨m, hm⟩ := k1; exact DataW.trod_lt m _ _ _ hm
  obtain ⟨xa1, xn1, xc1, xC1, xb1, xm1, xd1, xK1, xe1, xk1, xf1, xR1, rfl, hn1, hC1, hb1, hm1, hk1, hR1, w1⟩ := open_model (hval 1 43 v1 rfl rfl) h1
  clear hA0 hval0
  refine (walk xa0 xn0 xc0 xC0 xb0 xm0 xd0 xK0 xe0 xk0 xf0 xR0 hn0 hC0 hb0 hm0 hk0 hR0 xa1 xn1 xc1 xC1 xb1 xm1 xd1 xK1 xe1 xk1 xf1 xR1 hn1 hC1 hb1 hm1 hk1 hR1 W w0 w1).mono fun e W' ⟨he, bel⟩ => ?_
  subst he
  exact ⟨_, rfl, _, _, _, [], _, [], hW', trodAll_mk1 (shut_bool Try.underlying4 _), (trodAll_cons_mk (Below.trod laidOut (by kernel_rfl) (of_decide_eq_true (by kernel_rfl)) k0 bel lt0) (trodAll_cons_mk (Below.trod laidOut (by kernel_rfl) (of_decide_eq_true (by kernel_rfl)) k1 bel lt1) trodAll_mk0)), rfl, bel.frame _, fun h => by cases h⟩

theorem k0 : (Rows.fnExactModelEqualRow.wf (OpenSpec.ofChange Rows.fnExactModelEqualSpec)) = true := by kernel_rfl
theorem k3 : (Try.f7.params.all (Try.pinned.checked.prog.readableRec ·)) = true := by kernel_rfl
theorem k4 : (namedTie Try.pinned.checked.prog Rows.fnExactModelEqualRow.named Rows.fnExactModelEqualSpec.vars) = true := by kernel_rfl
theorem k5 : (Rows.fnExactModelEqualRow.stops == []) = true := by kernel_rfl
theorem k7 : (Rows.fnExactModelEqualRow.knobs == []) = true := by kernel_rfl
theorem k9 : (Rows.fnExactModelEqualRow.inPlace == Try.pinned.checked.prog.inPlace 7) = true := by kernel_rfl
theorem k10 : (Rows.fnExactModelEqualRow.unfollowed == Try.pinned.checked.prog.unfollowed 7) = true := by kernel_rfl
theorem k11 : (Rows.fnExactModelEqualRow.recurses == Try.pinned.checked.prog.recurses 7) = true := by kernel_rfl
theorem k12 : (Rows.fnExactModelEqualRow.named == Try.pinned.checked.prog.varsNamed 7) = true := by kernel_rfl
theorem k13 : (Rows.fnExactModelEqualRow.maps == (Try.f7.params.toList ++ Rows.fnExactModelEqualSpec.plain.varTypes Try.pinned.checked.prog).any (Try.pinned.checked.prog.mapsRec ·)) = true := by kernel_rfl
theorem k14 : (Rows.fnExactModelEqualRow.ifaces == (Try.f7.params.toList ++ Rows.fnExactModelEqualSpec.plain.varTypes Try.pinned.checked.prog).any (Try.pinned.checked.prog.ifacesRec ·)) = true := by kernel_rfl
theorem k15 : (Rows.fnExactModelEqualRow.mapsOut == Try.pinned.checked.prog.mapsAmong Try.f7.resultTypes.toList) = true := by kernel_rfl
theorem k16 : (Rows.fnExactModelEqualRow.loops == (Try.f7.params.toList ++ Rows.fnExactModelEqualSpec.plain.varTypes Try.pinned.checked.prog).any (Try.pinned.checked.prog.loopsFrom ·)) = true := by kernel_rfl
theorem k17 : (Rows.fnExactModelEqualRow.wideKeys == (Try.f7.params.toList ++ Rows.fnExactModelEqualSpec.plain.varTypes Try.pinned.checked.prog ++ Try.f7.resultTypes.toList).any (Try.pinned.checked.prog.wideKeysFrom ·)) = true := by kernel_rfl
theorem k18 : (Rows.fnExactModelEqualSpec.vars.all (Try.pinned.checked.prog.varReadable ·)) = true := by kernel_rfl
theorem k19 : (Try.f7.resultTypes.all (fun t => Try.pinned.checked.prog.readableRec t && decide (t < Try.pinned.checked.prog.types.size))) = true := by kernel_rfl
theorem k20 : (Rows.fnExactModelEqualRow.ifacesOut == Try.f7.resultTypes.toList.any (Try.pinned.checked.prog.ifacesRec ·)) = true := by kernel_rfl
theorem k21 : (Rows.fnExactModelEqualRow.loopsOut == Try.f7.resultTypes.toList.any (Try.pinned.checked.prog.loopsFrom ·)) = true := by kernel_rfl
theorem k22 : (Rows.fnExactModelEqualRow.plainKeys == Try.pinned.checked.prog.plainKeys) = true := by rw [p_keys]; rfl
theorem k23 : (Rows.fnExactModelEqualRow.shortTexts.isNone) = true := by kernel_rfl
theorem k26 : (Rows.fnExactModelEqualRow.lifted == Try.pinned.checked.prog.liftsFinal) = true := by rw [p_lift]; rfl
theorem k27 : (Try.pinned.checked.prog.make == some Rows.fnExactModelEqualRow.make) = true := by rw [p_make]; rfl
theorem k28 : (Rows.fnExactModelEqualRow.kinds == kindsOf Try.pinned.checked.prog Try.f7 Rows.fnExactModelEqualRow) = true := by kernel_rfl
theorem k29 : (Rows.fnExactModelEqualRow.pinned == Rows.fnExactModelEqualRow.pinnedBy) = true := by kernel_rfl
theorem k30 : (Rows.fnExactModelEqualRow.veiled == (Try.f7.params.toList ++ Rows.fnExactModelEqualSpec.plain.varTypes Try.pinned.checked.prog ++ Try.f7.resultTypes.toList).any (Try.pinned.checked.prog.veiledRec ·)) = true := by kernel_rfl
theorem k31 : (Rows.fnExactModelEqualRow.veiledFits Try.pinned.checked.prog Try.f7.params.toList (Try.f7.params.toList ++ Rows.fnExactModelEqualSpec.plain.varTypes Try.pinned.checked.prog ++ Try.f7.resultTypes.toList)) = true := by kernel_rfl
theorem closed : joinedFacts Try.pinned.checked.prog 7 Try.f7 Rows.fnExactModelEqualSpec Rows.fnExactModelEqualRow = true :=
  joined_by k0 p_laid p_maps k3 k4 k5 p_stops k7 p_knobs k9 k10 k11 k12 k13 k14 k15 k16 k17 k18 k19 k20 k21 k22 k23 p_heard p_enter k26 k27 k28 k29 k30 k31
theorem func_of : Try.pinned.checked.prog.funcNamed Rows.fnExactModelEqualRow.func = some 7 := by kernel_rfl
theorem inst : Try.f7.isInstance Try.pinned.checked.prog Rows.fnExactModelEqualRow.origin Rows.fnExactModelEqualRow.targs := of_decide_eq_true (by kernel_rfl)
theorem wrap : Try.f7.isWrapper Try.pinned.checked.prog Rows.fnExactModelEqualRow.wrapper Rows.fnExactModelEqualRow.mainSum := by
  unfold Func.isWrapper
  first | (rw [if_pos (by decide +kernel)]; kernel_rfl) | (rw [if_neg (by decide +kernel)]; exact ⟨rfl, rfl⟩)
theorem over : Rows.fnExactModelEqualRow.holds Try.pinned (OpenSpec.ofChange Rows.fnExactModelEqualSpec) :=
  OpenClaim.holds_of_wide 7 Try.f7 rfl rfl rfl rfl rfl rfl rfl ⟨rfl, rfl, rfl, rfl, rfl⟩ rfl rfl rfl rfl rfl func_of Try.func7 closed inst wrap
    (fun os started H enc _ => lifted os started H enc)

theorem proved : Rows.FnExactModelEqualSaid := over
#print axioms proved
end Go.Proofs.Yteanocjkdehhgaa.fnExactModelEqual
