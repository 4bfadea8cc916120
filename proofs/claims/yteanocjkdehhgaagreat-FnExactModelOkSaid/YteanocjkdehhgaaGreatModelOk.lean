import Derived.Test.YteanocjkdehhgaaGreatRows
import Derived.Test.YteanocjkdehhgaaGreatPff
import Derived.Test.YteanocjkdehhgaaGreatKld
import Derived.Test.YteanocjkdehhgaaGreatOpk
import Derived.WalkKit
import Derived.ProofKit
import Derived.OpenShut
import Derived.ShutString
import Derived.ChangeOld
import Derived.Below
import Derived.Lib.SmallJoins
set_option maxRecDepth 100000
set_option maxHeartbeats 200000
set_option linter.unusedVariables false
set_option linter.unusedSimpArgs false
namespace Go.Proofs.YteanocjkdehhgaaGreat.fnExactModelOk
open Go.ChangeShapes Go.WideShapes Go.ChangeAt Go.RowKit
open Go.ChangeMaps (open_string shut_string)
open Go.Joins (open_agg2)
theorem own : ownKnob Tryz.prog.godebug = none := by kernel_rfl
theorem laidOut : laidOutB Tryz.prog = true := by kernel_rfl
def IsRow (k : IntKind) (w : World) (a : Option Addr) (len cap : Nat) (zs : List Int) : Prop :=
 (a = none ∧ len = 0 ∧ cap = 0 ∧ zs = []) ∨
 ∃ x, a = some x ∧ len ≤ cap ∧ cap ≤ maxLen ∧ zs.length = cap ∧ (∀ i, i < zs.length → w.cell? (x.add i) = some (.int k (zs.getD i 0))) ∧ ∀ n ∈ zs, (Lit.int k n).wf = true
theorem walk (xa0 : Option Addr) (xn0 xc0 : Nat) (xC0 : List Cq) (xb0 : Option Addr) (xm0 xd0 : Nat) (xK0 : List Tq) (xe0 : Option Addr) (xk0 xf0 : Nat) (xR0 : List Wq) (hn0 : xn0 ≤ maxLen) (hC0 : ∀ f ∈ xC0, okC f) (hb0 : xm0 ≤ maxLen) (hm0 : ∀ f ∈ xK0, f.A.length ≤ maxLen ∧ f.D.length ≤ maxLen) (hk0 : xk0 ≤ maxLen) (hR0 : ∀ f ∈ xR0, okR f) (w : World) (w0 : NCame w w.heap.size xa0 xn0 xC0 xb0 xm0 xK0 xe0 xk0 xR0) :
  Calls Tryz.prog 3 #[.agg #[.slice xa0 xn0 xc0, .slice xb0 xm0 xd0, .slice xe0 xk0 xf0]] w fun e w' => e = .returned (.bool true) ∧ Below w.heap.size w w' := by
 exact law_ModelOk xa0 xn0 xc0 xC0 xb0 xm0 xd0 xK0 xe0 xk0 xf0 xR0 hn0 hC0 hb0 hm0 hk0 hR0 w w0
theorem lifted (os : Os) (started : os.Started) (H : Type) (enc : TypeId × Value → H) :
  ReturnsInHanded {} Tryz.checked os 3 .any (Rows.fnExactModelOkSpec.pre6 enc Tryz.prog Tryz.f3 Rows.fnExactModelOkRow.domain false) (Rows.fnExactModelOkSpec.post enc Tryz.prog Tryz.f3 false true false false) := by
 refine returnsInHanded_of_change (C := Tryz.checked) own started (by kernel_rfl) Tryz.func3
  (ChangeSpec.witness6 (enc := enc) (C := Tryz.checked) false ⟨#[], #[.agg #[.slice none 0 0, .slice none 0 0, .slice none 0 0]], []⟩ 8 (by kernel_rfl) (by kernel_rfl) (by kernel_rfl) (by kernel_rfl)) ?_
 intro W base args ds gs before hval0 hW hcnd _
 have hval : ∀ (j : Nat) t v, Tryz.f3.params[j]? = some t → args[j]? = some v → Value.okWide Tryz.prog W .any base t v := hval0
 have hW' := hW
 obtain ⟨p, q, hA0, hV, rfl, hfz, hnd⟩ := hW
 have hA : DataW.TrodAll enc Tryz.prog W 0 (fun _ => true) true Tryz.f3.params.toList args.toList ds p := hA0
 rw [Tryz.params3] at hA hval
 obtain ⟨v0, vs0, d0, ds0, p0, q0, hargs, rfl, rfl, h0, r0⟩ := trodAll_cons hA
 obtain ⟨rfl, rfl, rfl⟩ := trodAll_nil r0
 obtain rfl : args = #[v0] := by cases args; simp_all
 obtain ⟨rfl, rfl⟩ := trodVars_none hV
 have k0 := h0
 have lt0 : ∀ x ∈ p0, x.block < W.heap.size := by obtain ⟨m, hm⟩ := k0; exact DataW.trod_lt m _ _ _ hm
 obtain ⟨xa0, xn0, xc0, xC0, xb0, xm0, xd0, xK0, xe0, xk0, xf0, xR0, rfl, hn0, hC0, hb0, hm0, hk0, hR0, w0⟩ := open_model (hval 0 26 v0 rfl rfl) h0
 clear hA0 hval0
 refine (walk xa0 xn0 xc0 xC0 xb0 xm0 xd0 xK0 xe0 xk0 xf0 xR0 hn0 hC0 hb0 hm0 hk0 hR0 W w0).mono fun e W' ⟨he, bel⟩ => ?_
 subst he
 exact ⟨_, rfl, _, _, _, [], _, [], hW', trodAll_mk1 (shut_bool Tryz.underlying4 _), (trodAll_cons_mk (Below.trod laidOut (by kernel_rfl) (of_decide_eq_true (by kernel_rfl)) k0 bel lt0) trodAll_mk0), rfl, bel.frame _, fun h => by cases h⟩
theorem k0 : (Rows.fnExactModelOkRow.wf (OpenSpec.ofChange Rows.fnExactModelOkSpec)) = true := by kernel_rfl
theorem k3 : (Tryz.f3.params.all (Tryz.pinned.checked.prog.readableRec ·)) = true := by kernel_rfl
theorem k4 : (namedTie Tryz.pinned.checked.prog Rows.fnExactModelOkRow.named Rows.fnExactModelOkSpec.vars) = true := by kernel_rfl
theorem k5 : (Rows.fnExactModelOkRow.stops == []) = true := by kernel_rfl
theorem k7 : (Rows.fnExactModelOkRow.knobs == []) = true := by kernel_rfl
theorem k9 : (Rows.fnExactModelOkRow.inPlace == Tryz.pinned.checked.prog.inPlace 3) = true := by kernel_rfl
theorem k10 : (Rows.fnExactModelOkRow.unfollowed == Tryz.pinned.checked.prog.unfollowed 3) = true := by kernel_rfl
theorem k11 : (Rows.fnExactModelOkRow.recurses == Tryz.pinned.checked.prog.recurses 3) = true := by kernel_rfl
theorem k12 : (Rows.fnExactModelOkRow.named == Tryz.pinned.checked.prog.varsNamed 3) = true := by kernel_rfl
theorem k13 : (Rows.fnExactModelOkRow.maps == (Tryz.f3.params.toList ++ Rows.fnExactModelOkSpec.plain.varTypes Tryz.pinned.checked.prog).any (Tryz.pinned.checked.prog.mapsRec ·)) = true := by kernel_rfl
theorem k14 : (Rows.fnExactModelOkRow.ifaces == (Tryz.f3.params.toList ++ Rows.fnExactModelOkSpec.plain.varTypes Tryz.pinned.checked.prog).any (Tryz.pinned.checked.prog.ifacesRec ·)) = true := by kernel_rfl
theorem k15 : (Rows.fnExactModelOkRow.mapsOut == Tryz.pinned.checked.prog.mapsAmong Tryz.f3.resultTypes.toList) = true := by kernel_rfl
theorem k16 : (Rows.fnExactModelOkRow.loops == (Tryz.f3.params.toList ++ Rows.fnExactModelOkSpec.plain.varTypes Tryz.pinned.checked.prog).any (Tryz.pinned.checked.prog.loopsFrom ·)) = true := by kernel_rfl
theorem k17 : (Rows.fnExactModelOkRow.wideKeys == (Tryz.f3.params.toList ++ Rows.fnExactModelOkSpec.plain.varTypes Tryz.pinned.checked.prog ++ Tryz.f3.resultTypes.toList).any (Tryz.pinned.checked.prog.wideKeysFrom ·)) = true := by kernel_rfl
theorem k18 : (Rows.fnExactModelOkSpec.vars.all (Tryz.pinned.checked.prog.varReadable ·)) = true := by kernel_rfl
theorem k19 : (Tryz.f3.resultTypes.all (fun t => Tryz.pinned.checked.prog.readableRec t && decide (t < Tryz.pinned.checked.prog.types.size))) = true := by kernel_rfl
theorem k20 : (Rows.fnExactModelOkRow.ifacesOut == Tryz.f3.resultTypes.toList.any (Tryz.pinned.checked.prog.ifacesRec ·)) = true := by kernel_rfl
theorem k21 : (Rows.fnExactModelOkRow.loopsOut == Tryz.f3.resultTypes.toList.any (Tryz.pinned.checked.prog.loopsFrom ·)) = true := by kernel_rfl
theorem k22 : (Rows.fnExactModelOkRow.plainKeys == Tryz.pinned.checked.prog.plainKeys) = true := by rw [p_keys]; rfl
theorem k23 : (Rows.fnExactModelOkRow.shortTexts.isNone) = true := by kernel_rfl
theorem k26 : (Rows.fnExactModelOkRow.lifted == Tryz.pinned.checked.prog.liftsFinal) = true := by rw [p_lift]; rfl
theorem k27 : (Tryz.pinned.checked.prog.make == some Rows.fnExactModelOkRow.make) = true := by rw [p_make]; rfl
theorem k28 : (Rows.fnExactModelOkRow.kinds == kindsOf Tryz.pinned.checked.prog Tryz.f3 Rows.fnExactModelOkRow) = true := by kernel_rfl
theorem k29 : (Rows.fnExactModelOkRow.pinned == Rows.fnExactModelOkRow.pinnedBy) = true := by kernel_rfl
theorem k30 : (Rows.fnExactModelOkRow.veiled == (Tryz.f3.params.toList ++ Rows.fnExactModelOkSpec.plain.varTypes Tryz.pinned.checked.prog ++ Tryz.f3.resultTypes.toList).any (Tryz.pinned.checked.prog.veiledRec ·)) = true := by kernel_rfl
theorem k31 : (Rows.fnExactModelOkRow.veiledFits Tryz.pinned.checked.prog Tryz.f3.params.toList (Tryz.f3.params.toList ++ Rows.fnExactModelOkSpec.plain.varTypes Tryz.pinned.checked.prog ++ Tryz.f3.resultTypes.toList)) = true := by kernel_rfl
theorem closed : joinedFacts Tryz.pinned.checked.prog 3 Tryz.f3 Rows.fnExactModelOkSpec Rows.fnExactModelOkRow = true :=
 joined_by k0 p_laid p_maps k3 k4 k5 p_stops k7 p_knobs k9 k10 k11 k12 k13 k14 k15 k16 k17 k18 k19 k20 k21 k22 k23 p_heard p_enter k26 k27 k28 k29 k30 k31
theorem func_of : Tryz.pinned.checked.prog.funcNamed Rows.fnExactModelOkRow.func = some 3 := by kernel_rfl
theorem inst : Tryz.f3.isInstance Tryz.pinned.checked.prog Rows.fnExactModelOkRow.origin Rows.fnExactModelOkRow.targs := of_decide_eq_true (by kernel_rfl)
theorem wrap : Tryz.f3.isWrapper Tryz.pinned.checked.prog Rows.fnExactModelOkRow.wrapper Rows.fnExactModelOkRow.mainSum := by
 unfold Func.isWrapper
 first | (rw [if_pos (by decide +kernel)]; kernel_rfl) | (rw [if_neg (by decide +kernel)]; exact ⟨rfl, rfl⟩)
theorem over : Rows.fnExactModelOkRow.holds Tryz.pinned (OpenSpec.ofChange Rows.fnExactModelOkSpec) :=
 OpenClaim.holds_of_wide 3 Tryz.f3 rfl rfl rfl rfl rfl rfl rfl ⟨rfl, rfl, rfl, rfl, rfl⟩ rfl rfl rfl rfl rfl func_of Tryz.func3 closed inst wrap
  (fun os started H enc _ => lifted os started H enc)
theorem proved : Rows.FnExactModelOkSaid := over
#print axioms proved
end Go.Proofs.YteanocjkdehhgaaGreat.fnExactModelOk
