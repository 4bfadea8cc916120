/- For every struct of a slice of terms, an int and a fraction the law FnExactRowNegate returns true: the program's RowNegate answers as the reference's does, writes into no argument, and its answer owns its memory; no condition. -/
import Derived.Test.YthkehmnodcmlcaaGreatRows
import Derived.Test.YthkehmnodcmlcaaGreatPffP
import Derived.Test.YthkehmnodcmlcaaGreatRleP
import Derived.Test.YthkehmnodcmlcaaGreatOprP
import Derived.WalkKit
import Derived.ProofKit
import Derived.OpenShut
import Derived.ShutString
import Derived.ChangeOld
import Derived.Below
import Derived.Lib.SmallJoins
namespace Go.Proofs.YthkehmnodcmlcaaGreat.fnExactRowNegate
open Go.ChangeShapes Go.WideShapes Go.ChangeAt Go.RowKit
open Go.ChangeMaps (open_string shut_string)
open Go.Joins (open_agg2)
set_option linter.unusedVariables false

theorem own : ownKnob Tryz.prog.godebug = none := by kernel_rfl
theorem laidOut : laidOutB Tryz.prog = true := by kernel_rfl

/-- A slice of integers that came in. -/
def IsRow (k : IntKind) (w : World) (a : Option Addr) (len cap : Nat) (zs : List Int) : Prop :=
  (a = none ∧ len = 0 ∧ cap = 0 ∧ zs = []) ∨
  ∃ x, a = some x ∧ len ≤ cap ∧ cap ≤ maxLen ∧ zs.length = cap ∧ (∀ i, i < zs.length → w.cell? (x.add i) = some (.int k (zs.getD i 0))) ∧ ∀ n ∈ zs, (Lit.int k n).wf = true

theorem walk (xa0 : Option Addr) (xn0 xc0 : Nat) (xK0 : List Tq) (xz0 : Int) (xs0 : Bool) (xb0 : Option Addr) (xm0 xd0 : Nat) (xA0 : List Int) (xe0 : Option Addr) (xk0 xf0 : Nat) (xD0 : List Int) (hn0 : xn0 ≤ maxLen) (hK0 : ∀ f ∈ xK0, f.A.length ≤ maxLen ∧ f.D.length ≤ maxLen) (hm0 : xm0 ≤ maxLen) (hk0 : xk0 ≤ maxLen) (w : World) (w0 : WCame w w.heap.size xa0 xn0 xK0 xb0 xm0 xA0 xe0 xk0 xD0) :
    Calls Tryz.prog 6 #[.agg #[.slice xa0 xn0 xc0, .int .i64 xz0, .bool xs0, .slice xb0 xm0 xd0, .slice xe0 xk0 xf0]] w fun e w' => e = .returned (.bool true) ∧ Below w.heap.size w w' := by
  exact law_RowNegate xa0 xn0 xc0 xK0 xz0 xs0 xb0 xm0 xd0 xA0 xe0 xk0 xf0 xD0 hn0 hK0 hm0 hk0 w w0

set_option maxRecDepth 100000 in
theorem lifted (os : Os) (started : os.Started) (H : Type) (enc : TypeId × Value → H) :
    ReturnsInHanded {} Tryz.checked os 6 .any (Rows.fnExactRowNegateSpec.pre6 enc Tryz.prog Tryz.f6 Rows.fnExactRowNegateRow.domain false) (Rows.fnExactRowNegateSpec.post enc Tryz.prog Tryz.f6 false true false false) := by
  refine returnsInHanded_of_change (C := Tryz.checked) own started (by kernel_rfl) Tryz.func6
    (ChangeSpec.witness6 (enc := enc) (C := Tryz.checked) false ⟨#[], #[.agg #[.slice none 0 0, .int .i64 0, .bool false, .slice none 0 0, .slice none 0 0]], []⟩ 8 (by kernel_rfl) (by kernel_rfl) (by kernel_rfl) (by kernel_rfl)) ?_
  intro W base args ds gs before hval0 hW hcnd _
  have hval : ∀ (j : Nat) t v, Tryz.f6.params[j]? = some t → args[j]? = some v → Value.okWide Tryz.prog W .any base t v := hval0
  have hW' := hW
  obtain ⟨p, q, hA0, hV, rfl, hfz, hnd⟩ := hW
  have hA : DataW.TrodAll enc Tryz.prog W 0 (fun _ => true) true Tryz.f6.params.toList args.toList ds p := hA0
  rw [Tryz.params6] at hA hval
  obtain ⟨v0, vs0, d0, ds0, p0, q0, hargs, rfl, rfl, h0, r0⟩ := trodAll_cons hA
  obtain ⟨rfl, rfl, rfl⟩ := trodAll_nil r0
  obtain rfl : args = #[v0] := by cases args; simp_all
  obtain ⟨rfl, rfl⟩ := trodVars_none hV
  have k0 := h0
  have lt0 : ∀ x ∈ p0, x.block < W.heap.size := by obtain ⟨m, hm⟩ := k0; exact DataW.trod_lt m _ _ _ hm
  obtain ⟨xa0, xn0, xc0, xK0, xz0, xs0, xb0, xm0, xd0, xA0, xe0, xk0, xf0, xD0, rfl, hn0, hK0, hm0, hk0, w0⟩ := open_rowv (hval 0 29 v0 rfl rfl) h0
  clear hA0 hval0
  refine (walk xa0 xn0 xc0 xK0 xz0 xs0 xb0 xm0 xd0 xA0 xe0 xk0 xf0 xD0 hn0 hK0 hm0 hk0 W w0).mono fun e W' ⟨he, bel⟩ => ?_
  subst he
  exact ⟨_, rfl, _, _, _, [], _, [], hW', trodAll_mk1 (shut_bool Tryz.underlying4 _), (trodAll_cons_mk (Below.trod laidOut (by kernel_rfl) (of_decide_eq_true (by kernel_rfl)) k0 bel lt0) trodAll_mk0), rfl, bel.frame _, fun h => by cases h⟩

theorem k0 : (Rows.fnExactRowNegateRow.wf (OpenSpec.ofChange Rows.fnExactRowNegateSpec)) = true := by kernel_rfl
theorem k3 : (Tryz.f6.params.all (Tryz.pinned.checked.prog.readableRec ·)) = true := by kernel_rfl
theorem k4 : (namedTie Tryz.pinned.checked.prog Rows.fnExactRowNegateRow.named Rows.fnExactRowNegateSpec.vars) = true := by kernel_rfl
theorem k5 : (Rows.fnExactRowNegateRow.stops == []) = true := by kernel_rfl
theorem k7 : (Rows.fnExactRowNegateRow.knobs == []) = true := by kernel_rfl
theorem k9 : (Rows.fnExactRowNegateRow.inPlace == Tryz.pinned.checked.prog.inPlace 6) = true := by kernel_rfl
theorem k10 : (Rows.fnExactRowNegateRow.unfollowed == Tryz.pinned.checked.prog.unfollowed 6) = true := by kernel_rfl
theorem k11 : (Rows.fnExactRowNegateRow.recurses == Tryz.pinned.checked.prog.recurses 6) = true := by kernel_rfl
theorem k12 : (Rows.fnExactRowNegateRow.named == Tryz.pinned.checked.prog.varsNamed 6) = true := by kernel_rfl
theorem k13 : (Rows.fnExactRowNegateRow.maps == (Tryz.f6.params.toList ++ Rows.fnExactRowNegateSpec.plain.varTypes Tryz.pinned.checked.prog).any (Tryz.pinned.checked.prog.mapsRec ·)) = true := by kernel_rfl
theorem k14 : (Rows.fnExactRowNegateRow.ifaces == (Tryz.f6.params.toList ++ Rows.fnExactRowNegateSpec.plain.varTypes Tryz.pinned.checked.prog).any (Tryz.pinned.checked.prog.ifacesRec ·)) = true := by kernel_rfl
theorem k15 : (Rows.fnExactRowNegateRow.mapsOut == Tryz.pinned.checked.prog.mapsAmong Tryz.f6.resultTypes.toList) = true := by kernel_rfl
theorem k16 : (Rows.fnExactRowNegateRow.loops == (Tryz.f6.params.toList ++ Rows.fnExactRowNegateSpec.plain.varTypes Tryz.pinned.checked.prog).any (Tryz.pinned.checked.prog.loopsFrom ·)) = true := by kernel_rfl
theorem k17 : (Rows.fnExactRowNegateRow.wideKeys == (Tryz.f6.params.toList ++ Rows.fnExactRowNegateSpec.plain.varTypes Tryz.pinned.checked.prog ++ Tryz.f6.resultTypes.toList).any (Tryz.pinned.checked.prog.wideKeysFrom ·)) = true := by kernel_rfl
theorem k18 : (Rows.fnExactRowNegateSpec.vars.all (Tryz.pinned.checked.prog.varReadable ·)) = true := by kernel_rfl
theorem k19 : (Tryz.f6.resultTypes.all (fun t => Tryz.pinned.checked.prog.readableRec t && decide (t < Tryz.pinned.checked.prog.types.size))) = true := by kernel_rfl
theorem k20 : (Rows.fnExactRowNegateRow.ifacesOut == Tryz.f6.resultTypes.toList.any (Tryz.pinned.checked.prog.ifacesRec ·)) = true := by kernel_rfl
theorem k21 : (Rows.fnExactRowNegateRow.loopsOut == Tryz.f6.resultTypes.toList.any (Tryz.pinned.checked.prog.loopsFrom ·)) = true := by kernel_rfl
theorem k22 : (Rows.fnExactRowNegateRow.plainKeys == Tryz.pinned.checked.prog.plainKeys) = true := by rw [p_keys]; rfl
theorem k23 : (Rows.fnExactRowNegateRow.shortTexts.isNone) = true := by kernel_rfl
theorem k26 : (Rows.fnExactRowNegateRow.lifted == Tryz.pinned.checked.prog.liftsFinal) = true := by rw [p_lift]; rfl
theorem k27 : (Tryz.pinned.checked.prog.make == some Rows.fnExactRowNegateRow.make) = true := by rw [p_make]; rfl
theorem k28 : (Rows.fnExactRowNegateRow.kinds == kindsOf Tryz.pinned.checked.prog Tryz.f6 Rows.fnExactRowNegateRow) = true := by kernel_rfl
theorem k29 : (Rows.fnExactRowNegateRow.pinned == Rows.fnExactRowNegateRow.pinnedBy) = true := by kernel_rfl
theorem k30 : (Rows.fnExactRowNegateRow.veiled == (Tryz.f6.params.toList ++ Rows.fnExactRowNegateSpec.plain.varTypes Tryz.pinned.checked.prog ++ Tryz.f6.resultTypes.toList).any (Tryz.pinned.checked.prog.veiledRec ·)) = true := by kernel_rfl
theorem k31 : (Rows.fnExactRowNegateRow.veiledFits Tryz.pinned.checked.prog Tryz.f6.params.toList (Tryz.f6.params.toList ++ Rows.fnExactRowNegateSpec.plain.varTypes Tryz.pinned.checked.prog ++ Tryz.f6.resultTypes.toList)) = true := by kernel_rfl
theorem closed : joinedFacts Tryz.pinned.checked.prog 6 Tryz.f6 Rows.fnExactRowNegateSpec Rows.fnExactRowNegateRow = true :=
  joined_by k0 p_laid p_maps k3 k4 k5 p_stops k7 p_knobs k9 k10 k11 k12 k13 k14 k15 k16 k17 k18 k19 k20 k21 k22 k23 p_heard p_enter k26 k27 k28 k29 k30 k31
theorem func_of : Tryz.pinned.checked.prog.funcNamed Rows.fnExactRowNegateRow.func = some 6 := by kernel_rfl
theorem inst : Tryz.f6.isInstance Tryz.pinned.checked.prog Rows.fnExactRowNegateRow.origin Rows.fnExactRowNegateRow.targs := of_decide_eq_true (by kernel_rfl)
theorem wrap : Tryz.f6.isWrapper Tryz.pinned.checked.prog Rows.fnExactRowNegateRow.wrapper Rows.fnExactRowNegateRow.mainSum := by
  unfold Func.isWrapper
  first | (rw [if_pos (by decide +kernel)]; kernel_rfl) | (rw [if_neg (by decide +kernel)]; exact ⟨rfl, rfl⟩)
theorem over : Rows.fnExactRowNegateRow.holds Tryz.pinned (OpenSpec.ofChange Rows.fnExactRowNegateSpec) :=
  OpenClaim.holds_of_wide 6 Tryz.f6 rfl rfl rfl rfl rfl rfl rfl ⟨rfl, rfl, rfl, rfl, rfl⟩ rfl rfl rfl rfl rfl func_of Tryz.func6 closed inst wrap
    (fun os started H enc _ => lifted os started H enc)

theorem proved : Rows.FnExactRowNegateSaid := over
#print axioms proved
end Go.Proofs.YthkehmnodcmlcaaGreat.fnExactRowNegate
