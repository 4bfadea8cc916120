/- For every two structs of a slice of terms, an int and a fraction the law FnExactRowImplies returns true: the program's RowImplies answers as the reference's does and writes into no argument; no condition. -/
import Derived.Test.YthkehmnodcmlcaaGreatRows
import Derived.Test.YthkehmnodcmlcaaGreatPff
import Derived.Test.YthkehmnodcmlcaaGreatRlg
import Derived.Test.YthkehmnodcmlcaaGreatOpr
import Derived.WalkKit
import Derived.ProofKit
import Derived.OpenShut
import Derived.ShutString
import Derived.ChangeOld
import Derived.Below
import Derived.Lib.SmallJoins
namespace Go.Proofs.YthkehmnodcmlcaaGreat.fnExactRowImplies
open Go.ChangeShapes Go.WideShapes Go.ChangeAt Go.RowKit
open Go.ChangeMaps (open_string shut_string)
open Go.Joins (open_agg2)
set_option linter.unusedVariables false

theorem own : ownKnob Tryz.prog.godebug = none := by kernel_rfl
theorem laidOut : laidOutB Tryz.prog = true := by kernel_rfl

/-- A slice of integers that came in. -/
def IsRow (k : IntKind) (w : World) (a : Option Addr) (len cap : Nat) (zs : List Int) : Prop :=
  (a = none ∧ len = 0 ∧ cap = 0 ∧ zs = []) ∨
  ∃ x, a = some x ∧ len ≤ cap ∧ cap ≤ maxLen ∧ zs.length = cap ∧ (∀ i, i < zs.length → w.cell? (x.add i) = some (.int k (zs.getD i 0))) ∧ ∀ n ∈ zs, (Lit.int k n).wf = true

theorem walk (xa0 : Option Addr) (xn0 xc0 : Nat) (xK0 : List Tq) (xz0 : Int) (xs0 : Bool) (xb0 : Option Addr) (xm0 xd0 : Nat) (xA0 : List Int) (xe0 : Option Addr) (xk0 xf0 : Nat) (xD0 : List Int) (hn0 : xn0 ≤ maxLen) (hK0 : ∀ f ∈ xK0, f.A.length ≤ maxLen ∧ f.D.length ≤ maxLen) (hm0 : xm0 ≤ maxLen) (hk0 : xk0 ≤ maxLen) (xa1 : Option Addr) (xn1 xc1 : Nat) (xK1 : List Tq) (xz1 : Int) (xs1 : Bool) (xb1 : Option Addr) (xm1 xd1 : Nat) (xA1 : List Int) (xe1 : Option Addr) (xk1 xf1 : Nat) (xD1 : List Int) (hn1 : xn1 ≤ maxLen) (hK1 : ∀ f ∈ xK1, f.A.length ≤ maxLen ∧ f.D.length ≤ maxLen) (hm1 : xm1 ≤ maxLen) (hk1 : xk1 ≤ maxLen) (w : World) (w0 : WCame w w.heap.size xa0 xn0 xK0 xb0 xm0 xA0 xe0 xk0 xD0) (w1 : WCame w w.heap.size xa1 xn1 xK1 xb1 xm1 xA1 xe1 xk1 xD1) :
    Calls Tryz.prog 9 #[.agg #[.slice xa0 xn0 xc0, .int .i64 xz0, .bool xs0, .slice xb0 xm0 xd0, .slice xe0 xk0 xf0], .agg #[.slice xa1 xn1 xc1, .int .i64 xz1, .bool xs1, .slice xb1 xm1 xd1, .slice xe1 xk1 xf1]] w fun e w' => e = .returned (.bool true) ∧ Below w.heap.size w w' := by
  exact law_RowImplies xa0 xn0 xc0 xK0 xz0 xs0 xb0 xm0 xd0 xA0 xe0 xk0 xf0 xD0 hn0 hK0 hm0 hk0 xa1 xn1 xc1 xK1 xz1 xs1 xb1 xm1 xd1 xA1 xe1 xk1 xf1 xD1 hn1 hK1 hm1 hk1 w w0 w1

set_option maxRecDepth 100000 in
theorem lifted (os : Os) (started : os.Started) (H : Type) (enc : TypeId × Value → H) :
    ReturnsInHanded {} Tryz.checked os 9 .any (Rows.fnExactRowImpliesSpec.pre6 enc Tryz.prog Tryz.f9 Rows.fnExactRowImpliesRow.domain false) (Rows.fnExactRowImpliesSpec.post enc Tryz.prog Tryz.f9 false true false false) := by
  refine returnsInHanded_of_change (C := Tryz.checked) own started (by kernel_rfl) Tryz.func9
    (ChangeSpec.witness6 (enc := enc) (C := Tryz.checked) false ⟨#[], #[.agg #[.slice none 0 0, .int .i64 0, .bool false, .slice none 0 0, .slice none 0 0], .agg #[.slice none 0 0, .int .i64 0, .bool false, .slice none 0 0, .slice none 0 0]], []⟩ 8 (by kernel_rfl) (by kernel_rfl) (by kernel_rfl) (by kernel_rfl)) ?_
  intro W base args ds gs before hval0 hW hcnd _
  have hval : ∀ (j : Nat) t v, Tryz.f9.params[j]? = some t → args[j]? = some v → Value.okWide Tryz.prog W .any base t v := hval0
  have hW' := hW
  obtain ⟨p, q, hA0, hV, rfl, hfz, hnd⟩ := hW
  have hA : DataW.TrodAll enc Tryz.prog W 0 (fun _ => true) true Tryz.f9.params.toList args.toList ds p := hA0
  rw [Tryz.params9] at hA hval
  obtain ⟨v0, vs0, d0, ds0, p0, q0, hargs, rfl, rfl, h0, r0⟩ := trodAll_cons hA
  obtain ⟨v1, vs1, d1, ds1, p1, q1, rfl, rfl, rfl, h1, r1⟩ := trodAll_cons r0
  obtain ⟨rfl, rfl, rfl⟩ := trodAll_nil r1
  obtain rfl : args = #[v0, v1] := by cases args; simp_all
  obtain ⟨rfl, rfl⟩ := trodVars_none hV
  have k0 := h0
  have lt0 : ∀ x ∈ p0, x.block < W.heap.size := by obtain ⟨m, hm⟩ := k0; exact DataW.trod_lt m _ _ _ hm
  obtain ⟨xa0, xn0, xc0, xK0, xz0, xs0, xb0, xm0, xd0, xA0, xe0, xk0, xf0, xD0, rfl, hn0, hK0, hm0, hk0, w0⟩ := open_rowv (hval 0 29 v0 rfl rfl) h0
  have k1 := h1
  have lt1 : ∀ x ∈ p1, x.block < W.heap.size := by obtain ⟨m, hm⟩ := k1; exact DataW.trod_lt m _ _ _ hm
  obtain ⟨xa1, xn1, xc1, xK1, xz1, xs1, xb1, xm1, xd1, xA1, xe1, xk1, xf1, xD1, rfl, hn1, hK1, hm1, hk1, w1⟩ := open_rowv (hval 1 29 v1 rfl rfl) h1
  clear hA0 hval0
  refine (walk xa0 xn0 xc0 xK0 xz0 xs0 xb0 xm0 xd0 xA0 xe0 xk0 xf0 xD0 hn0 hK0 hm0 hk0 xa1 xn1 xc1 xK1 xz1 xs1 xb1 xm1 xd1 xA1 xe1 xk1 xf1 xD1 hn1 hK1 hm1 hk1 W w0 w1).mono fun e W' ⟨he, bel⟩ => ?_
  subst he
  exact ⟨_, rfl, _, _, _, [], _, [], hW', trodAll_mk1 (shut_bool Tryz.underlying4 _), (trodAll_cons_mk (Below.trod laidOut (by kernel_rfl) (of_decide_eq_true (by kernel_rfl)) k0 bel lt0) (trodAll_cons_mk (Below.trod laidOut (by kernel_rfl) (of_decide_eq_true (by kernel_rfl)) k1 bel lt1) trodAll_mk0)), rfl, bel.frame _, fun h => by cases h⟩

theorem k0 : (Rows.fnExactRowImpliesRow.wf (OpenSpec.ofChange Rows.fnExactRowImpliesSpec)) = true := by kernel_rfl
theorem k3 : (Tryz.f9.params.all (Tryz.pinned.checked.prog.readableRec ·)) = true := by kernel_rfl
theorem k4 : (namedTie Tryz.pinned.checked.prog Rows.fnExactRowImpliesRow.named Rows.fnExactRowImpliesSpec.vars) = true := by kernel_rfl
theorem k5 : (Rows.fnExactRowImpliesRow.stops == []) = true := by kernel_rfl
theorem k7 : (Rows.fnExactRowImpliesRow.knobs == []) = true := by kernel_rfl
theorem k9 : (Rows.fnExactRowImpliesRow.inPlace == Tryz.pinned.checked.prog.inPlace 9) = true := by kernel_rfl
theorem k10 : (Rows.fnExactRowImpliesRow.unfollowed == Tryz.pinned.checked.prog.unfollowed 9) = true := by kernel_rfl
theorem k11 : (Rows.fnExactRowImpliesRow.recurses == Tryz.pinned.checked.prog.recurses 9) = true := by kernel_rfl
theorem k12 : (Rows.fnExactRowImpliesRow.named == Tryz.pinned.checked.prog.varsNamed 9) = true := by kernel_rfl
theorem k13 : (Rows.fnExactRowImpliesRow.maps == (Tryz.f9.params.toList ++ Rows.fnExactRowImpliesSpec.plain.varTypes Tryz.pinned.checked.prog).any (Tryz.pinned.checked.prog.mapsRec ·)) = true := by kernel_rfl
theorem k14 : (Rows.fnExactRowImpliesRow.ifaces == (Tryz.f9.params.toList ++ Rows.fnExactRowImpliesSpec.plain.varTypes Tryz.pinned.checked.prog).any (Tryz.pinned.checked.prog.ifacesRec ·)) = true := by kernel_rfl
theorem k15 : (Rows.fnExactRowImpliesRow.mapsOut == Tryz.pinned.checked.prog.mapsAmong Tryz.f9.resultTypes.toList) = true := by kernel_rfl
theorem k16 : (Rows.fnExactRowImpliesRow.loops == (Tryz.f9.params.toList ++ Rows.fnExactRowImpliesSpec.plain.varTypes Tryz.pinned.checked.prog).any (Tryz.pinned.checked.prog.loopsFrom ·)) = true := by kernel_rfl
theorem k17 : (Rows.fnExactRowImpliesRow.wideKeys == (Tryz.f9.params.toList ++ Rows.fnExactRowImpliesSpec.plain.varTypes Tryz.pinned.checked.prog ++ Tryz.f9.resultTypes.toList).any (Tryz.pinned.checked.prog.wideKeysFrom ·)) = true := by kernel_rfl
theorem k18 : (Rows.fnExactRowImpliesSpec.vars.all (Tryz.pinned.checked.prog.varReadable ·)) = true := by kernel_rfl
theorem k19 : (Tryz.f9.resultTypes.all (fun t => Tryz.pinned.checked.prog.readableRec t && decide (t < Tryz.pinned.checked.prog.types.size))) = true := by kernel_rfl
theorem k20 : (Rows.fnExactRowImpliesRow.ifacesOut == Tryz.f9.resultTypes.toList.any (Tryz.pinned.checked.prog.ifacesRec ·)) = true := by kernel_rfl
theorem k21 : (Rows.fnExactRowImpliesRow.loopsOut == Tryz.f9.resultTypes.toList.any (Tryz.pinned.checked.prog.loopsFrom ·)) = true := by kernel_rfl
theorem k22 : (Rows.fnExactRowImpliesRow.plainKeys == Tryz.pinned.checked.prog.plainKeys) = true := by rw [p_keys]; rfl
theorem k23 : (Rows.fnExactRowImpliesRow.shortTexts.isNone) = true := by kernel_rfl
theorem k26 : (Rows.fnExactRowImpliesRow.lifted == Tryz.pinned.checked.prog.liftsFinal) = true := by rw [p_lift]; rfl
theorem k27 : (Tryz.pinned.checked.prog.make == some Rows.fnExactRowImpliesRow.make) = true := by rw [p_make]; rfl
theorem k28 : (Rows.fnExactRowImpliesRow.kinds == kindsOf Tryz.pinned.checked.prog Tryz.f9 Rows.fnExactRowImpliesRow) = true := by kernel_rfl
theorem k29 : (Rows.fnExactRowImpliesRow.pinned == Rows.fnExactRowImpliesRow.pinnedBy) = true := by kernel_rfl
theorem k30 : (Rows.fnExactRowImpliesRow.veiled == (Tryz.f9.params.toList ++ Rows.fnExactRowImpliesSpec.plain.varTypes Tryz.pinned.checked.prog ++ Tryz.f9.resultTypes.toList).any (Tryz.pinned.checked.prog.veiledRec ·)) = true := by kernel_rfl
theorem k31 : (Rows.fnExactRowImpliesRow.veiledFits Tryz.pinned.checked.prog Tryz.f9.params.toList (Tryz.f9.params.toList ++ Rows.fnExactRowImpliesSpec.plain.varTypes Tryz.pinned.checked.prog ++ Tryz.f9.resultTypes.toList)) = true := by kernel_rfl
theorem closed : joinedFacts Tryz.pinned.checked.prog 9 Tryz.f9 Rows.fnExactRowImpliesSpec Rows.fnExactRowImpliesRow = true :=
  joined_by k0 p_laid p_maps k3 k4 k5 p_stops k7 p_knobs k9 k10 k11 k12 k13 k14 k15 k16 k17 k18 k19 k20 k21 k22 k23 p_heard p_enter k26 k27 k28 k29 k30 k31
theorem func_of : Tryz.pinned.checked.prog.funcNamed Rows.fnExactRowImpliesRow.func = some 9 := by kernel_rfl
theorem inst : Tryz.f9.isInstance Tryz.pinned.checked.prog Rows.fnExactRowImpliesRow.origin Rows.fnExactRowImpliesRow.targs := of_decide_eq_true (by kernel_rfl)
theorem wrap : Tryz.f9.isWrapper Tryz.pinned.checked.prog Rows.fnExactRowImpliesRow.wrapper Rows.fnExactRowImpliesRow.mainSum := by
  unfold Func.isWrapper
  first | (rw [if_pos (by decide +kernel)]; kernel_rfl) | (rw [if_neg (by decide +kernel)]; exact ⟨rfl, rfl⟩)
theorem over : Rows.fnExactRowImpliesRow.holds Tryz.pinned (OpenSpec.ofChange Rows.fnExactRowImpliesSpec) :=
  OpenClaim.holds_of_wide 9 Tryz.f9 rfl rfl rfl rfl rfl rfl rfl ⟨rfl, rfl, rfl, rfl, rfl⟩ rfl rfl rfl rfl rfl func_of Tryz.func9 closed inst wrap
    (fun os started H enc _ => lifted os started H enc)

theorem proved : Rows.FnExactRowImpliesSaid := over
#print axioms proved
end Go.Proofs.YthkehmnodcmlcaaGreat.fnExactRowImplies
