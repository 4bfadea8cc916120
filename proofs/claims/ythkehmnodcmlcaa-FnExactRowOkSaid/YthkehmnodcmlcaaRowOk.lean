/- For every struct of a slice of terms, an int and a fraction and every int the law FnExactRowOk returns true: the program's RowOk answers as the reference's does and writes into no argument; no condition. -/
import Derived.Test.YthkehmnodcmlcaaRows
import Derived.Test.YthkehmnodcmlcaaPff
import Derived.Test.YthkehmnodcmlcaaRla
import Derived.Test.YthkehmnodcmlcaaOpr
import Derived.WalkKit
import Derived.ProofKit
import Derived.OpenShut
import Derived.ShutString
import Derived.ChangeOld
import Derived.Below
import Derived.Lib.SmallJoins
namespace Go.Proofs.Ythkehmnodcmlcaa.fnExactRowOk
open Go.ChangeShapes Go.WideShapes Go.ChangeAt Go.RowKit
open Go.ChangeMaps (open_string shut_string)
open Go.Joins (open_agg2)
set_option linter.unusedVariables false

theorem own : ownKnob Try.prog.godebug = none := by kernel_rfl
theorem laidOut : laidOutB Try.prog = true := by kernel_rfl

/-- A slice of integers that came in. -/
def IsRow (k : IntKind) (w : World) (a : Option Addr) (len cap : Nat) (zs : List Int) : Prop :=
  (a = none ∧ len = 0 ∧ cap = 0 ∧ zs = []) ∨
  ∃ x, a = some x ∧ len ≤ cap ∧ cap ≤ maxLen ∧ zs.length = cap ∧ (∀ i, i < zs.length → w.cell? (x.add i) = some (.int k (zs.getD i 0))) ∧ ∀ n ∈ zs, (Lit.int k n).wf = true

theorem walk (xa0 : Option Addr) (xn0 xc0 : Nat) (xK0 : List Tq) (xz0 : Int) (xs0 : Bool) (xb0 : Option Addr) (xm0 xd0 : Nat) (xA0 : List Int) (xe0 : Option Addr) (xk0 xf0 : Nat) (xD0 : List Int) (hn0 : xn0 ≤ maxLen) (hK0 : ∀ f ∈ xK0, f.A.length ≤ maxLen ∧ f.D.length ≤ maxLen) (hm0 : xm0 ≤ maxLen) (hk0 : xk0 ≤ maxLen) (a1 : Int) (w : World) (w0 : WCame w w.heap.size xa0 xn0 xK0 xb0 xm0 xA0 xe0 xk0 xD0) (w1 : (Lit.int .i64 a1).wf = true) :
    Calls Try.prog 3 #[.agg #[.slice xa0 xn0 xc0, .int .i64 xz0, .bool xs0, .slice xb0 xm0 xd0, .slice xe0 xk0 xf0], .int .i64 a1] w fun e w' => e = .returned (.bool true) ∧ Below w.heap.size w w' := by
  exact law_RowOk xa0 xn0 xc0 xK0 xz0 xs0 xb0 xm0 xd0 xA0 xe0 xk0 xf0 xD0 hn0 hK0 hm0 hk0 a1 (by have h := w1; simp only [Lit.wf, Bool.and_eq_true, decide_eq_true_eq] at h; exact h.1) (by have h := w1; simp only [Lit.wf, Bool.and_eq_true, decide_eq_true_eq] at h; exact h.2) w w0

set_option maxRecDepth 100000 in
theorem lifted (os : Os) (started : os.Started) (H : Type) (enc : TypeId × Value → H) :
    ReturnsInHanded {} Try.checked os 3 .any (Rows.fnExactRowOkSpec.pre6 enc Try.prog Try.f3 Rows.fnExactRowOkRow.domain false) (Rows.fnExactRowOkSpec.post enc Try.prog Try.f3 false true false false) := by
  refine returnsInHanded_of_change (C := Try.checked) own started (by kernel_rfl) Try.func3
    (ChangeSpec.witness6 (enc := enc) (C := Try.checked) false ⟨#[], #[.agg #[.slice none 0 0, .int .i64 0, .bool false, .slice none 0 0, .slice none 0 0], .int .i64 0], []⟩ 8 (by kernel_rfl) (by kernel_rfl) (by kernel_rfl) (by kernel_rfl)) ?_
  intro W base args ds gs before hval0 hW hcnd _
  have hval : ∀ (j : Nat) t v, Try.f3.params[j]? = some t → args[j]? = some v → Value.okWide Try.prog W .any base t v := hval0
  have hW' := hW
  obtain ⟨p, q, hA0, hV, rfl, hfz, hnd⟩ := hW
  have hA : DataW.TrodAll enc Try.prog W 0 (fun _ => true) true Try.f3.params.toList args.toList ds p := hA0
  rw [Try.params3] at hA hval
  obtain ⟨v0, vs0, d0, ds0, p0, q0, hargs, rfl, rfl, h0, r0⟩ := trodAll_cons hA
  obtain ⟨v1, vs1, d1, ds1, p1, q1, rfl, rfl, rfl, h1, r1⟩ := trodAll_cons r0
  obtain ⟨rfl, rfl, rfl⟩ := trodAll_nil r1
  obtain rfl : args = #[v0, v1] := by cases args; simp_all
  obtain ⟨rfl, rfl⟩ := trodVars_none hV
  have k0 := h0
  have lt0 : ∀ x ∈ p0, x.block < W.heap.size := by obtain ⟨m, hm⟩ := k0; exact DataW.trod_lt m _ _ _ hm
  obtain ⟨xa0, xn0, xc0, xK0, xz0, xs0, xb0, xm0, xd0, xA0, xe0, xk0, xf0, xD0, rfl, hn0, hK0, hm0, hk0, w0⟩ := open_rowv (hval 0 29 v0 rfl rfl) h0
  obtain ⟨a1, rfl, rfl, rfl, w1⟩ := open_int Try.underlying3 (hval 1 3 v1 rfl rfl) h1
  clear hA0 hval0
  simp only [List.append_nil] at hW'
  refine (walk xa0 xn0 xc0 xK0 xz0 xs0 xb0 xm0 xd0 xA0 xe0 xk0 xf0 xD0 hn0 hK0 hm0 hk0 a1 W w0 w1).mono fun e W' ⟨he, bel⟩ => ?_
  subst he
  exact ⟨_, rfl, _, _, _, [], _, [], hW', trodAll_mk1 (shut_bool Try.underlying4 _), (trodAll_cons_mk (Below.trod laidOut (by kernel_rfl) (of_decide_eq_true (by kernel_rfl)) k0 bel lt0) (trodAll_cons_mk (shut_int Try.underlying3 w1) trodAll_mk0)), rfl, bel.frame _, fun h => by cases h⟩

theorem k0 : (Rows.fnExactRowOkRow.wf (OpenSpec.ofChange Rows.fnExactRowOkSpec)) = true := by kernel_rfl
theorem k3 : (Try.f3.params.all (Try.pinned.checked.prog.readableRec ·)) = true := by kernel_rfl
theorem k4 : (namedTie Try.pinned.checked.prog Rows.fnExactRowOkRow.named Rows.fnExactRowOkSpec.vars) = true := by kernel_rfl
theorem k5 : (Rows.fnExactRowOkRow.stops == []) = true := by kernel_rfl
theorem k7 : (Rows.fnExactRowOkRow.knobs == []) = true := by kernel_rfl
theorem k9 : (Rows.fnExactRowOkRow.inPlace == Try.pinned.checked.prog.inPlace 3) = true := by kernel_rfl
theorem k10 : (Rows.fnExactRowOkRow.unfollowed == Try.pinned.checked.prog.unfollowed 3) = true := by kernel_rfl
theorem k11 : (Rows.fnExactRowOkRow.recurses == Try.pinned.checked.prog.recurses 3) = true := by kernel_rfl
theorem k12 : (Rows.fnExactRowOkRow.named == Try.pinned.checked.prog.varsNamed 3) = true := by kernel_rfl
theorem k13 : (Rows.fnExactRowOkRow.maps == (Try.f3.params.toList ++ Rows.fnExactRowOkSpec.plain.varTypes Try.pinned.checked.prog).any (Try.pinned.checked.prog.mapsRec ·)) = true := by kernel_rfl
theorem k14 : (Rows.fnExactRowOkRow.ifaces == (Try.f3.params.toList ++ Rows.fnExactRowOkSpec.plain.varTypes Try.pinned.checked.prog).any (Try.pinned.checked.prog.ifacesRec ·)) = true := by kernel_rfl
theorem k15 : (Rows.fnExactRowOkRow.mapsOut == Try.pinned.checked.prog.mapsAmong Try.f3.resultTypes.toList) = true := by kernel_rfl
theorem k16 : (Rows.fnExactRowOkRow.loops == (Try.f3.params.toList ++ Rows.fnExactRowOkSpec.plain.varTypes Try.pinned.checked.prog).any (Try.pinned.checked.prog.loopsFrom ·)) = true := by kernel_rfl
theorem k17 : (Rows.fnExactRowOkRow.wideKeys == (Try.f3.params.toList ++ Rows.fnExactRowOkSpec.plain.varTypes Try.pinned.checked.prog ++ Try.f3.resultTypes.toList).any (Try.pinned.checked.prog.wideKeysFrom ·)) = true := by kernel_rfl
theorem k18 : (Rows.fnExactRowOkSpec.vars.all (Try.pinned.checked.prog.varReadable ·)) = true := by kernel_rfl
theorem k19 : (Try.f3.resultTypes.all (fun t => Try.pinned.checked.prog.readableRec t && decide (t < Try.pinned.checked.prog.types.size))) = true := by kernel_rfl
theorem k20 : (Rows.fnExactRowOkRow.ifacesOut == Try.f3.resultTypes.toList.any (Try.pinned.checked.prog.ifacesRec ·)) = true := by kernel_rfl
theorem k21 : (Rows.fnExactRowOkRow.loopsOut == Try.f3.resultTypes.toList.any (Try.pinned.checked.prog.loopsFrom ·)) = true := by kernel_rfl
theorem k22 : (Rows.fnExactRowOkRow.plainKeys == Try.pinned.checked.prog.plainKeys) = true := by rw [p_keys]; rfl
theorem k23 : (Rows.fnExactRowOkRow.shortTexts.isNone) = true := by kernel_rfl
theorem k26 : (Rows.fnExactRowOkRow.lifted == Try.pinned.checked.prog.liftsFinal) = true := by rw [p_lift]; rfl
theorem k27 : (Try.pinned.checked.prog.make == some Rows.fnExactRowOkRow.make) = true := by rw [p_make]; rfl
theorem k28 : (Rows.fnExactRowOkRow.kinds == kindsOf Try.pinned.checked.prog Try.f3 Rows.fnExactRowOkRow) = true := by kernel_rfl
theorem k29 : (Rows.fnExactRowOkRow.pinned == Rows.fnExactRowOkRow.pinnedBy) = true := by kernel_rfl
theorem k30 : (Rows.fnExactRowOkRow.veiled == (Try.f3.params.toList ++ Rows.fnExactRowOkSpec.plain.varTypes Try.pinned.checked.prog ++ Try.f3.resultTypes.toList).any (Try.pinned.checked.prog.veiledRec ·)) = true := by kernel_rfl
theorem k31 : (Rows.fnExactRowOkRow.veiledFits Try.pinned.checked.prog Try.f3.params.toList (Try.f3.params.toList ++ Rows.fnExactRowOkSpec.plain.varTypes Try.pinned.checked.prog ++ Try.f3.resultTypes.toList)) = true := by kernel_rfl
theorem closed : joinedFacts Try.pinned.checked.prog 3 Try.f3 Rows.fnExactRowOkSpec Rows.fnExactRowOkRow = true :=
  joined_by k0 p_laid p_maps k3 k4 k5 p_stops k7 p_knobs k9 k10 k11 k12 k13 k14 k15 k16 k17 k18 k19 k20 k21 k22 k23 p_heard p_enter k26 k27 k28 k29 k30 k31
theorem func_of : Try.pinned.checked.prog.funcNamed Rows.fnExactRowOkRow.func = some 3 := by kernel_rfl
theorem inst : Try.f3.isInstance Try.pinned.checked.prog Rows.fnExactRowOkRow.origin Rows.fnExactRowOkRow.targs := of_decide_eq_true (by kernel_rfl)
theorem wrap : Try.f3.isWrapper Try.pinned.checked.prog Rows.fnExactRowOkRow.wrapper Rows.fnExactRowOkRow.mainSum := by
  unfold Func.isWrapper
  first | (rw [if_pos (by decide +kernel)]; kernel_rfl) | (rw [if_neg (by decide +kernel)]; exact ⟨rfl, rfl⟩)
theorem over : Rows.fnExactRowOkRow.holds Try.pinned (OpenSpec.ofChange Rows.fnExactRowOkSpec) :=
  OpenClaim.holds_of_wide 3 Try.f3 rfl rfl rfl rfl rfl rfl rfl ⟨rfl, rfl, rfl, rfl, rfl⟩ rfl rfl rfl rfl rfl func_of Try.func3 closed inst wrap
    (fun os started H enc _ => lifted os started H enc)

theorem proved : Rows.FnExactRowOkSaid := over
#print axioms proved
end Go.Proofs.Ythkehmnodcmlcaa.fnExactRowOk
