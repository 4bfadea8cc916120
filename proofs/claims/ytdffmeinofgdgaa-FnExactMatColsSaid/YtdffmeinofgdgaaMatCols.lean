/- For every slice of slices of structs of a struct of a bool and a slice of ints and a slice of ints and every slice of ints the law FnExactMatCols returns true: the program's MatCols answers as the reference's does, writes into no argument, and its answer owns its memory; no condition. -/
import Derived.Test.YtdffmeinofgdgaaRows
import Derived.Test.YtdffmeinofgdgaaPff
import Derived.Test.YtdffmeinofgdgaaXlf
import Derived.Test.YtdffmeinofgdgaaOpm
import Derived.WalkKit
import Derived.ProofKit
import Derived.OpenShut
import Derived.ShutString
import Derived.ChangeOld
import Derived.Below
import Derived.Lib.SmallJoins
namespace Go.Proofs.Ytdffmeinofgdgaa.fnExactMatCols
open Go.ChangeShapes Go.WideShapes Go.ChangeAt Go.RowKit
open Go.ChangeMaps (open_string shut_string)
open Go.Joins (open_agg2)
set_option linter.unusedVariables false

theorem own : ownKnob Try.prog.godebug = none := by kernel_rfl
theorem laidOut : laidOutB Try.prog = true := by kernel_rfl

/-- A slice of integers that came in. -/
def IsRow (k : IntKind) (w : World) (a : Option Addr) (len cap : Nat) (zs : List Int) : Prop :=
  (a = none ∧ len = 0 ∧ cap = 0 ∧ zs = []) ∨
  ∃ x, a = some x ∧ len ≤ cap ∧ cap ≤ maxLen ∧ zs.length = cap ∧ (∀ i, i < zs.length → w.cell? (x.add i) = some (.int k (zs.getD i 0))) ∧ ∀ n ∈ zs, (Lit.int k n).wf = true

theorem walk (a0 : Option Addr) (len0 cap0 : Nat) (K0 : List (List Fq)) (m0 : len0 ≤ maxLen) (s0 : MLen K0) (a1 : Option Addr) (len1 cap1 : Nat) (z1 : List Int) (w : World) (w0 : MCame w w.heap.size a0 len0 K0) (w1 : IsRow .i64 w a1 len1 cap1 z1) :
    Calls Try.prog 7 #[.slice a0 len0 cap0, .slice a1 len1 cap1] w fun e w' => e = .returned (.bool true) ∧ Below w.heap.size w w' := by
  obtain ⟨L1, r1, mx1, -⟩ := RowI_came w1
  exact law_MatCols a0 len0 cap0 K0 m0 s0 a1 len1 cap1 L1 (by obtain ⟨h, -⟩ := r1; omega) w w0 (Came.of r1)

set_option maxRecDepth 100000 in
theorem lifted (os : Os) (started : os.Started) (H : Type) (enc : TypeId × Value → H) :
    ReturnsInHanded {} Try.checked os 7 .any (Rows.fnExactMatColsSpec.pre6 enc Try.prog Try.f7 Rows.fnExactMatColsRow.domain false) (Rows.fnExactMatColsSpec.post enc Try.prog Try.f7 false true false false) := by
  refine returnsInHanded_of_change (C := Try.checked) own started (by kernel_rfl) Try.func7
    (ChangeSpec.witness6 (enc := enc) (C := Try.checked) false ⟨#[], #[.slice none 0 0, .slice none 0 0], []⟩ 8 (by kernel_rfl) (by kernel_rfl) (by kernel_rfl) (by kernel_rfl)) ?_
  intro W base args ds gs before hval0 hW hcnd _
  have hval : ∀ (j : Nat) t v, Try.f7.params[j]? = some t → args[j]? = some v → Value.okWide Try.prog W .any base t v := hval0
  have hW' := hW
  obtain ⟨p, q, hA0, hV, rfl, hfz, hnd⟩ := hW
  have hA : DataW.TrodAll enc Try.prog W 0 (fun _ => true) true Try.f7.params.toList args.toList ds p := hA0
  rw [Try.params7] at hA hval
  obtain ⟨v0, vs0, d0, ds0, p0, q0, hargs, rfl, rfl, h0, r0⟩ := trodAll_cons hA
  obtain ⟨v1, vs1, d1, ds1, p1, q1, rfl, rfl, rfl, h1, r1⟩ := trodAll_cons r0
  obtain ⟨rfl, rfl, rfl⟩ := trodAll_nil r1
  obtain rfl : args = #[v0, v1] := by cases args; simp_all
  obtain ⟨rfl, rfl⟩ := trodVars_none hV
  have k0 := h0
  have lt0 : ∀ x ∈ p0, x.block < W.heap.size := by obtain ⟨m, hm⟩ := k0; exact DataW.trod_lt m _ _ _ hm
  obtain ⟨a0, len0, cap0, rfl⟩ := okWide_slice Try.underlying22 (hval 0 22 v0 rfl rfl)
  obtain ⟨m0, K0, w0, s0⟩ := open_mats h0
  have k1 := h1
  have lt1 : ∀ x ∈ p1, x.block < W.heap.size := by obtain ⟨m, hm⟩ := k1; exact DataW.trod_lt m _ _ _ hm
  obtain ⟨a1, len1, cap1, rfl⟩ := okWide_slice Try.underlying35 (hval 1 35 v1 rfl rfl)
  have hs1 := h1
  obtain ⟨z1, w1⟩ : ∃ zs, IsRow .i64 W a1 len1 cap1 zs := by
    obtain ⟨fuel, hf⟩ := hs1
    rcases open_ints Try.underlying35 Try.underlying3 (by kernel_rfl) hf with ⟨hcs, _⟩ | ⟨x, l, c, zs, hcs, _, hl, hm, hz, _, hcell, hwz⟩
    · simp [Value.cells] at hcs
      obtain ⟨rfl, rfl, rfl⟩ := hcs
      exact ⟨[], .inl ⟨rfl, rfl, rfl, rfl⟩⟩
    · simp [Value.cells] at hcs
      obtain ⟨rfl, rfl, rfl⟩ := hcs
      exact ⟨zs, .inr ⟨_, rfl, hl, hm, by simpa using hz, hcell, hwz⟩⟩
  clear hA0 hval0
  refine (walk a0 len0 cap0 K0 m0 s0 a1 len1 cap1 z1 W w0 w1).mono fun e W' ⟨he, bel⟩ => ?_
  subst he
  exact ⟨_, rfl, _, _, _, [], _, [], hW', trodAll_mk1 (shut_bool Try.underlying4 _), (trodAll_cons_mk (Below.trod laidOut (by kernel_rfl) (of_decide_eq_true (by kernel_rfl)) k0 bel lt0) (trodAll_cons_mk (Below.trod laidOut (by kernel_rfl) (of_decide_eq_true (by kernel_rfl)) k1 bel lt1) trodAll_mk0)), rfl, bel.frame _, fun h => by cases h⟩

theorem k0 : (Rows.fnExactMatColsRow.wf (OpenSpec.ofChange Rows.fnExactMatColsSpec)) = true := by kernel_rfl
theorem k3 : (Try.f7.params.all (Try.pinned.checked.prog.readableRec ·)) = true := by kernel_rfl
theorem k4 : (namedTie Try.pinned.checked.prog Rows.fnExactMatColsRow.named Rows.fnExactMatColsSpec.vars) = true := by kernel_rfl
theorem k5 : (Rows.fnExactMatColsRow.stops == []) = true := by kernel_rfl
theorem k7 : (Rows.fnExactMatColsRow.knobs == []) = true := by kernel_rfl
theorem k9 : (Rows.fnExactMatColsRow.inPlace == Try.pinned.checked.prog.inPlace 7) = true := by kernel_rfl
theorem k10 : (Rows.fnExactMatColsRow.unfollowed == Try.pinned.checked.prog.unfollowed 7) = true := by kernel_rfl
theorem k11 : (Rows.fnExactMatColsRow.recurses == Try.pinned.checked.prog.recurses 7) = true := by kernel_rfl
theorem k12 : (Rows.fnExactMatColsRow.named == Try.pinned.checked.prog.varsNamed 7) = true := by kernel_rfl
theorem k13 : (Rows.fnExactMatColsRow.maps == (Try.f7.params.toList ++ Rows.fnExactMatColsSpec.plain.varTypes Try.pinned.checked.prog).any (Try.pinned.checked.prog.mapsRec ·)) = true := by kernel_rfl
theorem k14 : (Rows.fnExactMatColsRow.ifaces == (Try.f7.params.toList ++ Rows.fnExactMatColsSpec.plain.varTypes Try.pinned.checked.prog).any (Try.pinned.checked.prog.ifacesRec ·)) = true := by kernel_rfl
theorem k15 : (Rows.fnExactMatColsRow.mapsOut == Try.pinned.checked.prog.mapsAmong Try.f7.resultTypes.toList) = true := by kernel_rfl
theorem k16 : (Rows.fnExactMatColsRow.loops == (Try.f7.params.toList ++ Rows.fnExactMatColsSpec.plain.varTypes Try.pinned.checked.prog).any (Try.pinned.checked.prog.loopsFrom ·)) = true := by kernel_rfl
theorem k17 : (Rows.fnExactMatColsRow.wideKeys == (Try.f7.params.toList ++ Rows.fnExactMatColsSpec.plain.varTypes Try.pinned.checked.prog ++ Try.f7.resultTypes.toList).any (Try.pinned.checked.prog.wideKeysFrom ·)) = true := by kernel_rfl
theorem k18 : (Rows.fnExactMatColsSpec.vars.all (Try.pinned.checked.prog.varReadable ·)) = true := by kernel_rfl
theorem k19 : (Try.f7.resultTypes.all (fun t => Try.pinned.checked.prog.readableRec t && decide (t < Try.pinned.checked.prog.types.size))) = true := by kernel_rfl
theorem k20 : (Rows.fnExactMatColsRow.ifacesOut == Try.f7.resultTypes.toList.any (Try.pinned.checked.prog.ifacesRec ·)) = true := by kernel_rfl
theorem k21 : (Rows.fnExactMatColsRow.loopsOut == Try.f7.resultTypes.toList.any (Try.pinned.checked.prog.loopsFrom ·)) = true := by kernel_rfl
theorem k22 : (Rows.fnExactMatColsRow.plainKeys == Try.pinned.checked.prog.plainKeys) = true := by rw [p_keys]; rfl
theorem k23 : (Rows.fnExactMatColsRow.shortTexts.isNone) = true := by kernel_rfl
theorem k26 : (Rows.fnExactMatColsRow.lifted == Try.pinned.checked.prog.liftsFinal) = true := by rw [p_lift]; rfl
theorem k27 : (Try.pinned.checked.prog.make == some Rows.fnExactMatColsRow.make) = true := by rw [p_make]; rfl
theorem k28 : (Rows.fnExactMatColsRow.kinds == kindsOf Try.pinned.checked.prog Try.f7 Rows.fnExactMatColsRow) = true := by kernel_rfl
theorem k29 : (Rows.fnExactMatColsRow.pinned == Rows.fnExactMatColsRow.pinnedBy) = true := by kernel_rfl
theorem k30 : (Rows.fnExactMatColsRow.veiled == (Try.f7.params.toList ++ Rows.fnExactMatColsSpec.plain.varTypes Try.pinned.checked.prog ++ Try.f7.resultTypes.toList).any (Try.pinned.checked.prog.veiledRec ·)) = true := by kernel_rfl
theorem k31 : (Rows.fnExactMatColsRow.veiledFits Try.pinned.checked.prog Try.f7.params.toList (Try.f7.params.toList ++ Rows.fnExactMatColsSpec.plain.varTypes Try.pinned.checked.prog ++ Try.f7.resultTypes.toList)) = true := by kernel_rfl
theorem closed : joinedFacts Try.pinned.checked.prog 7 Try.f7 Rows.fnExactMatColsSpec Rows.fnExactMatColsRow = true :=
  joined_by k0 p_laid p_maps k3 k4 k5 p_stops k7 p_knobs k9 k10 k11 k12 k13 k14 k15 k16 k17 k18 k19 k20 k21 k22 k23 p_heard p_enter k26 k27 k28 k29 k30 k31
theorem func_of : Try.pinned.checked.prog.funcNamed Rows.fnExactMatColsRow.func = some 7 := by kernel_rfl
theorem inst : Try.f7.isInstance Try.pinned.checked.prog Rows.fnExactMatColsRow.origin Rows.fnExactMatColsRow.targs := of_decide_eq_true (by kernel_rfl)
theorem wrap : Try.f7.isWrapper Try.pinned.checked.prog Rows.fnExactMatColsRow.wrapper Rows.fnExactMatColsRow.mainSum := by
  unfold Func.isWrapper
  first | (rw [if_pos (by decide +kernel)]; kernel_rfl) | (rw [if_neg (by decide +kernel)]; exact ⟨rfl, rfl⟩)
theorem over : Rows.fnExactMatColsRow.holds Try.pinned (OpenSpec.ofChange Rows.fnExactMatColsSpec) :=
  OpenClaim.holds_of_wide 7 Try.f7 rfl rfl rfl rfl rfl rfl rfl ⟨rfl, rfl, rfl, rfl, rfl⟩ rfl rfl rfl rfl rfl func_of Try.func7 closed inst wrap
    (fun os started H enc _ => lifted os started H enc)

theorem proved : Rows.FnExactMatColsSaid := over
#print axioms proved
end Go.Proofs.Ytdffmeinofgdgaa.fnExactMatCols
