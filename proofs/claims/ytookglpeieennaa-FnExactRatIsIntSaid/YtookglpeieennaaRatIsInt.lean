/- For every struct of a struct of a bool and a slice of ints and a slice of ints the law FnExactRatIsInt returns true: the program's RatIsInt answers as the reference's does and writes into no argument; no condition. -/
import Derived.Test.YtookglpeieennaaRows
import Derived.Test.YtookglpeieennaaPff
import Derived.Test.YtookglpeieennaaLa
import Derived.Test.YtookglpeieennaaOpn
import Derived.WalkKit
import Derived.ProofKit
import Derived.OpenShut
import Derived.ShutString
import Derived.ChangeOld
import Derived.Below
import Derived.Lib.SmallJoins
namespace Go.Proofs.Ytookglpeieennaa.fnExactRatIsInt
open Go.ChangeShapes Go.WideShapes Go.ChangeAt Go.RowKit
open Go.ChangeMaps (open_string shut_string)
open Go.Joins (open_agg2)
set_option linter.unusedVariables false

theorem own : ownKnob Try.prog.godebug = none := by kernel_rfl
theorem laidOut : laidOutB Try.prog = true := by kernel_rfl

/-- A slice of integers that came in. -/
def IsRow (k : IntKind) (w : World) (a : Option Addr) (len cap : Nat) (zs : List Int) : Prop :=
  (a = none ∧ len = 0 ∧ cap = 0 ∧ zs = []) ∨
  ∃ x, a = some x ∧ len ≤ cap ∧ cap ≤ maxLen ∧ zs.length = cap ∧ (∀ i, i < zs.length → w.cell? (x.add i) = some (.int k (zs.getD i 0))) ∧ ∀ n ∈ zs, (Lit.int k n).wf = true

theorem walk (s0 : Bool) (a0 : Option Addr) (len0 cap0 : Nat) (z0 : List Int) (b0 : Option Addr) (ken0 dap0 : Nat) (y0 : List Int) (w : World) (w0 : IsRow .i64 w a0 len0 cap0 z0) (x0 : IsRow .i64 w b0 ken0 dap0 y0) :
    Calls Try.prog 6 #[.agg #[.bool s0, .slice a0 len0 cap0, .slice b0 ken0 dap0]] w fun e w' => e = .returned (.bool true) ∧ Below w.heap.size w w' := by
  obtain ⟨L0, r0, m0, -⟩ := RowI_came w0
  obtain ⟨D0, p0, k0, -⟩ := RowI_came x0
  exact law_RatIsInt s0 a0 len0 cap0 L0 b0 ken0 dap0 D0 m0 k0 w r0 p0

set_option maxRecDepth 100000 in
theorem lifted (os : Os) (started : os.Started) (H : Type) (enc : TypeId × Value → H) :
    ReturnsInHanded {} Try.checked os 6 .any (Rows.fnExactRatIsIntSpec.pre6 enc Try.prog Try.f6 Rows.fnExactRatIsIntRow.domain false) (Rows.fnExactRatIsIntSpec.post enc Try.prog Try.f6 false true false false) := by
  refine returnsInHanded_of_change (C := Try.checked) own started (by kernel_rfl) Try.func6
    (ChangeSpec.witness6 (enc := enc) (C := Try.checked) false ⟨#[], #[.agg #[.bool false, .slice none 0 0, .slice none 0 0]], []⟩ 8 (by kernel_rfl) (by kernel_rfl) (by kernel_rfl) (by kernel_rfl)) ?_
  intro W base args ds gs before hval0 hW hcnd _
  have hval : ∀ (j : Nat) t v, Try.f6.params[j]? = some t → args[j]? = some v → Value.okWide Try.prog W .any base t v := hval0
  have hW' := hW
  obtain ⟨p, q, hA0, hV, rfl, hfz, hnd⟩ := hW
  have hA : DataW.TrodAll enc Try.prog W 0 (fun _ => true) true Try.f6.params.toList args.toList ds p := hA0
  rw [Try.params6] at hA hval
  obtain ⟨v0, vs0, d0, ds0, p0, q0, hargs, rfl, rfl, h0, r0⟩ := trodAll_cons hA
  obtain ⟨rfl, rfl, rfl⟩ := trodAll_nil r0
  obtain rfl : args = #[v0] := by cases args; simp_all
  obtain ⟨rfl, rfl⟩ := trodVars_none hV
  have k0 := h0
  have lt0 : ∀ x ∈ p0, x.block < W.heap.size := by obtain ⟨m, hm⟩ := k0; exact DataW.trod_lt m _ _ _ hm
  obtain ⟨c00, c01, c02, y00, y01, y02, m0, m0x, rfl, hy00, hy01, hy02⟩ := open_rat Try.underlying39 Try.underlying37 (by refine ⟨rfl, ?_, rfl, ?_, rfl, ?_, rfl, ?_⟩ <;> kernel_rfl) (by kernel_rfl) (hval 0 39 v0 rfl rfl) h0
  obtain ⟨s0, hb0, -⟩ := DataW.trod_bool Try.underlying4 hy00
  obtain rfl : c00 = .bool s0 := by simpa using hb0
  obtain ⟨a0, len0, cap0, hc0⟩ := Go.Joins.slice_form Try.underlying25 hy01
  obtain rfl : c01 = .slice a0 len0 cap0 := by simpa using hc0
  obtain ⟨b0, ken0, dap0, he0⟩ := Go.Joins.slice_form Try.underlying25 hy02
  obtain rfl : c02 = .slice b0 ken0 dap0 := by simpa using he0
  have hs0 : ∃ fuel, DataW.trod enc Try.prog W 0 (fun _ => true) true fuel 25 (Value.slice a0 len0 cap0).cells.toList = some y01 := ⟨m0, hy01⟩
  have ht0 : ∃ fuel, DataW.trod enc Try.prog W 0 (fun _ => true) true fuel 25 (Value.slice b0 ken0 dap0).cells.toList = some y02 := ⟨m0x, hy02⟩
  obtain ⟨z0, w0⟩ : ∃ zs, IsRow .i64 W a0 len0 cap0 zs := by
    obtain ⟨fuel, hf⟩ := hs0
    rcases open_ints Try.underlying25 Try.underlying3 (by kernel_rfl) hf with ⟨hcs, _⟩ | ⟨x, l, c, zs, hcs, _, hl, hm, hz, _, hcell, hwz⟩
    · simp [Value.cells] at hcs
      obtain ⟨rfl, rfl, rfl⟩ := hcs
      exact ⟨[], .inl ⟨rfl, rfl, rfl, rfl⟩⟩
    · simp [Value.cells] at hcs
      obtain ⟨rfl, rfl, rfl⟩ := hcs
      exact ⟨zs, .inr ⟨_, rfl, hl, hm, by simpa using hz, hcell, hwz⟩⟩
  obtain ⟨y0, x0⟩ : ∃ zs, IsRow .i64 W b0 ken0 dap0 zs := by
    obtain ⟨fuel, hf⟩ := ht0
    rcases open_ints Try.underlying25 Try.underlying3 (by kernel_rfl) hf with ⟨hcs, _⟩ | ⟨x, l, c, zs, hcs, _, hl, hm, hz, _, hcell, hwz⟩
    · simp [Value.cells] at hcs
      obtain ⟨rfl, rfl, rfl⟩ := hcs
      exact ⟨[], .inl ⟨rfl, rfl, rfl, rfl⟩⟩
    · simp [Value.cells] at hcs
      obtain ⟨rfl, rfl, rfl⟩ := hcs
      exact ⟨zs, .inr ⟨_, rfl, hl, hm, by simpa using hz, hcell, hwz⟩⟩
  clear hA0 hval0
  refine (walk s0 a0 len0 cap0 z0 b0 ken0 dap0 y0 W w0 x0).mono fun e W' ⟨he, bel⟩ => ?_
  subst he
  exact ⟨_, rfl, _, _, _, [], _, [], hW', trodAll_mk1 (shut_bool Try.underlying4 _), (trodAll_cons_mk (Below.trod laidOut (by kernel_rfl) (of_decide_eq_true (by kernel_rfl)) k0 bel lt0) trodAll_mk0), rfl, bel.frame _, fun h => by cases h⟩

theorem k0 : (Rows.fnExactRatIsIntRow.wf (OpenSpec.ofChange Rows.fnExactRatIsIntSpec)) = true := by kernel_rfl
theorem k3 : (Try.f6.params.all (Try.pinned.checked.prog.readableRec ·)) = true := by kernel_rfl
theorem k4 : (namedTie Try.pinned.checked.prog Rows.fnExactRatIsIntRow.named Rows.fnExactRatIsIntSpec.vars) = true := by kernel_rfl
theorem k5 : (Rows.fnExactRatIsIntRow.stops == []) = true := by kernel_rfl
theorem k7 : (Rows.fnExactRatIsIntRow.knobs == []) = true := by kernel_rfl
theorem k9 : (Rows.fnExactRatIsIntRow.inPlace == Try.pinned.checked.prog.inPlace 6) = true := by kernel_rfl
theorem k10 : (Rows.fnExactRatIsIntRow.unfollowed == Try.pinned.checked.prog.unfollowed 6) = true := by kernel_rfl
theorem k11 : (Rows.fnExactRatIsIntRow.recurses == Try.pinned.checked.prog.recurses 6) = true := by kernel_rfl
theorem k12 : (Rows.fnExactRatIsIntRow.named == Try.pinned.checked.prog.varsNamed 6) = true := by kernel_rfl
theorem k13 : (Rows.fnExactRatIsIntRow.maps == (Try.f6.params.toList ++ Rows.fnExactRatIsIntSpec.plain.varTypes Try.pinned.checked.prog).any (Try.pinned.checked.prog.mapsRec ·)) = true := by kernel_rfl
theorem k14 : (Rows.fnExactRatIsIntRow.ifaces == (Try.f6.params.toList ++ Rows.fnExactRatIsIntSpec.plain.varTypes Try.pinned.checked.prog).any (Try.pinned.checked.prog.ifacesRec ·)) = true := by kernel_rfl
theorem k15 : (Rows.fnExactRatIsIntRow.mapsOut == Try.pinned.checked.prog.mapsAmong Try.f6.resultTypes.toList) = true := by kernel_rfl
theorem k16 : (Rows.fnExactRatIsIntRow.loops == (Try.f6.params.toList ++ Rows.fnExactRatIsIntSpec.plain.varTypes Try.pinned.checked.prog).any (Try.pinned.checked.prog.loopsFrom ·)) = true := by kernel_rfl
theorem k17 : (Rows.fnExactRatIsIntRow.wideKeys == (Try.f6.params.toList ++ Rows.fnExactRatIsIntSpec.plain.varTypes Try.pinned.checked.prog ++ Try.f6.resultTypes.toList).any (Try.pinned.checked.prog.wideKeysFrom ·)) = true := by kernel_rfl
theorem k18 : (Rows.fnExactRatIsIntSpec.vars.all (Try.pinned.checked.prog.varReadable ·)) = true := by kernel_rfl
theorem k19 : (Try.f6.resultTypes.all (fun t => Try.pinned.checked.prog.readableRec t && decide (t < Try.pinned.checked.prog.types.size))) = true := by kernel_rfl
theorem k20 : (Rows.fnExactRatIsIntRow.ifacesOut == Try.f6.resultTypes.toList.any (Try.pinned.checked.prog.ifacesRec ·)) = true := by kernel_rfl
theorem k21 : (Rows.fnExactRatIsIntRow.loopsOut == Try.f6.resultTypes.toList.any (Try.pinned.checked.prog.loopsFrom ·)) = true := by kernel_rfl
theorem k22 : (Rows.fnExactRatIsIntRow.plainKeys == Try.pinned.checked.prog.plainKeys) = true := by rw [p_keys]; rfl
theorem k23 : (Rows.fnExactRatIsIntRow.shortTexts.isNone) = true := by kernel_rfl
theorem k26 : (Rows.fnExactRatIsIntRow.lifted == Try.pinned.checked.prog.liftsFinal) = true := by rw [p_lift]; rfl
theorem k27 : (Try.pinned.checked.prog.make == some Rows.fnExactRatIsIntRow.make) = true := by rw [p_make]; rfl
theorem k28 : (Rows.fnExactRatIsIntRow.kinds == kindsOf Try.pinned.checked.prog Try.f6 Rows.fnExactRatIsIntRow) = true := by kernel_rfl
theorem k29 : (Rows.fnExactRatIsIntRow.pinned == Rows.fnExactRatIsIntRow.pinnedBy) = true := by kernel_rfl
theorem k30 : (Rows.fnExactRatIsIntRow.veiled == (Try.f6.params.toList ++ Rows.fnExactRatIsIntSpec.plain.varTypes Try.pinned.checked.prog ++ Try.f6.resultTypes.toList).any (Try.pinned.checked.prog.veiledRec ·)) = true := by kernel_rfl
theorem k31 : (Rows.fnExactRatIsIntRow.veiledFits Try.pinned.checked.prog Try.f6.params.toList (Try.f6.params.toList ++ Rows.fnExactRatIsIntSpec.plain.varTypes Try.pinned.checked.prog ++ Try.f6.resultTypes.toList)) = true := by kernel_rfl
theorem closed : joinedFacts Try.pinned.checked.prog 6 Try.f6 Rows.fnExactRatIsIntSpec Rows.fnExactRatIsIntRow = true :=
  joined_by k0 p_laid p_maps k3 k4 k5 p_stops k7 p_knobs k9 k10 k11 k12 k13 k14 k15 k16 k17 k18 k19 k20 k21 k22 k23 p_heard p_enter k26 k27 k28 k29 k30 k31
theorem func_of : Try.pinned.checked.prog.funcNamed Rows.fnExactRatIsIntRow.func = some 6 := by kernel_rfl
theorem inst : Try.f6.isInstance Try.pinned.checked.prog Rows.fnExactRatIsIntRow.origin Rows.fnExactRatIsIntRow.targs := of_decide_eq_true (by kernel_rfl)
theorem wrap : Try.f6.isWrapper Try.pinned.checked.prog Rows.fnExactRatIsIntRow.wrapper Rows.fnExactRatIsIntRow.mainSum := by
  unfold Func.isWrapper
  first | (rw [if_pos (by decide +kernel)]; kernel_rfl) | (rw [if_neg (by decide +kernel)]; exact ⟨rfl, rfl⟩)
theorem over : Rows.fnExactRatIsIntRow.holds Try.pinned (OpenSpec.ofChange Rows.fnExactRatIsIntSpec) :=
  OpenClaim.holds_of_wide 6 Try.f6 rfl rfl rfl rfl rfl rfl rfl ⟨rfl, rfl, rfl, rfl, rfl⟩ rfl rfl rfl rfl rfl func_of Try.func6 closed inst wrap
    (fun os started H enc _ => lifted os started H enc)

theorem proved : Rows.FnExactRatIsIntSaid := over
#print axioms proved
end Go.Proofs.Ytookglpeieennaa.fnExactRatIsInt
