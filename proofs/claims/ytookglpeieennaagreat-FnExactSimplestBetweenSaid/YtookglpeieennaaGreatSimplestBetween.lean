/- For every two structs of a struct of a bool and a slice of ints and a slice of ints the law FnExactSimplestBetween returns true: the program's SimplestBetween answers as the reference's does, writes into no argument, and its answer owns its memory; no condition. -/
import Derived.Test.YtookglpeieennaaGreatRows
import Derived.Test.YtookglpeieennaaGreatPff
import Derived.Test.YtookglpeieennaaGreatLd
import Derived.Test.YtookglpeieennaaGreatOpn
import Derived.WalkKit
import Derived.ProofKit
import Derived.OpenShut
import Derived.ShutString
import Derived.ChangeOld
import Derived.Below
import Derived.Lib.SmallJoins
namespace Go.Proofs.YtookglpeieennaaGreat.fnExactSimplestBetween
open Go.ChangeShapes Go.WideShapes Go.ChangeAt Go.RowKit
open Go.ChangeMaps (open_string shut_string)
open Go.Joins (open_agg2)
set_option linter.unusedVariables false

theorem own : ownKnob Tryz.prog.godebug = none := by kernel_rfl
theorem laidOut : laidOutB Tryz.prog = true := by kernel_rfl

/-- A slice of integers that came in. -/
def IsRow (k : IntKind) (w : World) (a : Option Addr) (len cap : Nat) (zs : List Int) : Prop :=
  (a = none ∧ len = 0 ∧ cap = 0 ∧ zs = []) ∨
  ∃ x, a = some x ∧ len ≤ cap ∧ cap ≤ maxLen ∧ zs.length = cap ∧ (∀ i, i < zs.length → w.cell? (x.add i) = some (.int k (zs.getD i 0))) ∧ ∀ n ∈ zs, (Lit.int k n).wf = true

theorem walk (s0 : Bool) (a0 : Option Addr) (len0 cap0 : Nat) (z0 : List Int) (b0 : Option Addr) (ken0 dap0 : Nat) (y0 : List Int) (s1 : Bool) (a1 : Option Addr) (len1 cap1 : Nat) (z1 : List Int) (b1 : Option Addr) (ken1 dap1 : Nat) (y1 : List Int) (w : World) (w0 : IsRow .i64 w a0 len0 cap0 z0) (x0 : IsRow .i64 w b0 ken0 dap0 y0) (w1 : IsRow .i64 w a1 len1 cap1 z1) (x1 : IsRow .i64 w b1 ken1 dap1 y1) :
    Calls Tryz.prog 8 #[.agg #[.bool s0, .slice a0 len0 cap0, .slice b0 ken0 dap0], .agg #[.bool s1, .slice a1 len1 cap1, .slice b1 ken1 dap1]] w fun e w' => e = .returned (.bool true) ∧ Below w.heap.size w w' := by
  obtain ⟨L0, r0, m0, -⟩ := RowI_came w0
  obtain ⟨D0, p0, k0, -⟩ := RowI_came x0
  obtain ⟨L1, r1, m1, -⟩ := RowI_came w1
  obtain ⟨D1, p1, k1, -⟩ := RowI_came x1
  exact law_SimplestBetween s0 a0 len0 cap0 L0 b0 ken0 dap0 D0 s1 a1 len1 cap1 L1 b1 ken1 dap1 D1 m0 k0 m1 k1 w r0 p0 r1 p1

set_option maxRecDepth 100000 in
theorem lifted (os : Os) (started : os.Started) (H : Type) (enc : TypeId × Value → H) :
    ReturnsInHanded {} Tryz.checked os 8 .any (Rows.fnExactSimplestBetweenSpec.pre6 enc Tryz.prog Tryz.f8 Rows.fnExactSimplestBetweenRow.domain false) (Rows.fnExactSimplestBetweenSpec.post enc Tryz.prog Tryz.f8 false true false false) := by
  refine returnsInHanded_of_change (C := Tryz.checked) own started (by kernel_rfl) Tryz.func8
    (ChangeSpec.witness6 (enc := enc) (C := Tryz.checked) false ⟨#[], #[.agg #[.bool false, .slice none 0 0, .slice none 0 0], .agg #[.bool false, .slice none 0 0, .slice none 0 0]], []⟩ 8 (by kernel_rfl) (by kernel_rfl) (by kernel_rfl) (by kernel_rfl)) ?_
  intro W base args ds gs before hval0 hW hcnd _
  have hval : ∀ (j : Nat) t v, Tryz.f8.params[j]? = some t → args[j]? = some v → Value.okWide Tryz.prog W .any base t v := hval0
  have hW' := hW
  obtain ⟨p, q, hA0, hV, rfl, hfz, hnd⟩ := hW
  have hA : DataW.TrodAll enc Tryz.prog W 0 (fun _ => true) true Tryz.f8.params.toList args.toList ds p := hA0
  rw [Tryz.params8] at hA hval
  obtain ⟨v0, vs0, d0, ds0, p0, q0, hargs, rfl, rfl, h0, r0⟩ := trodAll_cons hA
  obtain ⟨v1, vs1, d1, ds1, p1, q1, rfl, rfl, rfl, h1, r1⟩ := trodAll_cons r0
  obtain ⟨rfl, rfl, rfl⟩ := trodAll_nil r1
  obtain rfl : args = #[v0, v1] := by cases args; simp_all
  obtain ⟨rfl, rfl⟩ := trodVars_none hV
  have k0 := h0
  have lt0 : ∀ x ∈ p0, x.block < W.heap.size := by obtain ⟨m, hm⟩ := k0; exact DataW.trod_lt m _ _ _ hm
  obtain ⟨c00, c01, c02, y00, y01, y02, m0, m0x, rfl, hy00, hy01, hy02⟩ := open_rat Tryz.underlying43 Tryz.underlying41 (by refine ⟨rfl, ?_, rfl, ?_, rfl, ?_, rfl, ?_⟩ <;> kernel_rfl) (by kernel_rfl) (hval 0 43 v0 rfl rfl) h0
  obtain ⟨s0, hb0, -⟩ := DataW.trod_bool Tryz.underlying4 hy00
  obtain rfl : c00 = .bool s0 := by simpa using hb0
  obtain ⟨a0, len0, cap0, hc0⟩ := Go.Joins.slice_form Tryz.underlying23 hy01
  obtain rfl : c01 = .slice a0 len0 cap0 := by simpa using hc0
  obtain ⟨b0, ken0, dap0, he0⟩ := Go.Joins.slice_form Tryz.underlying23 hy02
  obtain rfl : c02 = .slice b0 ken0 dap0 := by simpa using he0
  have hs0 : ∃ fuel, DataW.trod enc Tryz.prog W 0 (fun _ => true) true fuel 23 (Value.slice a0 len0 cap0).cells.toList = some y01 := ⟨m0, hy01⟩
  have ht0 : ∃ fuel, DataW.trod enc Tryz.prog W 0 (fun _ => true) true fuel 23 (Value.slice b0 ken0 dap0).cells.toList = some y02 := ⟨m0x, hy02⟩
  obtain ⟨z0, w0⟩ : ∃ zs, IsRow .i64 W a0 len0 cap0 zs := by
    obtain ⟨fuel, hf⟩ := hs0
    rcases open_ints Tryz.underlying23 Tryz.underlying3 (by kernel_rfl) hf with ⟨hcs, _⟩ | ⟨x, l, c, zs, hcs, _, hl, hm, hz, _, hcell, hwz⟩
    · simp [Value.cells] at hcs
      obtain ⟨rfl, rfl, rfl⟩ := hcs
      exact ⟨[], .inl ⟨rfl, rfl, rfl, rfl⟩⟩
    · simp [Value.cells] at hcs
      obtain ⟨rfl, rfl, rfl⟩ := hcs
      exact ⟨zs, .inr ⟨_, rfl, hl, hm, by simpa using hz, hcell, hwz⟩⟩
  obtain ⟨y0, x0⟩ : ∃ zs, IsRow .i64 W b0 ken0 dap0 zs := by
    obtain ⟨fuel, hf⟩ := ht0
    rcases open_ints Tryz.underlying23 Tryz.underlying3 (by kernel_rfl) hf with ⟨hcs, _⟩ | ⟨x, l, c, zs, hcs, _, hl, hm, hz, _, hcell, hwz⟩
    · simp [Value.cells] at hcs
      obtain ⟨rfl, rfl, rfl⟩ := hcs
      exact ⟨[], .inl ⟨rfl, rfl, rfl, rfl⟩⟩
    · simp [Value.cells] at hcs
      obtain ⟨rfl, rfl, rfl⟩ := hcs
      exact ⟨zs, .inr ⟨_, rfl, hl, hm, by simpa using hz, hcell, hwz⟩⟩
  have k1 := h1
  have lt1 : ∀ x ∈ p1, x.block < W.heap.size := by obtain ⟨m, hm⟩ := k1; exact DataW.trod_lt m _ _ _ hm
  obtain ⟨c10, c11, c12, y10, y11, y12, m1, m1x, rfl, hy10, hy11, hy12⟩ := open_rat Tryz.underlying43 Tryz.underlying41 (by refine ⟨rfl, ?_, rfl, ?_, rfl, ?_, rfl, ?_⟩ <;> kernel_rfl) (by kernel_rfl) (hval 1 43 v1 rfl rfl) h1
  obtain ⟨s1, hb1, -⟩ := DataW.trod_bool Tryz.underlying4 hy10
  obtain rfl : c10 = .bool s1 := by simpa using hb1
  obtain ⟨a1, len1, cap1, hc1⟩ := Go.Joins.slice_form Tryz.underlying23 hy11
  obtain rfl : c11 = .slice a1 len1 cap1 := by simpa using hc1
  obtain ⟨b1, ken1, dap1, he1⟩ := Go.Joins.slice_form Tryz.underlying23 hy12
  obtain rfl : c12 = .slice b1 ken1 dap1 := by simpa using he1
  have hs1 : ∃ fuel, DataW.trod enc Tryz.prog W 0 (fun _ => true) true fuel 23 (Value.slice a1 len1 cap1).cells.toList = some y11 := ⟨m1, hy11⟩
  have ht1 : ∃ fuel, DataW.trod enc Tryz.prog W 0 (fun _ => true) true fuel 23 (Value.slice b1 ken1 dap1).cells.toList = some y12 := ⟨m1x, hy12⟩
  obtain ⟨z1, w1⟩ : ∃ zs, IsRow .i64 W a1 len1 cap1 zs := by
    obtain ⟨fuel, hf⟩ := hs1
    rcases open_ints Tryz.underlying23 Tryz.underlying3 (by kernel_rfl) hf with ⟨hcs, _⟩ | ⟨x, l, c, zs, hcs, _, hl, hm, hz, _, hcell, hwz⟩
    · simp [Value.cells] at hcs
      obtain ⟨rfl, rfl, rfl⟩ := hcs
      exact ⟨[], .inl ⟨rfl, rfl, rfl, rfl⟩⟩
    · simp [Value.cells] at hcs
      obtain ⟨rfl, rfl, rfl⟩ := hcs
      exact ⟨zs, .inr ⟨_, rfl, hl, hm, by simpa using hz, hcell, hwz⟩⟩
  obtain ⟨y1, x1⟩ : ∃ zs, IsRow .i64 W b1 ken1 dap1 zs := by
    obtain ⟨fuel, hf⟩ := ht1
    rcases open_ints Tryz.underlying23 Tryz.underlying3 (by kernel_rfl) hf with ⟨hcs, _⟩ | ⟨x, l, c, zs, hcs, _, hl, hm, hz, _, hcell, hwz⟩
    · simp [Value.cells] at hcs
      obtain ⟨rfl, rfl, rfl⟩ := hcs
      exact ⟨[], .inl ⟨rfl, rfl, rfl, rfl⟩⟩
    · simp [Value.cells] at hcs
      obtain ⟨rfl, rfl, rfl⟩ := hcs
      exact ⟨zs, .inr ⟨_, rfl, hl, hm, by simpa using hz, hcell, hwz⟩⟩
  clear hA0 hval0
  refine (walk s0 a0 len0 cap0 z0 b0 ken0 dap0 y0 s1 a1 len1 cap1 z1 b1 ken1 dap1 y1 W w0 x0 w1 x1).mono fun e W' ⟨he, bel⟩ => ?_
  subst he
  exact ⟨_, rfl, _, _, _, [], _, [], hW', trodAll_mk1 (shut_bool Tryz.underlying4 _), (trodAll_cons_mk (Below.trod laidOut (by kernel_rfl) (of_decide_eq_true (by kernel_rfl)) k0 bel lt0) (trodAll_cons_mk (Below.trod laidOut (by kernel_rfl) (of_decide_eq_true (by kernel_rfl)) k1 bel lt1) trodAll_mk0)), rfl, bel.frame _, fun h => by cases h⟩

theorem k0 : (Rows.fnExactSimplestBetweenRow.wf (OpenSpec.ofChange Rows.fnExactSimplestBetweenSpec)) = true := by kernel_rfl
theorem k3 : (Tryz.f8.params.all (Tryz.pinned.checked.prog.readableRec ·)) = true := by kernel_rfl
theorem k4 : (namedTie Tryz.pinned.checked.prog Rows.fnExactSimplestBetweenRow.named Rows.fnExactSimplestBetweenSpec.vars) = true := by kernel_rfl
theorem k5 : (Rows.fnExactSimplestBetweenRow.stops == []) = true := by kernel_rfl
theorem k7 : (Rows.fnExactSimplestBetweenRow.knobs == []) = true := by kernel_rfl
theorem k9 : (Rows.fnExactSimplestBetweenRow.inPlace == Tryz.pinned.checked.prog.inPlace 8) = true := by kernel_rfl
theorem k10 : (Rows.fnExactSimplestBetweenRow.unfollowed == Tryz.pinned.checked.prog.unfollowed 8) = true := by kernel_rfl
theorem k11 : (Rows.fnExactSimplestBetweenRow.recurses == Tryz.pinned.checked.prog.recurses 8) = true := by kernel_rfl
theorem k12 : (Rows.fnExactSimplestBetweenRow.named == Tryz.pinned.checked.prog.varsNamed 8) = true := by kernel_rfl
theorem k13 : (Rows.fnExactSimplestBetweenRow.maps == (Tryz.f8.params.toList ++ Rows.fnExactSimplestBetweenSpec.plain.varTypes Tryz.pinned.checked.prog).any (Tryz.pinned.checked.prog.mapsRec ·)) = true := by kernel_rfl
theorem k14 : (Rows.fnExactSimplestBetweenRow.ifaces == (Tryz.f8.params.toList ++ Rows.fnExactSimplestBetweenSpec.plain.varTypes Tryz.pinned.checked.prog).any (Tryz.pinned.checked.prog.ifacesRec ·)) = true := by kernel_rfl
theorem k15 : (Rows.fnExactSimplestBetweenRow.mapsOut == Tryz.pinned.checked.prog.mapsAmong Tryz.f8.resultTypes.toList) = true := by kernel_rfl
theorem k16 : (Rows.fnExactSimplestBetweenRow.loops == (Tryz.f8.params.toList ++ Rows.fnExactSimplestBetweenSpec.plain.varTypes Tryz.pinned.checked.prog).any (Tryz.pinned.checked.prog.loopsFrom ·)) = true := by kernel_rfl
theorem k17 : (Rows.fnExactSimplestBetweenRow.wideKeys == (Tryz.f8.params.toList ++ Rows.fnExactSimplestBetweenSpec.plain.varTypes Tryz.pinned.checked.prog ++ Tryz.f8.resultTypes.toList).any (Tryz.pinned.checked.prog.wideKeysFrom ·)) = true := by kernel_rfl
theorem k18 : (Rows.fnExactSimplestBetweenSpec.vars.all (Tryz.pinned.checked.prog.varReadable ·)) = true := by kernel_rfl
theorem k19 : (Tryz.f8.resultTypes.all (fun t => Tryz.pinned.checked.prog.readableRec t && decide (t < Tryz.pinned.checked.prog.types.size))) = true := by kernel_rfl
theorem k20 : (Rows.fnExactSimplestBetweenRow.ifacesOut == Tryz.f8.resultTypes.toList.any (Tryz.pinned.checked.prog.ifacesRec ·)) = true := by kernel_rfl
theorem k21 : (Rows.fnExactSimplestBetweenRow.loopsOut == Tryz.f8.resultTypes.toList.any (Tryz.pinned.checked.prog.loopsFrom ·)) = true := by kernel_rfl
theorem k22 : (Rows.fnExactSimplestBetweenRow.plainKeys == Tryz.pinned.checked.prog.plainKeys) = true := by rw [p_keys]; rfl
theorem k23 : (Rows.fnExactSimplestBetweenRow.shortTexts.isNone) = true := by kernel_rfl
theorem k26 : (Rows.fnExactSimplestBetweenRow.lifted == Tryz.pinned.checked.prog.liftsFinal) = true := by rw [p_lift]; rfl
theorem k27 : (Tryz.pinned.checked.prog.make == some Rows.fnExactSimplestBetweenRow.make) = true := by rw [p_make]; rfl
theorem k28 : (Rows.fnExactSimplestBetweenRow.kinds == kindsOf Tryz.pinned.checked.prog Tryz.f8 Rows.fnExactSimplestBetweenRow) = true := by kernel_rfl
theorem k29 : (Rows.fnExactSimplestBetweenRow.pinned == Rows.fnExactSimplestBetweenRow.pinnedBy) = true := by kernel_rfl
theorem k30 : (Rows.fnExactSimplestBetweenRow.veiled == (Tryz.f8.params.toList ++ Rows.fnExactSimplestBetweenSpec.plain.varTypes Tryz.pinned.checked.prog ++ Tryz.f8.resultTypes.toList).any (Tryz.pinned.checked.prog.veiledRec ·)) = true := by kernel_rfl
theorem k31 : (Rows.fnExactSimplestBetweenRow.veiledFits Tryz.pinned.checked.prog Tryz.f8.params.toList (Tryz.f8.params.toList ++ Rows.fnExactSimplestBetweenSpec.plain.varTypes Tryz.pinned.checked.prog ++ Tryz.f8.resultTypes.toList)) = true := by kernel_rfl
theorem closed : joinedFacts Tryz.pinned.checked.prog 8 Tryz.f8 Rows.fnExactSimplestBetweenSpec Rows.fnExactSimplestBetweenRow = true :=
  joined_by k0 p_laid p_maps k3 k4 k5 p_stops k7 p_knobs k9 k10 k11 k12 k13 k14 k15 k16 k17 k18 k19 k20 k21 k22 k23 p_heard p_enter k26 k27 k28 k29 k30 k31
theorem func_of : Tryz.pinned.checked.prog.funcNamed Rows.fnExactSimplestBetweenRow.func = some 8 := by kernel_rfl
theorem inst : Tryz.f8.isInstance Tryz.pinned.checked.prog Rows.fnExactSimplestBetweenRow.origin Rows.fnExactSimplestBetweenRow.targs := of_decide_eq_true (by kernel_rfl)
theorem wrap : Tryz.f8.isWrapper Tryz.pinned.checked.prog Rows.fnExactSimplestBetweenRow.wrapper Rows.fnExactSimplestBetweenRow.mainSum := by
  unfold Func.isWrapper
  first | (rw [if_pos (by decide +kernel)]; kernel_rfl) | (rw [if_neg (by decide +kernel)]; exact ⟨rfl, rfl⟩)
theorem over : Rows.fnExactSimplestBetweenRow.holds Tryz.pinned (OpenSpec.ofChange Rows.fnExactSimplestBetweenSpec) :=
  OpenClaim.holds_of_wide 8 Tryz.f8 rfl rfl rfl rfl rfl rfl rfl ⟨rfl, rfl, rfl, rfl, rfl⟩ rfl rfl rfl rfl rfl func_of Tryz.func8 closed inst wrap
    (fun os started H enc _ => lifted os started H enc)

theorem proved : Rows.FnExactSimplestBetweenSaid := over
#print axioms proved
end Go.Proofs.YtookglpeieennaaGreat.fnExactSimplestBetween
