/- For every struct of a slice of terms, an int and a fraction and every fraction the law FnExactRowScale returns true: the program's RowScale answers as the reference's does, writes into no argument, and its answer owns its memory; no condition. -/
import Derived.Test.YthkehmnodcmlcaaGreatRows
import Derived.Test.YthkehmnodcmlcaaGreatPffP
import Derived.Test.YthkehmnodcmlcaaGreatRldP
import Derived.Test.YthkehmnodcmlcaaGreatOprP
import Derived.WalkKit
import Derived.ProofKit
import Derived.OpenShut
import Derived.ShutString
import Derived.ChangeOld
import Derived.Below
import Derived.Lib.SmallJoins
namespace Go.Proofs.YthkehmnodcmlcaaGreat.fnExactRowScale
open Go.ChangeShapes Go.WideShapes Go.ChangeAt Go.RowKit
open Go.ChangeMaps (open_string shut_string)
open Go.Joins (open_agg2)
set_option linter.unusedVariables false

theorem own : ownKnob Tryz.prog.godebug = none := by kernel_rfl
theorem laidOut : laidOutB Tryz.prog = true := by kernel_rfl

/-- A slice of integers that came in. -/
def IsRow (k : IntKind) (w : World) (a : Option Addr) (len cap : Nat) (zs : List Int) : Prop :=
  (a = none ∧ len = 0 ∧ cap = 0 ∧ zs = []) ∨
  ∃ x, a = some x ∧ len ≤ cap ∧ cap ≤ maxLen ∧ zs.length = cap ∧ (∀ i, i < zs.length → w.cell? (x.add i) = some (.int k (zs.getD i 0))) ∧ ∀ n ∈ zs, (Lit.int k n).wf = true

theorem walk (xa0 : Option Addr) (xn0 xc0 : Nat) (xK0 : List Tq) (xz0 : Int) (xs0 : Bool) (xb0 : Option Addr) (xm0 xd0 : Nat) (xA0 : List Int) (xe0 : Option Addr) (xk0 xf0 : Nat) (xD0 : List Int) (hn0 : xn0 ≤ maxLen) (hK0 : ∀ f ∈ xK0, f.A.length ≤ maxLen ∧ f.D.length ≤ maxLen) (hm0 : xm0 ≤ maxLen) (hk0 : xk0 ≤ maxLen) (s1 : Bool) (a1 : Option Addr) (len1 cap1 : Nat) (z1 : List Int) (b1 : Option Addr) (ken1 dap1 : Nat) (y1 : List Int) (w : World) (w0 : WCame w w.heap.size xa0 xn0 xK0 xb0 xm0 xA0 xe0 xk0 xD0) (w1 : IsRow .i64 w a1 len1 cap1 z1) (x1 : IsRow .i64 w b1 ken1 dap1 y1) :
    Calls Tryz.prog 5 #[.agg #[.slice xa0 xn0 xc0, .int .i64 xz0, .bool xs0, .slice xb0 xm0 xd0, .slice xe0 xk0 xf0], .agg #[.bool s1, .slice a1 len1 cap1, .slice b1 ken1 dap1]] w fun e w' => e = .returned (.bool true) ∧ Below w.heap.size w w' := by
  obtain ⟨L1, r1, mx1, -⟩ := RowI_came w1
  obtain ⟨D1, p1, kx1, -⟩ := RowI_came x1
  exact law_RowScale xa0 xn0 xc0 xK0 xz0 xs0 xb0 xm0 xd0 xA0 xe0 xk0 xf0 xD0 hn0 hK0 hm0 hk0 s1 a1 len1 cap1 L1 b1 ken1 dap1 D1 mx1 kx1 w w0 r1 p1

set_option maxRecDepth 100000 in
theorem lifted (os : Os) (started : os.Started) (H : Type) (enc : TypeId × Value → H) :
    ReturnsInHanded {} Tryz.checked os 5 .any (Rows.fnExactRowScaleSpec.pre6 enc Tryz.prog Tryz.f5 Rows.fnExactRowScaleRow.domain false) (Rows.fnExactRowScaleSpec.post enc Tryz.prog Tryz.f5 false true false false) := by
  refine returnsInHanded_of_change (C := Tryz.checked) own started (by kernel_rfl) Tryz.func5
    (ChangeSpec.witness6 (enc := enc) (C := Tryz.checked) false ⟨#[], #[.agg #[.slice none 0 0, .int .i64 0, .bool false, .slice none 0 0, .slice none 0 0], .agg #[.bool false, .slice none 0 0, .slice none 0 0]], []⟩ 8 (by kernel_rfl) (by kernel_rfl) (by kernel_rfl) (by kernel_rfl)) ?_
  intro W base args ds gs before hval0 hW hcnd _
  have hval : ∀ (j : Nat) t v, Tryz.f5.params[j]? = some t → args[j]? = some v → Value.okWide Tryz.prog W .any base t v := hval0
  have hW' := hW
  obtain ⟨p, q, hA0, hV, rfl, hfz, hnd⟩ := hW
  have hA : DataW.TrodAll enc Tryz.prog W 0 (fun _ => true) true Tryz.f5.params.toList args.toList ds p := hA0
  rw [Tryz.params5] at hA hval
  obtain ⟨v0, vs0, d0, ds0, p0, q0, hargs, rfl, rfl, h0, r0⟩ := trodAll_cons hA
  obtain ⟨v1, vs1, d1, ds1, p1, q1, rfl, rfl, rfl, h1, r1⟩ := trodAll_cons r0
  obtain ⟨rfl, rfl, rfl⟩ := trodAll_nil r1
  obtain rfl : args = #[v0, v1] := by cases args; simp_all
  obtain ⟨rfl, rfl⟩ := trodVars_none hV
  have k0 := h0
  have lt0 : ∀ x ∈ p0, x.block < W.heap.size := by obtain ⟨m, hm⟩ := k0; exact DataW.trod_lt m _ _ _ hm
  obtain ⟨xa0, xn0, xc0, xK0, xz0, xs0, xb0, xm0, xd0, xA0, xe0, xk0, xf0, xD0, rfl, hn0, hK0, hm0, hk0, w0⟩ := open_rowv (hval 0 29 v0 rfl rfl) h0
  have k1 := h1
  have lt1 : ∀ x ∈ p1, x.block < W.heap.size := by obtain ⟨m, hm⟩ := k1; exact DataW.trod_lt m _ _ _ hm
  obtain ⟨c10, c11, c12, y10, y11, y12, m1, m1x, rfl, hy10, hy11, hy12⟩ := open_rat Tryz.underlying27 Tryz.underlying25 (by refine ⟨rfl, ?_, rfl, ?_, rfl, ?_, rfl, ?_⟩ <;> kernel_rfl) (by kernel_rfl) (hval 1 27 v1 rfl rfl) h1
  obtain ⟨s1, hb1, -⟩ := DataW.trod_bool Tryz.underlying4 hy10
  obtain rfl : c10 = .bool s1 := by simpa using hb1
  obtain ⟨a1, len1, cap1, hc1⟩ := Go.Joins.slice_form Tryz.underlying23 hy11
  obtain rfl : c11 = .slice a1 len1 cap1 := by simpa using hc1
  obtain ⟨b1, ken1, dap1, he1⟩ := Go.Joins.slice_form Tryz.underlying23 hy12
  obtain rfl : c12 = .slice b1 ken1 dap1 := by simpa using he1
  have hs1 : ∃ fuel, DataW.trod enc Tryz.prog W 0 (fun _ => true) true fuel 23 (Value.slice a1 len1 cap1).cells.toList = some y11 := ⟨m1, hy11⟩
  have ht1 : ∃ fuel, DataW.trod enc Tryz.prog W 0 (fun _ => true) true fuel 23 (Value.slice b1 ken1 dap1).cells.toList = some y12 := ⟨m1x, hy12⟩
  obtain ⟨z1, w1⟩ : ∃ zs, IsRow .i64 W a1 len1 cap1 zs := by
    obtain ⟨fuel, hf⟩ := hs1
    rcases open_ints Tryz.underlying23 Tryz.underlying3 (by kernel_rfl) hf with ⟨hcs, _⟩ | ⟨x, l, c, zs, hcs, _, hl, hm, hz, _, hcell, hwz⟩
    · simp [Value.cells] at hcs
      obtain ⟨rfl, rfl, rfl⟩ := hcs
      exact ⟨[], .inl ⟨rfl, rfl, rfl, rfl⟩⟩
    · simp [Value.cells] at hcs
      obtain ⟨rfl, rfl, rfl⟩ := hcs
      exact ⟨zs, .inr ⟨_, rfl, hl, hm, by simpa using hz, hcell, hwz⟩⟩
  obtain ⟨y1, x1⟩ : ∃ zs, IsRow .i64 W b1 ken1 dap1 zs := by
    obtain ⟨fuel, hf⟩ := ht1
    rcases open_ints Tryz.underlying23 Tryz.underlying3 (by kernel_rfl) hf with ⟨hcs, _⟩ | ⟨x, l, c, zs, hcs, _, hl, hm, hz, _, hcell, hwz⟩
    · simp [Value.cells] at hcs
      obtain ⟨rfl, rfl, rfl⟩ := hcs
      exact ⟨[], .inl ⟨rfl, rfl, rfl, rfl⟩⟩
    · simp [Value.cells] at hcs
      obtain ⟨rfl, rfl, rfl⟩ := hcs
      exact ⟨zs, .inr ⟨_, rfl, hl, hm, by simpa using hz, hcell, hwz⟩⟩
  clear hA0 hval0
  refine (walk xa0 xn0 xc0 xK0 xz0 xs0 xb0 xm0 xd0 xA0 xe0 xk0 xf0 xD0 hn0 hK0 hm0 hk0 s1 a1 len1 cap1 z1 b1 ken1 dap1 y1 W w0 w1 x1).mono fun e W' ⟨he, bel⟩ => ?_
  subst he
  exact ⟨_, rfl, _, _, _, [], _, [], hW', trodAll_mk1 (shut_bool Tryz.underlying4 _), (trodAll_cons_mk (Below.trod laidOut (by kernel_rfl) (of_decide_eq_true (by kernel_rfl)) k0 bel lt0) (trodAll_cons_mk (Below.trod laidOut (by kernel_rfl) (of_decide_eq_true (by kernel_rfl)) k1 bel lt1) trodAll_mk0)), rfl, bel.frame _, fun h => by cases h⟩

theorem k0 : (Rows.fnExactRowScaleRow.wf (OpenSpec.ofChange Rows.fnExactRowScaleSpec)) = true := by kernel_rfl
theorem k3 : (Tryz.f5.params.all (Tryz.pinned.checked.prog.readableRec ·)) = true := by kernel_rfl
theorem k4 : (namedTie Tryz.pinned.checked.prog Rows.fnExactRowScaleRow.named Rows.fnExactRowScaleSpec.vars) = true := by kernel_rfl
theorem k5 : (Rows.fnExactRowScaleRow.stops == []) = true := by kernel_rfl
theorem k7 : (Rows.fnExactRowScaleRow.knobs == []) = true := by kernel_rfl
theorem k9 : (Rows.fnExactRowScaleRow.inPlace == Tryz.pinned.checked.prog.inPlace 5) = true := by kernel_rfl
theorem k10 : (Rows.fnExactRowScaleRow.unfollowed == Tryz.pinned.checked.prog.unfollowed 5) = true := by kernel_rfl
theorem k11 : (Rows.fnExactRowScaleRow.recurses == Tryz.pinned.checked.prog.recurses 5) = true := by kernel_rfl
theorem k12 : (Rows.fnExactRowScaleRow.named == Tryz.pinned.checked.prog.varsNamed 5) = true := by kernel_rfl
theorem k13 : (Rows.fnExactRowScaleRow.maps == (Tryz.f5.params.toList ++ Rows.fnExactRowScaleSpec.plain.varTypes Tryz.pinned.checked.prog).any (Tryz.pinned.checked.prog.mapsRec ·)) = true := by kernel_rfl
theorem k14 : (Rows.fnExactRowScaleRow.ifaces == (Tryz.f5.params.toList ++ Rows.fnExactRowScaleSpec.plain.varTypes Tryz.pinned.checked.prog).any (Tryz.pinned.checked.prog.ifacesRec ·)) = true := by kernel_rfl
theorem k15 : (Rows.fnExactRowScaleRow.mapsOut == Tryz.pinned.checked.prog.mapsAmong Tryz.f5.resultTypes.toList) = true := by kernel_rfl
theorem k16 : (Rows.fnExactRowScaleRow.loops == (Tryz.f5.params.toList ++ Rows.fnExactRowScaleSpec.plain.varTypes Tryz.pinned.checked.prog).any (Tryz.pinned.checked.prog.loopsFrom ·)) = true := by kernel_rfl
theorem k17 : (Rows.fnExactRowScaleRow.wideKeys == (Tryz.f5.params.toList ++ Rows.fnExactRowScaleSpec.plain.varTypes Tryz.pinned.checked.prog ++ Tryz.f5.resultTypes.toList).any (Tryz.pinned.checked.prog.wideKeysFrom ·)) = true := by kernel_rfl
theorem k18 : (Rows.fnExactRowScaleSpec.vars.all (Tryz.pinned.checked.prog.varReadable ·)) = true := by kernel_rfl
theorem k19 : (Tryz.f5.resultTypes.all (fun t => Tryz.pinned.checked.prog.readableRec t && decide (t < Tryz.pinned.checked.prog.types.size))) = true := by kernel_rfl
theorem k20 : (Rows.fnExactRowScaleRow.ifacesOut == Tryz.f5.resultTypes.toList.any (Tryz.pinned.checked.prog.ifacesRec ·)) = true := by kernel_rfl
theorem k21 : (Rows.fnExactRowScaleRow.loopsOut == Tryz.f5.resultTypes.toList.any (Tryz.pinned.checked.prog.loopsFrom ·)) = true := by kernel_rfl
theorem k22 : (Rows.fnExactRowScaleRow.plainKeys == Tryz.pinned.checked.prog.plainKeys) = true := by rw [p_keys]; rfl
theorem k23 : (Rows.fnExactRowScaleRow.shortTexts.isNone) = true := by kernel_rfl
theorem k26 : (Rows.fnExactRowScaleRow.lifted == Tryz.pinned.checked.prog.liftsFinal) = true := by rw [p_lift]; rfl
theorem k27 : (Tryz.pinned.checked.prog.make == some Rows.fnExactRowScaleRow.make) = true := by rw [p_make]; rfl
theorem k28 : (Rows.fnExactRowScaleRow.kinds == kindsOf Tryz.pinned.checked.prog Tryz.f5 Rows.fnExactRowScaleRow) = true := by kernel_rfl
theorem k29 : (Rows.fnExactRowScaleRow.pinned == Rows.fnExactRowScaleRow.pinnedBy) = true := by kernel_rfl
theorem k30 : (Rows.fnExactRowScaleRow.veiled == (Tryz.f5.params.toList ++ Rows.fnExactRowScaleSpec.plain.varTypes Tryz.pinned.checked.prog ++ Tryz.f5.resultTypes.toList).any (Tryz.pinned.checked.prog.veiledRec ·)) = true := by kernel_rfl
theorem k31 : (Rows.fnExactRowScaleRow.veiledFits Tryz.pinned.checked.prog Tryz.f5.params.toList (Tryz.f5.params.toList ++ Rows.fnExactRowScaleSpec.plain.varTypes Tryz.pinned.checked.prog ++ Tryz.f5.resultTypes.toList)) = true := by kernel_rfl
theorem closed : joinedFacts Tryz.pinned.checked.prog 5 Tryz.f5 Rows.fnExactRowScaleSpec Rows.fnExactRowScaleRow = true :=
  joined_by k0 p_laid p_maps k3 k4 k5 p_stops k7 p_knobs k9 k10 k11 k12 k13 k14 k15 k16 k17 k18 k19 k20 k21 k22 k23 p_heard p_enter k26 k27 k28 k29 k30 k31
theorem func_of : Tryz.pinned.checked.prog.funcNamed Rows.fnExactRowScaleRow.func = some 5 := by kernel_rfl
theorem inst : Tryz.f5.isInstance Tryz.pinned.checked.prog Rows.fnExactRowScaleRow.origin Rows.fnExactRowScaleRow.targs := of_decide_eq_true (by kernel_rfl)
theorem wrap : Tryz.f5.isWrapper Tryz.pinned.checked.prog Rows.fnExactRowScaleRow.wrapper Rows.fnExactRowScaleRow.mainSum := by
  unfold Func.isWrapper
  first | (rw [if_pos (by decide +kernel)]; kernel_rfl) | (rw [if_neg (by decide +kernel)]; exact ⟨rfl, rfl⟩)
theorem over : Rows.fnExactRowScaleRow.holds Tryz.pinned (OpenSpec.ofChange Rows.fnExactRowScaleSpec) :=
  OpenClaim.holds_of_wide 5 Tryz.f5 rfl rfl rfl rfl rfl rfl rfl ⟨rfl, rfl, rfl, rfl, rfl⟩ rfl rfl rfl rfl rfl func_of Tryz.func5 closed inst wrap
    (fun os started H enc _ => lifted os started H enc)

theorem proved : Rows.FnExactRowScaleSaid := over
#print axioms proved
end Go.Proofs.YthkehmnodcmlcaaGreat.fnExactRowScale
