import Derived.Test.YtjjainnafihkdaaGreatRows
import Derived.Test.YtjjainnafihkdaaGreatPff
import Derived.Test.YtjjainnafihkdaaGreatZla
import Derived.Test.YtjjainnafihkdaaGreatOpm
import Derived.WalkKit
import Derived.ProofKit
import Derived.OpenShut
import Derived.ShutString
import Derived.ChangeOld
import Derived.Below
import Derived.Lib.SmallJoins
namespace Go.Proofs.YtjjainnafihkdaaGreat.fnExactSolve
open Go.ChangeShapes Go.WideShapes Go.ChangeAt Go.RowKit
open Go.ChangeMaps (open_string shut_string)
open Go.Joins (open_agg2)
set_option linter.unusedVariables false
set_option linter.unusedSimpArgs false
theorem own : ownKnob Tryz.prog.godebug = none := by kernel_rfl
theorem laidOut : laidOutB Tryz.prog = true := by kernel_rfl
def IsRow (k : IntKind) (w : World) (a : Option Addr) (len cap : Nat) (zs : List Int) : Prop :=
 (a = none ∧ len = 0 ∧ cap = 0 ∧ zs = []) ∨
 ∃ x, a = some x ∧ len ≤ cap ∧ cap ≤ maxLen ∧ zs.length = cap ∧ (∀ i, i < zs.length → w.cell? (x.add i) = some (.int k (zs.getD i 0))) ∧ ∀ n ∈ zs, (Lit.int k n).wf = true
theorem walk (a0 : Option Addr) (len0 cap0 : Nat) (K0 : List (List Fq)) (m0 : len0 ≤ maxLen) (s0 : MLen K0) (a1 : Option Addr) (len1 cap1 : Nat) (K1 : List Fq) (m1 : len1 ≤ maxLen) (s1 : ∀ f ∈ K1, f.A.length ≤ maxLen ∧ f.D.length ≤ maxLen) (w : World) (w0 : MCame w w.heap.size a0 len0 K0) (w1 : VCame w w.heap.size a1 len1 K1) :
  Calls Tryz.prog 8 #[.slice a0 len0 cap0, .slice a1 len1 cap1] w fun e w' => e = .returned (.bool true) ∧ Below w.heap.size w w' := by
 exact law_Solve a0 len0 cap0 K0 m0 s0 a1 len1 cap1 K1 m1 s1 w w0 w1
set_option maxRecDepth 100000 in
theorem lifted (os : Os) (started : os.Started) (H : Type) (enc : TypeId × Value → H) :
  ReturnsInHanded {} Tryz.checked os 8 .any (Rows.fnExactSolveSpec.pre6 enc Tryz.prog Tryz.f8 Rows.fnExactSolveRow.domain false) (Rows.fnExactSolveSpec.post enc Tryz.prog Tryz.f8 false true false false) := by
 refine returnsInHanded_of_change (C := Tryz.checked) own started (by kernel_rfl) Tryz.func8
  (ChangeSpec.witness6 (enc := enc) (C := Tryz.checked) false ⟨#[], #[.slice none 0 0, .slice none 0 0], []⟩ 8 (by kernel_rfl) (by kernel_rfl) (by kernel_rfl) (by kernel_rfl)) ?_
 intro W base args ds gs before hval0 hW hcnd _
 have hval : ∀ (j : Nat) t v, Tryz.f8.params[j]? = some t → args[j]? = some v → Value.okWide Tryz.prog W .any base t v := hval0
 have hW' := hW
 obtain ⟨p, q, hA0, hV, rfl, hfz, hnd⟩ := hW
 have hA : DataW.TrodAll enc Tryz.prog W 0 (fun _ => true) true Tryz.f8.params.toList args.toList ds p := hA0
 rw [Tryz.params8] at hA hval
 obtain ⟨v0, vs0, d0, ds0, p0, q0, hargs, rfl, rfl, h0, r0⟩ := trodAll_cons hA
 obtain ⟨v1, vs1, d1, ds1, p1, q1, rfl, rfl, rfl, h1, r1⟩ := trodAll_cons r0
 obtain ⟨rfl, rfl, rfl⟩ := trodAll_nil r1
 obtain rfl : args = #[v0, v1] := by cases args; simp_all
 obtain ⟨rfl, rfl⟩ := trodVars_none hV
 have k0 := h0
 have lt0 : ∀ x ∈ p0, x.block < W.heap.size := by obtain ⟨m, hm⟩ := k0; exact DataW.trod_lt m _ _ _ hm
 obtain ⟨a0, len0, cap0, rfl⟩ := okWide_slice Tryz.underlying22 (hval 0 22 v0 rfl rfl)
 obtain ⟨m0, K0, w0, s0⟩ := open_mats h0
 have k1 := h1
 have lt1 : ∀ x ∈ p1, x.block < W.heap.size := by obtain ⟨m, hm⟩ := k1; exact DataW.trod_lt m _ _ _ hm
 obtain ⟨a1, len1, cap1, rfl⟩ := okWide_slice Tryz.underlying39 (hval 1 39 v1 rfl rfl)
 obtain ⟨m1, K1, w1, s1⟩ := open_rats h1
 clear hA0 hval0
 refine (walk a0 len0 cap0 K0 m0 s0 a1 len1 cap1 K1 m1 s1 W w0 w1).mono fun e W' ⟨he, bel⟩ => ?_
 subst he
 exact ⟨_, rfl, _, _, _, [], _, [], hW', trodAll_mk1 (shut_bool Tryz.underlying4 _), (trodAll_cons_mk (Below.trod laidOut (by kernel_rfl) (of_decide_eq_true (by kernel_rfl)) k0 bel lt0) (trodAll_cons_mk (Below.trod laidOut (by kernel_rfl) (of_decide_eq_true (by kernel_rfl)) k1 bel lt1) trodAll_mk0)), rfl, bel.frame _, fun h => by cases h⟩
theorem k0 : (Rows.fnExactSolveRow.wf (OpenSpec.ofChange Rows.fnExactSolveSpec)) = true := by kernel_rfl
theorem k3 : (Tryz.f8.params.all (Tryz.pinned.checked.prog.readableRec ·)) = true := by kernel_rfl
theorem k4 : (namedTie Tryz.pinned.checked.prog Rows.fnExactSolveRow.named Rows.fnExactSolveSpec.vars) = true := by kernel_rfl
theorem k5 : (Rows.fnExactSolveRow.stops == []) = true := by kernel_rfl
theorem k7 : (Rows.fnExactSolveRow.knobs == []) = true := by kernel_rfl
theorem k9 : (Rows.fnExactSolveRow.inPlace == Tryz.pinned.checked.prog.inPlace 8) = true := by kernel_rfl
theorem k10 : (Rows.fnExactSolveRow.unfollowed == Tryz.pinned.checked.prog.unfollowed 8) = true := by kernel_rfl
theorem k11 : (Rows.fnExactSolveRow.recurses == Tryz.pinned.checked.prog.recurses 8) = true := by kernel_rfl
theorem k12 : (Rows.fnExactSolveRow.named == Tryz.pinned.checked.prog.varsNamed 8) = true := by kernel_rfl
theorem k13 : (Rows.fnExactSolveRow.maps == (Tryz.f8.params.toList ++ Rows.fnExactSolveSpec.plain.varTypes Tryz.pinned.checked.prog).any (Tryz.pinned.checked.prog.mapsRec ·)) = true := by kernel_rfl
theorem k14 : (Rows.fnExactSolveRow.ifaces == (Tryz.f8.params.toList ++ Rows.fnExactSolveSpec.plain.varTypes Tryz.pinned.checked.prog).any (Tryz.pinned.checked.prog.ifacesRec ·)) = true := by kernel_rfl
theorem k15 : (Rows.fnExactSolveRow.mapsOut == Tryz.pinned.checked.prog.mapsAmong Tryz.f8.resultTypes.toList) = true := by kernel_rfl
theorem k16 : (Rows.fnExactSolveRow.loops == (Tryz.f8.params.toList ++ Rows.fnExactSolveSpec.plain.varTypes Tryz.pinned.checked.prog).any (Tryz.pinned.checked.prog.loopsFrom ·)) = true := by kernel_rfl
theorem k17 : (Rows.fnExactSolveRow.wideKeys == (Tryz.f8.params.toList ++ Rows.fnExactSolveSpec.plain.varTypes Tryz.pinned.checked.prog ++ Tryz.f8.resultTypes.toList).any (Tryz.pinned.checked.prog.wideKeysFrom ·)) = true := by kernel_rfl
theorem k18 : (Rows.fnExactSolveSpec.vars.all (Tryz.pinned.checked.prog.varReadable ·)) = true := by kernel_rfl
theorem k19 : (Tryz.f8.resultTypes.all (fun t => Tryz.pinned.checked.prog.readableRec t && decide (t < Tryz.pinned.checked.prog.types.size))) = true := by kernel_rfl
theorem k20 : (Rows.fnExactSolveRow.ifacesOut == Tryz.f8.resultTypes.toList.any (Tryz.pinned.checked.prog.ifacesRec ·)) = true := by kernel_rfl
theorem k21 : (Rows.fnExactSolveRow.loopsOut == Tryz.f8.resultTypes.toList.any (Tryz.pinned.checked.prog.loopsFrom ·)) = true := by kernel_rfl
theorem k22 : (Rows.fnExactSolveRow.plainKeys == Tryz.pinned.checked.prog.plainKeys) = true := by rw [p_keys]; rfl
theorem k23 : (Rows.fnExactSolveRow.shortTexts.isNone) = true := by kernel_rfl
theorem k26 : (Rows.fnExactSolveRow.lifted == Tryz.pinned.checked.prog.liftsFinal) = true := by rw [p_lift]; rfl
theorem k27 : (Tryz.pinned.checked.prog.make == some Rows.fnExactSolveRow.make) = true := by rw [p_make]; rfl
theorem k28 : (Rows.fnExactSolveRow.kinds == kindsOf Tryz.pinned.checked.prog Tryz.f8 Rows.fnExactSolveRow) = true := by kernel_rfl
theorem k29 : (Rows.fnExactSolveRow.pinned == Rows.fnExactSolveRow.pinnedBy) = true := by kernel_rfl
theorem k30 : (Rows.fnExactSolveRow.veiled == (Tryz.f8.params.toList ++ Rows.fnExactSolveSpec.plain.varTypes Tryz.pinned.checked.prog ++ Tryz.f8.resultTypes.toList).any (Tryz.pinned.checked.prog.veiledRec ·)) = true := by kernel_rfl
theorem k31 : (Rows.fnExactSolveRow.veiledFits Tryz.pinned.checked.prog Tryz.f8.params.toList (Tryz.f8.params.toList ++ Rows.fnExactSolveSpec.plain.varTypes Tryz.pinned.checked.prog ++ Tryz.f8.resultTypes.toList)) = true := by kernel_rfl
theorem closed : joinedFacts Tryz.pinned.checked.prog 8 Tryz.f8 Rows.fnExactSolveSpec Rows.fnExactSolveRow = true :=
 joined_by k0 p_laid p_maps k3 k4 k5 p_stops k7 p_knobs k9 k10 k11 k12 k13 k14 k15 k16 k17 k18 k19 k20 k21 k22 k23 p_heard p_enter k26 k27 k28 k29 k30 k31
theorem func_of : Tryz.pinned.checked.prog.funcNamed Rows.fnExactSolveRow.func = some 8 := by kernel_rfl
theorem inst : Tryz.f8.isInstance Tryz.pinned.checked.prog Rows.fnExactSolveRow.origin Rows.fnExactSolveRow.targs := of_decide_eq_true (by kernel_rfl)
theorem wrap : Tryz.f8.isWrapper Tryz.pinned.checked.prog Rows.fnExactSolveRow.wrapper Rows.fnExactSolveRow.mainSum := by
 unfold Func.isWrapper
 first | (rw [if_pos (by decide +kernel)]; kernel_rfl) | (rw [if_neg (by decide +kernel)]; exact ⟨rfl, rfl⟩)
theorem over : Rows.fnExactSolveRow.holds Tryz.pinned (OpenSpec.ofChange Rows.fnExactSolveSpec) :=
 OpenClaim.holds_of_wide 8 Tryz.f8 rfl rfl rfl rfl rfl rfl rfl ⟨rfl, rfl, rfl, rfl, rfl⟩ rfl rfl rfl rfl rfl func_of Tryz.func8 closed inst wrap
  (fun os started H enc _ => lifted os started H enc)
theorem proved : Rows.FnExactSolveSaid := over
#print axioms proved
end Go.Proofs.YtjjainnafihkdaaGreat.fnExactSolve
