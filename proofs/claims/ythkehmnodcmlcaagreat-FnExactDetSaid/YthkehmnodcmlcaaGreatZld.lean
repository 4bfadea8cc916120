import Derived.Test.YthkehmnodcmlcaaGreatZd
import Derived.Test.YthkehmnodcmlcaaGreatZh
import Derived.Deep.RegionHeld3
import Derived.Deep.DeepCutAuto
set_option maxRecDepth 100000
set_option maxHeartbeats 25600000
set_option linter.unusedVariables false
set_option linter.unusedSimpArgs false
namespace Go.Proofs.YthkehmnodcmlcaaGreat
open Go.RowKit
open Go.Lib (hid)
theorem in_onlyZ {w w' w0 : World} {lo hi : Nat} (h : Below w0.heap.size w0 w) (hb : Only (InG lo hi w.heap.size) w w') (hlo : w0.heap.size ≤ lo) : Below w0.heap.size w0 w' :=
 h.trans (hb.below fun k hk hs => by
  have := h.size
  rcases InG_cases hs with h1 | h1 <;> omega)
theorem prodK_fitL (S : List (List Rat)) (s : Bool) : ∀ k, fitO (prodK S s k)
 |0 => by
  intro x hx
  simp only [prodK, Option.some.injEq] at hx
  subst hx
  cases s
  ·exact fitO_i64 (n := 1) (by decide) (by decide) _ rfl
  ·exact fitO_i64 (n := -1) (by decide) (by decide) _ rfl
 | k + 1 => fitO_bq fitO_mul _ _
theorem detM_fitL (M : List (List Fq)) : fitO (detM M) := by
 unfold detM
 split
 ·unfold detV
  split
  ·exact fitO_none
  ·exact fitO_i64 (n := 0) (by decide) (by decide)
  ·exact prodK_fitL _ _ _
 ·exact fitO_none
theorem law_Det (a : Option Addr) (n c : Nat) (M : List (List Fq)) (hnM : n ≤ maxLen) (hmM : MLen M) (w : World) (rM : MCame w w.heap.size a n M) :
  Calls Tryz.prog 12 #[.slice a n c] w (RetB (.bool true) w) := by
 have B := hid (Below.refl w.heap.size w)
 have rM := hid rM
 by_cases hsM : (M.length : Int) + (szM M : Int) ≤ 1048576
 case neg =>
  go_enter Tryz.func12, Tryz.ntmps12
  obtain ⟨w0, hw0⟩ : ∃ w0, w0 = w := ⟨_, rfl⟩
  rw [← hw0] at B rM ⊢
  clear hw0
  go_wp2_with fail
  (with_reducible refine (szRatSS_no _ _ _ _ M (1048576) hnM hmM (by omega) (by omega) (by omega) _ rM.out).mono ?_)
  rintro e w1 ⟨rfl, b1⟩
  have t1 : w0.heap.size ≤ w1.heap.size := by have := b1.size; omega
  have rM := hid (rM.out.old b1)
  have B := hid (B.out.trans (b1.mono B.out.size))
  clear b1
  go_wp2
  go_ret
  exact ⟨rfl, B.out⟩
 have hSM : Sm2 M := Sm2.of (by omega)
 have hslM : szM M ≤ 1048576 := by omega
 have hllM : M.length ≤ 1048576 := by omega
 obtain ⟨rs, R1, R2, l1, l2, KS0, KI0⟩ : ∃ rs R1 R2, R1.length ≤ 24 ∧ R2.length ≤ 24 ∧ (∀ (W : World) (a : Option Addr) (n c lo hi : Nat) (h : MW W a n M lo hi), Calls Tryz.prog 51 #[.slice a n c] W (OwnRS rs R1 R2 W)) ∧ (∀ (W : World) (a : Option Addr) (n c lo hi : Nat) (h : MW W a n M lo hi) (hh : hi ≤ W.heap.size), Calls Tryz.prog 53 #[.slice a n c] W (OwnRR rs R1 R2 W)) :=
  ⟨_, _, _, (rval_parts (o := detM M) (detM_fitL M)).2.2.1, (rval_parts (o := detM M) (detM_fitL M)).2.2.2, fun W a n c lo hi h => (spec_Det (c := c) hSM W h).mono fun e w' hh => OwnRS_of hh.ownS, fun W a n c lo hi h hh => (impl_Det (c := c) hSM W h hh).mono fun e w' hh => OwnRR_of hh.own⟩
 have KS := hid KS0
 have KI := hid KI0
 clear KS0 KI0
 go_enter Tryz.func12, Tryz.ntmps12
 obtain ⟨w0, hw0⟩ : ∃ w0, w0 = w := ⟨_, rfl⟩
 rw [← hw0] at B rM ⊢
 clear hw0
 go_wp2_with fail
 (with_reducible refine (szRatSS_yes _ _ _ _ M (1048576) (by omega) (by omega) _ rM.out).mono ?_)
 rintro e w1 ⟨rfl, b1⟩
 have t1 : w0.heap.size ≤ w1.heap.size := by have := b1.size; omega
 have rM := hid (rM.out.old b1)
 have B := hid (B.out.trans (b1.mono B.out.size))
 clear b1
 go_wp2_with fail
 (with_reducible refine (toRatSS_came _ _ _ _ M (by omega) _ rM.out).mono ?_)
 rintro e w2 ⟨a2, n2, c2, rfl, i1, b1⟩
 have t2 : w1.heap.size ≤ w2.heap.size := by have := b1.size; omega
 have rM := hid (rM.out.old b1)
 have B := hid (B.out.trans (b1.mono B.out.size))
 have TM := hid i1
 clear i1 b1
 go_wp2_with fail
 (with_reducible refine (KS.out _ _ _ _ _ _ TM.out.mw).mono ?_)
 rintro e w3 ⟨v3, u3, rfl, i1, b1⟩
 have t3 : w2.heap.size ≤ w3.heap.size := by have := b1.size; omega
 have rM := hid (rM.out.old b1)
 have TM := hid (TM.out.old b1)
 have B := hid (B.out.trans (b1.mono B.out.size))
 have W0 := hid i1
 obtain ⟨x3, y3, z3, p3, rfl, rfl⟩ := i1.form
 clear i1 b1
 have rM := hid (rM.out.old (below_new' (o := .cells #[.bool rs, .slice x3 R1.length y3, .slice z3 R2.length p3] 37)))
 have TM := hid (TM.out.old (below_new' (o := .cells #[.bool rs, .slice x3 R1.length y3, .slice z3 R2.length p3] 37)))
 have W0 := hid (W0.out.old (below_new' (o := .cells #[.bool rs, .slice x3 R1.length y3, .slice z3 R2.length p3] 37)))
 have B := hid (B.out.alloc B.out.size (.cells #[.bool rs, .slice x3 R1.length y3, .slice z3 R2.length p3] 37))
 have LW0 := hid (LocA.new (w := w3) (T := 37) (cs := #[.bool rs, .slice x3 R1.length y3, .slice z3 R2.length p3]))
 have hs3 : (w3.alloc (.cells #[.bool rs, .slice x3 R1.length y3, .slice z3 R2.length p3] 37)).heap.size = w3.heap.size + 1 := by simp
 go_wp2_with fail
 (with_reducible refine (toRatSS_came _ _ _ _ M (by omega) _ rM.out).mono ?_)
 rintro e w4 ⟨a4, n4, c4, rfl, i1, b1⟩
 have t4 : w3.heap.size + 1 ≤ w4.heap.size := by have := b1.size; simp at this; omega
 have rM := hid (rM.out.old b1)
 have W0 := hid (W0.out.old b1)
 have LW0 := hid (LW0.out.old b1)
 have B := hid (B.out.trans (b1.mono B.out.size))
 have XM := hid i1
 clear i1 b1
 go_wp2_with fail
 (with_reducible refine (KI.out _ _ _ _ _ _ XM.out.mw (by omega)).mono ?_)
 rintro e w5 ⟨v5, u5, rfl, i1, b1⟩
 have t5 : w4.heap.size ≤ w5.heap.size := by have := b1.size; omega
 have rM := hid (rM.out.old b1)
 have W0 := hid (W0.out.old b1)
 have LW0 := hid (LW0.out.old b1)
 have XM := hid (XM.out.old b1)
 have B := hid (B.out.trans (b1.mono B.out.size))
 have G0 := hid i1
 obtain ⟨x5, y5, z5, p5, rfl, rfl⟩ := i1.form
 clear i1 b1
 have rM := hid (rM.out.old (below_new' (o := .cells #[.bool rs, .slice x5 R1.length y5, .slice z5 R2.length p5] 37)))
 have W0 := hid (W0.out.old (below_new' (o := .cells #[.bool rs, .slice x5 R1.length y5, .slice z5 R2.length p5] 37)))
 have LW0 := hid (LW0.out.old (below_new' (o := .cells #[.bool rs, .slice x5 R1.length y5, .slice z5 R2.length p5] 37)))
 have XM := hid (XM.out.old (below_new' (o := .cells #[.bool rs, .slice x5 R1.length y5, .slice z5 R2.length p5] 37)))
 have G0 := hid (G0.out.old (below_new' (o := .cells #[.bool rs, .slice x5 R1.length y5, .slice z5 R2.length p5] 37)))
 have B := hid (B.out.alloc B.out.size (.cells #[.bool rs, .slice x5 R1.length y5, .slice z5 R2.length p5] 37))
 have LG0 := hid (LocA.new (w := w5) (T := 37) (cs := #[.bool rs, .slice x5 R1.length y5, .slice z5 R2.length p5]))
 have hs5 : (w5.alloc (.cells #[.bool rs, .slice x5 R1.length y5, .slice z5 R2.length p5] 37)).heap.size = w5.heap.size + 1 := by simp
 obtain ⟨q0, q1, q2⟩ := LG0.out.all3
 obtain ⟨q3, q4, q5⟩ := LW0.out.all3
 go_wp2_with fail
 (with_reducible refine (eqRat_w rs _ _ _ _ R1 R2 _ _ _ _ (by omega) (by omega) _ G0.out.w W0.out.w).mono ?_)
 clear q0 q1 q2 q3 q4 q5
 rintro e w6 ⟨rfl, b1⟩
 have t6 : w5.heap.size + 1 ≤ w6.heap.size := by have := b1.size; simp at this; omega
 have rM := hid (rM.out.old b1)
 have W0 := hid (W0.out.old b1)
 have LW0 := hid (LW0.out.old b1)
 have XM := hid (XM.out.old b1)
 have G0 := hid (G0.out.old b1)
 have LG0 := hid (LG0.out.old b1)
 have B := hid (B.out.trans (b1.mono B.out.size))
 clear b1
 go_wp2_with fail
 (with_reducible refine (toRatSS_came _ _ _ _ M (by omega) _ rM.out).mono ?_)
 rintro e w7 ⟨a7, n7, c7, rfl, i1, b1⟩
 have t7 : w6.heap.size ≤ w7.heap.size := by have := b1.size; omega
 have rM := hid (rM.out.old b1)
 have W0 := hid (W0.out.old b1)
 have LW0 := hid (LW0.out.old b1)
 have XM := hid (XM.out.old b1)
 have G0 := hid (G0.out.old b1)
 have LG0 := hid (LG0.out.old b1)
 have B := hid (B.out.trans (b1.mono B.out.size))
 have TM := hid i1
 clear i1 b1
 go_wp2_with fail
 (with_reducible refine (eqRatSS_w (by omega) (by omega) _ XM.out.mw TM.out.mw).mono ?_)
 rintro e w8 ⟨rfl, b1⟩
 have t8 : w7.heap.size ≤ w8.heap.size := by have := b1.size; omega
 have rM := hid (rM.out.old b1)
 have W0 := hid (W0.out.old b1)
 have LW0 := hid (LW0.out.old b1)
 have XM := hid (XM.out.old b1)
 have G0 := hid (G0.out.old b1)
 have LG0 := hid (LG0.out.old b1)
 have TM := hid (TM.out.old b1)
 have B := hid (B.out.trans (b1.mono B.out.size))
 clear b1
 go_wp2_with fail
 (with_reducible refine (markRatSS_k (m := 1) (by omega) (by omega) (by omega) (by omega) _ XM.out).mono ?_)
 rintro e w9 ⟨rfl, o1, b1⟩
 have t9 : w8.heap.size ≤ w9.heap.size := by have := b1.size; omega
 have XM := hid o1
 have rM := hid (rM.out.onlyG b1 (by omega))
 have W0 := hid (W0.out.onlyG b1 (by omega))
 have LW0 := hid (LW0.out.onlyG b1 (by omega))
 have G0 := hid (G0.out.onlyG b1 (by omega))
 have LG0 := hid (LG0.out.onlyG b1 (by omega))
 have B := hid (in_onlyZ B.out b1 (by omega))
 clear o1 b1
 have hm0 : ¬ 1 + (szM M : Int) < 0 := by omega
 obtain ⟨q0, q1, q2⟩ := LG0.out.all3
 obtain ⟨q3, q4, q5⟩ := LW0.out.all3
 go_wp2_with fail
 (with_reducible refine (eqRat_w rs _ _ _ _ R1 R2 _ _ _ _ (by omega) (by omega) _ G0.out.w W0.out.w).mono ?_)
 clear q0 q1 q2 q3 q4 q5
 rintro e w10 ⟨rfl, b1⟩
 have t10 : w9.heap.size ≤ w10.heap.size := by have := b1.size; omega
 have rM := hid (rM.out.old b1)
 have W0 := hid (W0.out.old b1)
 have LW0 := hid (LW0.out.old b1)
 have XM := hid (XM.out.old b1)
 have G0 := hid (G0.out.old b1)
 have LG0 := hid (LG0.out.old b1)
 have B := hid (B.out.trans (b1.mono B.out.size))
 clear b1
 obtain ⟨q0, q1, q2⟩ := LG0.out.all3
 go_wp2_with fail
 (with_reducible refine (markRat_obj rs _ _ R1 R2 1 _ _ (by omega) (by omega) (by omega) (by omega) _ G0.out).mono ?_)
 clear q0 q1 q2
 rintro e w11 ⟨rfl, o1, b1⟩
 have t11 : w10.heap.size ≤ w11.heap.size := by have := b1.size; omega
 have G0 := hid o1
 have rM := hid (rM.out.onlyG b1 (by omega))
 have W0 := hid (W0.out.onlyG b1 (by omega))
 have LW0 := hid (LW0.out.onlyG b1 (by omega))
 have LG0 := hid (LG0.out.onlyG b1 (by omega))
 have B := hid (in_onlyZ B.out b1 (by omega))
 clear o1 b1
 have hq0 : ¬ 1 + (R1.length : Int) + (R2.length : Int) < 0 := by omega
 obtain ⟨q0, q1, q2⟩ := LG0.out.all3
 go_wp2_with fail
 (with_reducible refine (heldRat_obj rs _ _ R1.length R2.length 1 _ _ (by omega) (by omega) (by omega) (by omega) _ G0.out).mono ?_)
 clear q0 q1 q2
 rintro e w12 ⟨rfl, b1⟩
 have t12 : w11.heap.size ≤ w12.heap.size := by have := b1.size; omega
 have rM := hid (rM.out.old b1)
 have W0 := hid (W0.out.old b1)
 have LW0 := hid (LW0.out.old b1)
 have G0 := hid (G0.out.old b1)
 have LG0 := hid (LG0.out.old b1)
 have B := hid (B.out.trans (b1.mono B.out.size))
 clear b1
 go_wp2_with fail
 (with_reducible refine (toRatSS_came _ _ _ _ M (by omega) _ rM.out).mono ?_)
 rintro e w13 ⟨a13, n13, c13, rfl, i1, b1⟩
 have t13 : w12.heap.size ≤ w13.heap.size := by have := b1.size; omega
 have rM := hid (rM.out.old b1)
 have W0 := hid (W0.out.old b1)
 have LW0 := hid (LW0.out.old b1)
 have G0 := hid (G0.out.old b1)
 have LG0 := hid (LG0.out.old b1)
 have B := hid (B.out.trans (b1.mono B.out.size))
 have YM := hid i1
 clear i1 b1
 go_wp2_with fail
 (with_reducible refine (KI.out _ _ _ _ _ _ YM.out.mw (by omega)).mono ?_)
 rintro e w14 ⟨v14, u14, rfl, i1, b1⟩
 have t14 : w13.heap.size ≤ w14.heap.size := by have := b1.size; omega
 have rM := hid (rM.out.old b1)
 have W0 := hid (W0.out.old b1)
 have LW0 := hid (LW0.out.old b1)
 have G0 := hid (G0.out.old b1)
 have LG0 := hid (LG0.out.old b1)
 have YM := hid (YM.out.old b1)
 have B := hid (B.out.trans (b1.mono B.out.size))
 have H0 := hid i1
 obtain ⟨x14, y14, z14, p14, rfl, rfl⟩ := i1.form
 clear i1 b1
 have rM := hid (rM.out.old (below_new' (o := .cells #[.bool rs, .slice x14 R1.length y14, .slice z14 R2.length p14] 37)))
 have W0 := hid (W0.out.old (below_new' (o := .cells #[.bool rs, .slice x14 R1.length y14, .slice z14 R2.length p14] 37)))
 have LW0 := hid (LW0.out.old (below_new' (o := .cells #[.bool rs, .slice x14 R1.length y14, .slice z14 R2.length p14] 37)))
 have G0 := hid (G0.out.old (below_new' (o := .cells #[.bool rs, .slice x14 R1.length y14, .slice z14 R2.length p14] 37)))
 have LG0 := hid (LG0.out.old (below_new' (o := .cells #[.bool rs, .slice x14 R1.length y14, .slice z14 R2.length p14] 37)))
 have YM := hid (YM.out.old (below_new' (o := .cells #[.bool rs, .slice x14 R1.length y14, .slice z14 R2.length p14] 37)))
 have H0 := hid (H0.out.old (below_new' (o := .cells #[.bool rs, .slice x14 R1.length y14, .slice z14 R2.length p14] 37)))
 have B := hid (B.out.alloc B.out.size (.cells #[.bool rs, .slice x14 R1.length y14, .slice z14 R2.length p14] 37))
 have LH0 := hid (LocA.new (w := w14) (T := 37) (cs := #[.bool rs, .slice x14 R1.length y14, .slice z14 R2.length p14]))
 have hs14 : (w14.alloc (.cells #[.bool rs, .slice x14 R1.length y14, .slice z14 R2.length p14] 37)).heap.size = w14.heap.size + 1 := by simp
 obtain ⟨q0, q1, q2⟩ := LH0.out.all3
 obtain ⟨q3, q4, q5⟩ := LW0.out.all3
 go_wp2_with fail
 (with_reducible refine (eqRat_w rs _ _ _ _ R1 R2 _ _ _ _ (by omega) (by omega) _ H0.out.w W0.out.w).mono ?_)
 clear q0 q1 q2 q3 q4 q5
 rintro e w15 ⟨rfl, b1⟩
 have t15 : w14.heap.size + 1 ≤ w15.heap.size := by have := b1.size; simp at this; omega
 have rM := hid (rM.out.old b1)
 have W0 := hid (W0.out.old b1)
 have LW0 := hid (LW0.out.old b1)
 have G0 := hid (G0.out.old b1)
 have LG0 := hid (LG0.out.old b1)
 have H0 := hid (H0.out.old b1)
 have LH0 := hid (LH0.out.old b1)
 have B := hid (B.out.trans (b1.mono B.out.size))
 clear b1
 obtain ⟨q0, q1, q2⟩ := LG0.out.all3
 go_wp2_with fail
 (with_reducible refine (heldRat_obj rs _ _ R1.length R2.length 1 _ _ (by omega) (by omega) (by omega) (by omega) _ G0.out).mono ?_)
 clear q0 q1 q2
 rintro e w16 ⟨rfl, b1⟩
 have t16 : w15.heap.size ≤ w16.heap.size := by have := b1.size; omega
 have rM := hid (rM.out.old b1)
 have W0 := hid (W0.out.old b1)
 have LW0 := hid (LW0.out.old b1)
 have G0 := hid (G0.out.old b1)
 have LG0 := hid (LG0.out.old b1)
 have H0 := hid (H0.out.old b1)
 have LH0 := hid (LH0.out.old b1)
 have B := hid (B.out.trans (b1.mono B.out.size))
 clear b1
 go_wp2
 go_ret
 exact ⟨rfl, B.out⟩
end Go.Proofs.YthkehmnodcmlcaaGreat
