/- The law TermsCoef. -/
import Derived.Test.YtnkcihcmkojdmaaTcf
import Derived.Deep.RegionHeld3
import Derived.Deep.DeepCutAuto
namespace Go.Proofs.Ytnkcihcmkojdmaa
open Go.RowKit
open Go.Lib (hid)
set_option linter.unusedVariables false

theorem coef_facts {K : List Tq} (hK : SmT K) (z : Int) : ∃ (rs : Bool) (R1 R2 : List Int), R1.length ≤ 1048576 ∧ R2.length ≤ 1048576 ∧
    (∀ (W : World) (a : Option Addr) (n c : Nat) (l1 h1 : Nat) (hv : TK true W (.slice a n c) K l1 h1), Calls Try.prog 25 #[.slice a n c, .int .i64 z] W (OwnRS rs R1 R2 W)) ∧
    (∀ (W : World) (a : Option Addr) (n c : Nat) (l1 h1 : Nat) (hv : TK true W (.slice a n c) K l1 h1), Calls Try.prog 26 #[.slice a n c, .int .i64 z] W (OwnRR rs R1 R2 W)) := by
  have h := coefT_sm hK (z := z)
  refine ⟨(coefT K z).s, (coefT K z).A, (coefT K z).D, h.1, h.2, fun W a n c l1 h1 hv => ?_, fun W a n c l1 h1 hv => ?_⟩
  · exact (spec_TermsCoef hK z W hv).mono fun e w' ⟨a, c, b, d, he, hr, hb⟩ => ⟨_, _, he, ⟨Obj_at hr.i (Nat.le_refl _), Obj_at hr.j (Nat.le_refl _)⟩, hb⟩
  · exact (impl_TermsCoef hK z W hv).mono fun e w' ⟨a, c, b, d, he, hr, hb⟩ => ⟨_, _, he, ⟨Obj_at hr.i (Nat.le_refl _), Obj_at hr.j (Nat.le_refl _), hr.nd rfl⟩, hb⟩
set_option maxRecDepth 100000 in
set_option maxHeartbeats 25600000 in
theorem law_TermsCoef (a : Option Addr) (n c : Nat) (K : List Tq) (hnK : n ≤ maxLen) (hmK : ∀ f ∈ K, f.A.length ≤ maxLen ∧ f.D.length ≤ maxLen) (z : Int) (z0 : -9223372036854775808 ≤ z) (z1 : z ≤ 9223372036854775807) (w : World) (rK : TCame w w.heap.size a n K) :
    Calls Try.prog 6 #[.slice a n c, .int .i64 z] w (RetB (.bool true) w) := by
  have B := hid (Below.refl w.heap.size w)
  have rK := hid rK
  by_cases hsK : (szU K : Int) ≤ 1048576
  case neg =>
    go_enter Try.func6, Try.ntmps6
    obtain ⟨w0, hw0⟩ : ∃ w0, w0 = w := ⟨_, rfl⟩
    rw [← hw0] at B rK ⊢
    clear hw0
    go_wp2_with fail
    (with_reducible refine (szTermS_no _ _ _ _ K (1048576) hnK hmK (by omega) (by omega) (by omega) _ rK.out).mono ?_)
    rintro e w1 ⟨rfl, b1⟩
    have t1 : w0.heap.size ≤ w1.heap.size := by have := b1.size; omega
    have rK := hid (rK.out.old b1)
    have B := hid (B.out.trans (b1.mono B.out.size))
    clear b1
    go_wp2
    go_ret
    exact ⟨rfl, B.out⟩
  have hztK := szT_szU K
  have hSK : SmT K := SmT.of (by omega)
  have hslK : szU K ≤ 1048576 := by omega
  obtain ⟨rs, R1, R2, hr1, hr2, KS0, KI0⟩ := coef_facts hSK z
  have KS := hid KS0
  have KI := hid KI0
  clear KS0 KI0
  go_enter Try.func6, Try.ntmps6
  obtain ⟨w0, hw0⟩ : ∃ w0, w0 = w := ⟨_, rfl⟩
  rw [← hw0] at B rK ⊢
  clear hw0
  go_wp2_with fail
  (with_reducible refine (szTermS_yes _ _ _ _ K (1048576) (by omega) (by omega) _ rK.out).mono ?_)
  rintro e w1 ⟨rfl, b1⟩
  have t1 : w0.heap.size ≤ w1.heap.size := by have := b1.size; omega
  have rK := hid (rK.out.old b1)
  have B := hid (B.out.trans (b1.mono B.out.size))
  clear b1
  go_wp2_with fail
  (with_reducible refine (toTermS_came _ _ _ _ K (by omega) _ rK.out).mono ?_)
  rintro e w2 ⟨a2, n2, c2, rfl, i1, b1⟩
  have t2 : w1.heap.size ≤ w2.heap.size := by have := b1.size; omega
  have rK := hid (rK.out.old b1)
  have B := hid (B.out.trans (b1.mono B.out.size))
  have TK := hid i1
  clear i1 b1
  go_wp2_with fail
  (with_reducible refine (KS.out _ _ _ _ _ _ TK.out).mono ?_)
  rintro e w3 ⟨v3, u3, rfl, i1, b1⟩
  have t3 : w2.heap.size ≤ w3.heap.size := by have := b1.size; omega
  have rK := hid (rK.out.old b1)
  have TK := hid (TK.out.old b1)
  have B := hid (B.out.trans (b1.mono B.out.size))
  have W0 := hid i1
  obtain ⟨x3, y3, z3, p3, rfl, rfl⟩ := i1.form
  clear i1 b1
  have rK := hid (rK.out.old (below_new' (o := .cells #[.bool rs, .slice x3 R1.length y3, .slice z3 R2.length p3] 43)))
  have TK := hid (TK.out.old (below_new' (o := .cells #[.bool rs, .slice x3 R1.length y3, .slice z3 R2.length p3] 43)))
  have W0 := hid (W0.out.old (below_new' (o := .cells #[.bool rs, .slice x3 R1.length y3, .slice z3 R2.length p3] 43)))
  have B := hid (B.out.alloc B.out.size (.cells #[.bool rs, .slice x3 R1.length y3, .slice z3 R2.length p3] 43))
  have LW0 := hid (LocA.new (w := w3) (T := 43) (cs := #[.bool rs, .slice x3 R1.length y3, .slice z3 R2.length p3]))
  have hs3 : (w3.alloc (.cells #[.bool rs, .slice x3 R1.length y3, .slice z3 R2.length p3] 43)).heap.size = w3.heap.size + 1 := by simp
  go_wp2_with fail
  (with_reducible refine (toTermS_came _ _ _ _ K (by omega) _ rK.out).mono ?_)
  rintro e w4 ⟨a4, n4, c4, rfl, i1, b1⟩
  have t4 : w3.heap.size + 1 ≤ w4.heap.size := by have := b1.size; simp at this; omega
  have rK := hid (rK.out.old b1)
  have W0 := hid (W0.out.old b1)
  have LW0 := hid (LW0.out.old b1)
  have B := hid (B.out.trans (b1.mono B.out.size))
  have XK := hid i1
  clear i1 b1
  go_wp2_with fail
  (with_reducible refine (KI.out _ _ _ _ _ _ XK.out).mono ?_)
  rintro e w5 ⟨v5, u5, rfl, i1, b1⟩
  have t5 : w4.heap.size ≤ w5.heap.size := by have := b1.size; omega
  have rK := hid (rK.out.old b1)
  have W0 := hid (W0.out.old b1)
  have LW0 := hid (LW0.out.old b1)
  have XK := hid (XK.out.old b1)
  have B := hid (B.out.trans (b1.mono B.out.size))
  have G0 := hid i1
  obtain ⟨x5, y5, z5, p5, rfl, rfl⟩ := i1.form
  clear i1 b1
  have rK := hid (rK.out.old (below_new' (o := .cells #[.bool rs, .slice x5 R1.length y5, .slice z5 R2.length p5] 43)))
  have W0 := hid (W0.out.old (below_new' (o := .cells #[.bool rs, .slice x5 R1.length y5, .slice z5 R2.length p5] 43)))
  have LW0 := hid (LW0.out.old (below_new' (o := .cells #[.bool rs, .slice x5 R1.length y5, .slice z5 R2.length p5] 43)))
  have XK := hid (XK.out.old (below_new' (o := .cells #[.bool rs, .slice x5 R1.length y5, .slice z5 R2.length p5] 43)))
  have G0 := hid (G0.out.old (below_new' (o := .cells #[.bool rs, .slice x5 R1.length y5, .slice z5 R2.length p5] 43)))
  have B := hid (B.out.alloc B.out.size (.cells #[.bool rs, .slice x5 R1.length y5, .slice z5 R2.length p5] 43))
  have LG0 := hid (LocA.new (w := w5) (T := 43) (cs := #[.bool rs, .slice x5 R1.length y5, .slice z5 R2.length p5]))
  have hs5 : (w5.alloc (.cells #[.bool rs, .slice x5 R1.length y5, .slice z5 R2.length p5] 43)).heap.size = w5.heap.size + 1 := by simp
  have q0 := LG0.out.c 0 (v := .bool rs) rfl
  have q1 := LG0.out.c 1 (v := .slice x5 R1.length y5) rfl
  have q2 := LG0.out.c 2 (v := .slice z5 R2.length p5) rfl
  have q3 := LW0.out.c 0 (v := .bool rs) rfl
  have q4 := LW0.out.c 1 (v := .slice x3 R1.length y3) rfl
  have q5 := LW0.out.c 2 (v := .slice z3 R2.length p3) rfl
  go_wp2_with fail
  (with_reducible refine (eqRat_w rs _ _ _ _ R1 R2 _ _ _ _ (by omega) (by omega) _ G0.out.w W0.out).mono ?_)
  clear q0 q1 q2 q3 q4 q5
  rintro e w6 ⟨rfl, b1⟩
  have t6 : w5.heap.size + 1 ≤ w6.heap.size := by have := b1.size; simp at this; omega
  have rK := hid (rK.out.old b1)
  have W0 := hid (W0.out.old b1)
  have LW0 := hid (LW0.out.old b1)
  have XK := hid (XK.out.old b1)
  have G0 := hid (G0.out.old b1)
  have LG0 := hid (LG0.out.old b1)
  have B := hid (B.out.trans (b1.mono B.out.size))
  clear b1
  go_wp2_with fail
  (with_reducible refine (toTermS_came _ _ _ _ K (by omega) _ rK.out).mono ?_)
  rintro e w7 ⟨a7, n7, c7, rfl, i1, b1⟩
  have t7 : w6.heap.size ≤ w7.heap.size := by have := b1.size; omega
  have rK := hid (rK.out.old b1)
  have W0 := hid (W0.out.old b1)
  have LW0 := hid (LW0.out.old b1)
  have XK := hid (XK.out.old b1)
  have G0 := hid (G0.out.old b1)
  have LG0 := hid (LG0.out.old b1)
  have B := hid (B.out.trans (b1.mono B.out.size))
  have TK := hid i1
  clear i1 b1
  go_wp2_with fail
  (with_reducible refine (eqTermS_k (by omega) _ XK.out TK.out).mono ?_)
  rintro e w8 ⟨rfl, b1⟩
  have t8 : w7.heap.size ≤ w8.heap.size := by have := b1.size; omega
  have rK := hid (rK.out.old b1)
  have W0 := hid (W0.out.old b1)
  have LW0 := hid (LW0.out.old b1)
  have XK := hid (XK.out.old b1)
  have G0 := hid (G0.out.old b1)
  have LG0 := hid (LG0.out.old b1)
  have TK := hid (TK.out.old b1)
  have B := hid (B.out.trans (b1.mono B.out.size))
  clear b1
  go_wp2_with fail
  (with_reducible refine (markTermS_k (m := 1) (by omega) (by omega) (by omega) _ XK.out).mono ?_)
  rintro e w9 ⟨rfl, o1, b1⟩
  have t9 : w8.heap.size ≤ w9.heap.size := by have := b1.size; omega
  have XK := hid o1
  have rK := hid (rK.out.onlyG b1 (by omega))
  have W0 := hid (W0.out.onlyG b1 (by omega))
  have LW0 := hid (LW0.out.onlyG b1 (by omega))
  have G0 := hid (G0.out.onlyG b1 (by omega))
  have LG0 := hid (LG0.out.onlyG b1 (by omega))
  have B := hid (in_onlyG B.out b1 (by omega))
  clear o1 b1
  have hm0 : ¬ 1 + (szT K : Int) < 0 := by omega
  have q0 := LG0.out.c 0 (v := .bool rs) rfl
  have q1 := LG0.out.c 1 (v := .slice x5 R1.length y5) rfl
  have q2 := LG0.out.c 2 (v := .slice z5 R2.length p5) rfl
  have q3 := LW0.out.c 0 (v := .bool rs) rfl
  have q4 := LW0.out.c 1 (v := .slice x3 R1.length y3) rfl
  have q5 := LW0.out.c 2 (v := .slice z3 R2.length p3) rfl
  go_wp2_with fail
  (with_reducible refine (eqRat_w rs _ _ _ _ R1 R2 _ _ _ _ (by omega) (by omega) _ G0.out.w W0.out).mono ?_)
  clear q0 q1 q2 q3 q4 q5
  rintro e w10 ⟨rfl, b1⟩
  have t10 : w9.heap.size ≤ w10.heap.size := by have := b1.size; omega
  have rK := hid (rK.out.old b1)
  have W0 := hid (W0.out.old b1)
  have LW0 := hid (LW0.out.old b1)
  have XK := hid (XK.out.old b1)
  have G0 := hid (G0.out.old b1)
  have LG0 := hid (LG0.out.old b1)
  have B := hid (B.out.trans (b1.mono B.out.size))
  clear b1
  have q0 := LG0.out.c 0 (v := .bool rs) rfl
  have q1 := LG0.out.c 1 (v := .slice x5 R1.length y5) rfl
  have q2 := LG0.out.c 2 (v := .slice z5 R2.length p5) rfl
  go_wp2_with fail
  (with_reducible refine (markRat_obj rs _ _ R1 R2 1 _ _ (by omega) (by omega) (by omega) (by omega) _ G0.out).mono ?_)
  clear q0 q1 q2
  rintro e w11 ⟨rfl, o1, b1⟩
  have t11 : w10.heap.size ≤ w11.heap.size := by have := b1.size; omega
  have G0 := hid o1
  have rK := hid (rK.out.onlyG b1 (by omega))
  have W0 := hid (W0.out.onlyG b1 (by omega))
  have LW0 := hid (LW0.out.onlyG b1 (by omega))
  have LG0 := hid (LG0.out.onlyG b1 (by omega))
  have B := hid (in_onlyG B.out b1 (by omega))
  clear o1 b1
  have hq0 : ¬ 1 + (R1.length : Int) + (R2.length : Int) < 0 := by omega
  have q0 := LG0.out.c 0 (v := .bool rs) rfl
  have q1 := LG0.out.c 1 (v := .slice x5 R1.length y5) rfl
  have q2 := LG0.out.c 2 (v := .slice z5 R2.length p5) rfl
  go_wp2_with fail
  (with_reducible refine (heldRat_obj rs _ _ R1.length R2.length 1 _ _ (by omega) (by omega) (by omega) (by omega) _ G0.out).mono ?_)
  clear q0 q1 q2
  rintro e w12 ⟨rfl, b1⟩
  have t12 : w11.heap.size ≤ w12.heap.size := by have := b1.size; omega
  have rK := hid (rK.out.old b1)
  have W0 := hid (W0.out.old b1)
  have LW0 := hid (LW0.out.old b1)
  have G0 := hid (G0.out.old b1)
  have LG0 := hid (LG0.out.old b1)
  have B := hid (B.out.trans (b1.mono B.out.size))
  clear b1
  go_wp2_with fail
  (with_reducible refine (toTermS_came _ _ _ _ K (by omega) _ rK.out).mono ?_)
  rintro e w13 ⟨a13, n13, c13, rfl, i1, b1⟩
  have t13 : w12.heap.size ≤ w13.heap.size := by have := b1.size; omega
  have rK := hid (rK.out.old b1)
  have W0 := hid (W0.out.old b1)
  have LW0 := hid (LW0.out.old b1)
  have G0 := hid (G0.out.old b1)
  have LG0 := hid (LG0.out.old b1)
  have B := hid (B.out.trans (b1.mono B.out.size))
  have YK := hid i1
  clear i1 b1
  go_wp2_with fail
  (with_reducible refine (KI.out _ _ _ _ _ _ YK.out).mono ?_)
  rintro e w14 ⟨v14, u14, rfl, i1, b1⟩
  have t14 : w13.heap.size ≤ w14.heap.size := by have := b1.size; omega
  have rK := hid (rK.out.old b1)
  have W0 := hid (W0.out.old b1)
  have LW0 := hid (LW0.out.old b1)
  have G0 := hid (G0.out.old b1)
  have LG0 := hid (LG0.out.old b1)
  have YK := hid (YK.out.old b1)
  have B := hid (B.out.trans (b1.mono B.out.size))
  have H0 := hid i1
  obtain ⟨x14, y14, z14, p14, rfl, rfl⟩ := i1.form
  clear i1 b1
  have rK := hid (rK.out.old (below_new' (o := .cells #[.bool rs, .slice x14 R1.length y14, .slice z14 R2.length p14] 43)))
  have W0 := hid (W0.out.old (below_new' (o := .cells #[.bool rs, .slice x14 R1.length y14, .slice z14 R2.length p14] 43)))
  have LW0 := hid (LW0.out.old (below_new' (o := .cells #[.bool rs, .slice x14 R1.length y14, .slice z14 R2.length p14] 43)))
  have G0 := hid (G0.out.old (below_new' (o := .cells #[.bool rs, .slice x14 R1.length y14, .slice z14 R2.length p14] 43)))
  have LG0 := hid (LG0.out.old (below_new' (o := .cells #[.bool rs, .slice x14 R1.length y14, .slice z14 R2.length p14] 43)))
  have YK := hid (YK.out.old (below_new' (o := .cells #[.bool rs, .slice x14 R1.length y14, .slice z14 R2.length p14] 43)))
  have H0 := hid (H0.out.old (below_new' (o := .cells #[.bool rs, .slice x14 R1.length y14, .slice z14 R2.length p14] 43)))
  have B := hid (B.out.alloc B.out.size (.cells #[.bool rs, .slice x14 R1.length y14, .slice z14 R2.length p14] 43))
  have LH0 := hid (LocA.new (w := w14) (T := 43) (cs := #[.bool rs, .slice x14 R1.length y14, .slice z14 R2.length p14]))
  have hs14 : (w14.alloc (.cells #[.bool rs, .slice x14 R1.length y14, .slice z14 R2.length p14] 43)).heap.size = w14.heap.size + 1 := by simp
  have q0 := LH0.out.c 0 (v := .bool rs) rfl
  have q1 := LH0.out.c 1 (v := .slice x14 R1.length y14) rfl
  have q2 := LH0.out.c 2 (v := .slice z14 R2.length p14) rfl
  have q3 := LW0.out.c 0 (v := .bool rs) rfl
  have q4 := LW0.out.c 1 (v := .slice x3 R1.length y3) rfl
  have q5 := LW0.out.c 2 (v := .slice z3 R2.length p3) rfl
  go_wp2_with fail
  (with_reducible refine (eqRat_w rs _ _ _ _ R1 R2 _ _ _ _ (by omega) (by omega) _ H0.out.w W0.out).mono ?_)
  clear q0 q1 q2 q3 q4 q5
  rintro e w15 ⟨rfl, b1⟩
  have t15 : w14.heap.size + 1 ≤ w15.heap.size := by have := b1.size; simp at this; omega
  have rK := hid (rK.out.old b1)
  have W0 := hid (W0.out.old b1)
  have LW0 := hid (LW0.out.old b1)
  have G0 := hid (G0.out.old b1)
  have LG0 := hid (LG0.out.old b1)
  have H0 := hid (H0.out.old b1)
  have LH0 := hid (LH0.out.old b1)
  have B := hid (B.out.trans (b1.mono B.out.size))
  clear b1
  have q0 := LG0.out.c 0 (v := .bool rs) rfl
  have q1 := LG0.out.c 1 (v := .slice x5 R1.length y5) rfl
  have q2 := LG0.out.c 2 (v := .slice z5 R2.length p5) rfl
  go_wp2_with fail
  (with_reducible refine (heldRat_obj rs _ _ R1.length R2.length 1 _ _ (by omega) (by omega) (by omega) (by omega) _ G0.out).mono ?_)
  clear q0 q1 q2
  rintro e w16 ⟨rfl, b1⟩
  have t16 : w15.heap.size ≤ w16.heap.size := by have := b1.size; omega
  have rK := hid (rK.out.old b1)
  have W0 := hid (W0.out.old b1)
  have LW0 := hid (LW0.out.old b1)
  have G0 := hid (G0.out.old b1)
  have LG0 := hid (LG0.out.old b1)
  have H0 := hid (H0.out.old b1)
  have LH0 := hid (LH0.out.old b1)
  have B := hid (B.out.trans (b1.mono B.out.size))
  clear b1
  go_wp2
  go_ret
  exact ⟨rfl, B.out⟩
end Go.Proofs.Ytnkcihcmkojdmaa
