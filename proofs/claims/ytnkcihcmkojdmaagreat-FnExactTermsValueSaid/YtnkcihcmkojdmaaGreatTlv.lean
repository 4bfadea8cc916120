/- The law TermsValue. -/
import Derived.Test.YtnkcihcmkojdmaaGreatTva
import Derived.Deep.RegionHeld3
import Derived.Deep.DeepCutAuto
namespace Go.Proofs.YtnkcihcmkojdmaaGreat
open Go.RowKit
open Go.Lib (hid)
set_option linter.unusedVariables false

theorem value_facts {K : List Tq} {L : List Fq} (hK : SmT K) (hL : Sm L) : ∃ (rs : Bool) (R1 R2 : List Int), R1.length ≤ 24 ∧ R2.length ≤ 24 ∧
    (∀ (W : World) (a : Option Addr) (n c : Nat) (l1 h1 : Nat) (b : Option Addr) (m d : Nat) (l2 h2 : Nat) (hv : TK true W (.slice a n c) K l1 h1) (hw : VK true W (.slice b m d) L l2 h2), Calls Tryz.prog 36 #[.slice a n c, .slice b m d] W (OwnRS rs R1 R2 W)) ∧
    (∀ (W : World) (a : Option Addr) (n c : Nat) (l1 h1 : Nat) (b : Option Addr) (m d : Nat) (l2 h2 : Nat) (hv : TK true W (.slice a n c) K l1 h1) (hw : VK true W (.slice b m d) L l2 h2), Calls Tryz.prog 38 #[.slice a n c, .slice b m d] W (OwnRR rs R1 R2 W)) := by
  obtain ⟨-, -, l1, l2⟩ := rval_parts (valT_fit K L)
  have key : ∀ o : Option Rat, valT K L = o → (gzl (qn o)).length ≤ 24 → (gzl (qd o)).length ≤ 24 → _ := fun o ho h1 h2 =>
    (⟨gzs (qn o), gzl (qn o), gzl (qd o), h1, h2, fun W a n c _ _ b m d _ _ hv hw => ((ho ▸ spec_TermsValue hK hL W hv hw).mono fun e w' hh => OwnRS_of hh.ownS), fun W a n c _ _ b m d _ _ hv hw => ((ho ▸ impl_TermsValue hK hL W hv hw).mono fun e w' hh => OwnRR_of hh.own)⟩ : ∃ (rs : Bool) (R1 R2 : List Int), R1.length ≤ 24 ∧ R2.length ≤ 24 ∧
      (∀ (W : World) (a : Option Addr) (n c : Nat) (l1 h1 : Nat) (b : Option Addr) (m d : Nat) (l2 h2 : Nat) (hv : TK true W (.slice a n c) K l1 h1) (hw : VK true W (.slice b m d) L l2 h2), Calls Tryz.prog 36 #[.slice a n c, .slice b m d] W (OwnRS rs R1 R2 W)) ∧
      (∀ (W : World) (a : Option Addr) (n c : Nat) (l1 h1 : Nat) (b : Option Addr) (m d : Nat) (l2 h2 : Nat) (hv : TK true W (.slice a n c) K l1 h1) (hw : VK true W (.slice b m d) L l2 h2), Calls Tryz.prog 38 #[.slice a n c, .slice b m d] W (OwnRR rs R1 R2 W)))
  exact key _ rfl l1 l2
set_option maxRecDepth 100000 in
set_option maxHeartbeats 25600000 in
theorem law_TermsValue (a : Option Addr) (n c : Nat) (K : List Tq) (hnK : n ≤ maxLen) (hmK : ∀ f ∈ K, f.A.length ≤ maxLen ∧ f.D.length ≤ maxLen) (a' : Option Addr) (n' c' : Nat) (L : List Fq) (hnL : n' ≤ maxLen) (hmL : ∀ f ∈ L, f.A.length ≤ maxLen ∧ f.D.length ≤ maxLen) (w : World) (rK : TCame w w.heap.size a n K) (rL : VCame w w.heap.size a' n' L) :
    Calls Tryz.prog 6 #[.slice a n c, .slice a' n' c'] w (RetB (.bool true) w) := by
  have B := hid (Below.refl w.heap.size w)
  have rK := hid rK
  have rL := hid rL
  by_cases hsK : (szU K : Int) ≤ 1048576
  case neg =>
    go_enter Tryz.func6, Tryz.ntmps6
    obtain ⟨w0, hw0⟩ : ∃ w0, w0 = w := ⟨_, rfl⟩
    rw [← hw0] at B rK rL ⊢
    clear hw0
    go_wp2_with fail
    (with_reducible refine (szTermS_no _ _ _ _ K (1048576) hnK hmK (by omega) (by omega) (by omega) _ rK.out).mono ?_)
    rintro e w1 ⟨rfl, b1⟩
    have t1 : w0.heap.size ≤ w1.heap.size := by have := b1.size; omega
    have rK := hid (rK.out.old b1)
    have rL := hid (rL.out.old b1)
    have B := hid (B.out.trans (b1.mono B.out.size))
    clear b1
    go_wp2
    go_ret
    exact ⟨rfl, B.out⟩
  by_cases hsL : (szK L : Int) ≤ 1048576 - (szU K : Int)
  case neg =>
    go_enter Tryz.func6, Tryz.ntmps6
    obtain ⟨w0, hw0⟩ : ∃ w0, w0 = w := ⟨_, rfl⟩
    rw [← hw0] at B rK rL ⊢
    clear hw0
    go_wp2_with fail
    (with_reducible refine (szTermS_yes _ _ _ _ K (1048576) (by omega) (by omega) _ rK.out).mono ?_)
    rintro e w1 ⟨rfl, b1⟩
    have t1 : w0.heap.size ≤ w1.heap.size := by have := b1.size; omega
    have rK := hid (rK.out.old b1)
    have rL := hid (rL.out.old b1)
    have B := hid (B.out.trans (b1.mono B.out.size))
    clear b1
    go_wp2_with fail
    (with_reducible refine (szRatS_no _ _ _ _ L (1048576 - (szU K : Int)) hnL hmL (by omega) (by omega) (by omega) _ rL.out).mono ?_)
    rintro e w2 ⟨rfl, b1⟩
    have t2 : w1.heap.size ≤ w2.heap.size := by have := b1.size; omega
    have rK := hid (rK.out.old b1)
    have rL := hid (rL.out.old b1)
    have B := hid (B.out.trans (b1.mono B.out.size))
    clear b1
    go_wp2
    go_ret
    exact ⟨rfl, B.out⟩
  have hztK := szT_szU K
  have hSK : SmT K := SmT.of (by omega)
  have hslK : szU K ≤ 1048576 := by omega
  have hSL : Sm L := Sm.of (by omega)
  have hslL : szK L ≤ 1048576 := by omega
  obtain ⟨rs, R1, R2, hr1, hr2, KS0, KI0⟩ := value_facts hSK hSL
  have KS := hid KS0
  have KI := hid KI0
  clear KS0 KI0
  go_enter Tryz.func6, Tryz.ntmps6
  obtain ⟨w0, hw0⟩ : ∃ w0, w0 = w := ⟨_, rfl⟩
  rw [← hw0] at B rK rL ⊢
  clear hw0
  go_wp2_with fail
  (with_reducible refine (szTermS_yes _ _ _ _ K (1048576) (by omega) (by omega) _ rK.out).mono ?_)
  rintro e w1 ⟨rfl, b1⟩
  have t1 : w0.heap.size ≤ w1.heap.size := by have := b1.size; omega
  have rK := hid (rK.out.old b1)
  have rL := hid (rL.out.old b1)
  have B := hid (B.out.trans (b1.mono B.out.size))
  clear b1
  go_wp2_with fail
  (with_reducible refine (szRatS_yes _ _ _ _ L (1048576 - (szU K : Int)) (by omega) (by omega) _ rL.out).mono ?_)
  rintro e w2 ⟨rfl, b1⟩
  have t2 : w1.heap.size ≤ w2.heap.size := by have := b1.size; omega
  have rK := hid (rK.out.old b1)
  have rL := hid (rL.out.old b1)
  have B := hid (B.out.trans (b1.mono B.out.size))
  clear b1
  go_wp2_with fail
  (with_reducible refine (toTermS_came _ _ _ _ K (by omega) _ rK.out).mono ?_)
  rintro e w3 ⟨a3, n3, c3, rfl, i1, b1⟩
  have t3 : w2.heap.size ≤ w3.heap.size := by have := b1.size; omega
  have rK := hid (rK.out.old b1)
  have rL := hid (rL.out.old b1)
  have B := hid (B.out.trans (b1.mono B.out.size))
  have TK := hid i1
  clear i1 b1
  go_wp2_with fail
  (with_reducible refine (toRatS_came _ _ _ _ L (by omega) _ rL.out).mono ?_)
  rintro e w4 ⟨a4, n4, c4, rfl, i1, b1⟩
  have t4 : w3.heap.size ≤ w4.heap.size := by have := b1.size; omega
  have rK := hid (rK.out.old b1)
  have rL := hid (rL.out.old b1)
  have TK := hid (TK.out.old b1)
  have B := hid (B.out.trans (b1.mono B.out.size))
  have TL := hid i1
  clear i1 b1
  go_wp2_with fail
  (with_reducible refine (KS.out _ _ _ _ _ _ _ _ _ _ _ TK.out TL.out).mono ?_)
  rintro e w5 ⟨v5, u5, rfl, i1, b1⟩
  have t5 : w4.heap.size ≤ w5.heap.size := by have := b1.size; omega
  have rK := hid (rK.out.old b1)
  have rL := hid (rL.out.old b1)
  have TK := hid (TK.out.old b1)
  have TL := hid (TL.out.old b1)
  have B := hid (B.out.trans (b1.mono B.out.size))
  have W0 := hid i1
  obtain ⟨x5, y5, z5, p5, rfl, rfl⟩ := i1.form
  clear i1 b1
  have rK := hid (rK.out.old (below_new' (o := .cells #[.bool rs, .slice x5 R1.length y5, .slice z5 R2.length p5] 30)))
  have rL := hid (rL.out.old (below_new' (o := .cells #[.bool rs, .slice x5 R1.length y5, .slice z5 R2.length p5] 30)))
  have TK := hid (TK.out.old (below_new' (o := .cells #[.bool rs, .slice x5 R1.length y5, .slice z5 R2.length p5] 30)))
  have TL := hid (TL.out.old (below_new' (o := .cells #[.bool rs, .slice x5 R1.length y5, .slice z5 R2.length p5] 30)))
  have W0 := hid (W0.out.old (below_new' (o := .cells #[.bool rs, .slice x5 R1.length y5, .slice z5 R2.length p5] 30)))
  have B := hid (B.out.alloc B.out.size (.cells #[.bool rs, .slice x5 R1.length y5, .slice z5 R2.length p5] 30))
  have LW0 := hid (LocA.new (w := w5) (T := 30) (cs := #[.bool rs, .slice x5 R1.length y5, .slice z5 R2.length p5]))
  have hs5 : (w5.alloc (.cells #[.bool rs, .slice x5 R1.length y5, .slice z5 R2.length p5] 30)).heap.size = w5.heap.size + 1 := by simp
  go_wp2_with fail
  (with_reducible refine (toTermS_came _ _ _ _ K (by omega) _ rK.out).mono ?_)
  rintro e w6 ⟨a6, n6, c6, rfl, i1, b1⟩
  have t6 : w5.heap.size + 1 ≤ w6.heap.size := by have := b1.size; simp at this; omega
  have rK := hid (rK.out.old b1)
  have rL := hid (rL.out.old b1)
  have W0 := hid (W0.out.old b1)
  have LW0 := hid (LW0.out.old b1)
  have B := hid (B.out.trans (b1.mono B.out.size))
  have XK := hid i1
  clear i1 b1
  go_wp2_with fail
  (with_reducible refine (toRatS_came _ _ _ _ L (by omega) _ rL.out).mono ?_)
  rintro e w7 ⟨a7, n7, c7, rfl, i1, b1⟩
  have t7 : w6.heap.size ≤ w7.heap.size := by have := b1.size; omega
  have rK := hid (rK.out.old b1)
  have rL := hid (rL.out.old b1)
  have W0 := hid (W0.out.old b1)
  have LW0 := hid (LW0.out.old b1)
  have XK := hid (XK.out.old b1)
  have B := hid (B.out.trans (b1.mono B.out.size))
  have XL := hid i1
  clear i1 b1
  go_wp2_with fail
  (with_reducible refine (KI.out _ _ _ _ _ _ _ _ _ _ _ XK.out XL.out).mono ?_)
  rintro e w8 ⟨v8, u8, rfl, i1, b1⟩
  have t8 : w7.heap.size ≤ w8.heap.size := by have := b1.size; omega
  have rK := hid (rK.out.old b1)
  have rL := hid (rL.out.old b1)
  have W0 := hid (W0.out.old b1)
  have LW0 := hid (LW0.out.old b1)
  have XK := hid (XK.out.old b1)
  have XL := hid (XL.out.old b1)
  have B := hid (B.out.trans (b1.mono B.out.size))
  have G0 := hid i1
  obtain ⟨x8, y8, z8, p8, rfl, rfl⟩ := i1.form
  clear i1 b1
  have rK := hid (rK.out.old (below_new' (o := .cells #[.bool rs, .slice x8 R1.length y8, .slice z8 R2.length p8] 30)))
  have rL := hid (rL.out.old (below_new' (o := .cells #[.bool rs, .slice x8 R1.length y8, .slice z8 R2.length p8] 30)))
  have W0 := hid (W0.out.old (below_new' (o := .cells #[.bool rs, .slice x8 R1.length y8, .slice z8 R2.length p8] 30)))
  have LW0 := hid (LW0.out.old (below_new' (o := .cells #[.bool rs, .slice x8 R1.length y8, .slice z8 R2.length p8] 30)))
  have XK := hid (XK.out.old (below_new' (o := .cells #[.bool rs, .slice x8 R1.length y8, .slice z8 R2.length p8] 30)))
  have XL := hid (XL.out.old (below_new' (o := .cells #[.bool rs, .slice x8 R1.length y8, .slice z8 R2.length p8] 30)))
  have G0 := hid (G0.out.old (below_new' (o := .cells #[.bool rs, .slice x8 R1.length y8, .slice z8 R2.length p8] 30)))
  have B := hid (B.out.alloc B.out.size (.cells #[.bool rs, .slice x8 R1.length y8, .slice z8 R2.length p8] 30))
  have LG0 := hid (LocA.new (w := w8) (T := 30) (cs := #[.bool rs, .slice x8 R1.length y8, .slice z8 R2.length p8]))
  have hs8 : (w8.alloc (.cells #[.bool rs, .slice x8 R1.length y8, .slice z8 R2.length p8] 30)).heap.size = w8.heap.size + 1 := by simp
  have q0 := LG0.out.c 0 (v := .bool rs) rfl
  have q1 := LG0.out.c 1 (v := .slice x8 R1.length y8) rfl
  have q2 := LG0.out.c 2 (v := .slice z8 R2.length p8) rfl
  have q3 := LW0.out.c 0 (v := .bool rs) rfl
  have q4 := LW0.out.c 1 (v := .slice x5 R1.length y5) rfl
  have q5 := LW0.out.c 2 (v := .slice z5 R2.length p5) rfl
  go_wp2_with fail
  (with_reducible refine (eqRat_w rs _ _ _ _ R1 R2 _ _ _ _ (by omega) (by omega) _ G0.out.w W0.out).mono ?_)
  clear q0 q1 q2 q3 q4 q5
  rintro e w9 ⟨rfl, b1⟩
  have t9 : w8.heap.size + 1 ≤ w9.heap.size := by have := b1.size; simp at this; omega
  have rK := hid (rK.out.old b1)
  have rL := hid (rL.out.old b1)
  have W0 := hid (W0.out.old b1)
  have LW0 := hid (LW0.out.old b1)
  have XK := hid (XK.out.old b1)
  have XL := hid (XL.out.old b1)
  have G0 := hid (G0.out.old b1)
  have LG0 := hid (LG0.out.old b1)
  have B := hid (B.out.trans (b1.mono B.out.size))
  clear b1
  go_wp2_with fail
  (with_reducible refine (toTermS_came _ _ _ _ K (by omega) _ rK.out).mono ?_)
  rintro e w10 ⟨a10, n10, c10, rfl, i1, b1⟩
  have t10 : w9.heap.size ≤ w10.heap.size := by have := b1.size; omega
  have rK := hid (rK.out.old b1)
  have rL := hid (rL.out.old b1)
  have W0 := hid (W0.out.old b1)
  have LW0 := hid (LW0.out.old b1)
  have XK := hid (XK.out.old b1)
  have XL := hid (XL.out.old b1)
  have G0 := hid (G0.out.old b1)
  have LG0 := hid (LG0.out.old b1)
  have B := hid (B.out.trans (b1.mono B.out.size))
  have TK := hid i1
  clear i1 b1
  go_wp2_with fail
  (with_reducible refine (eqTermS_k (by omega) _ XK.out TK.out).mono ?_)
  rintro e w11 ⟨rfl, b1⟩
  have t11 : w10.heap.size ≤ w11.heap.size := by have := b1.size; omega
  have rK := hid (rK.out.old b1)
  have rL := hid (rL.out.old b1)
  have W0 := hid (W0.out.old b1)
  have LW0 := hid (LW0.out.old b1)
  have XK := hid (XK.out.old b1)
  have XL := hid (XL.out.old b1)
  have G0 := hid (G0.out.old b1)
  have LG0 := hid (LG0.out.old b1)
  have TK := hid (TK.out.old b1)
  have B := hid (B.out.trans (b1.mono B.out.size))
  clear b1
  go_wp2_with fail
  (with_reducible refine (toRatS_came _ _ _ _ L (by omega) _ rL.out).mono ?_)
  rintro e w12 ⟨a12, n12, c12, rfl, i1, b1⟩
  have t12 : w11.heap.size ≤ w12.heap.size := by have := b1.size; omega
  have rK := hid (rK.out.old b1)
  have rL := hid (rL.out.old b1)
  have W0 := hid (W0.out.old b1)
  have LW0 := hid (LW0.out.old b1)
  have XK := hid (XK.out.old b1)
  have XL := hid (XL.out.old b1)
  have G0 := hid (G0.out.old b1)
  have LG0 := hid (LG0.out.old b1)
  have B := hid (B.out.trans (b1.mono B.out.size))
  have TL := hid i1
  clear i1 b1
  go_wp2_with fail
  (with_reducible refine (eqRatS_k (by omega) _ XL.out TL.out).mono ?_)
  rintro e w13 ⟨rfl, b1⟩
  have t13 : w12.heap.size ≤ w13.heap.size := by have := b1.size; omega
  have rK := hid (rK.out.old b1)
  have rL := hid (rL.out.old b1)
  have W0 := hid (W0.out.old b1)
  have LW0 := hid (LW0.out.old b1)
  have XK := hid (XK.out.old b1)
  have XL := hid (XL.out.old b1)
  have G0 := hid (G0.out.old b1)
  have LG0 := hid (LG0.out.old b1)
  have TL := hid (TL.out.old b1)
  have B := hid (B.out.trans (b1.mono B.out.size))
  clear b1
  go_wp2_with fail
  (with_reducible refine (markTermS_k (m := 1) (by omega) (by omega) (by omega) _ XK.out).mono ?_)
  rintro e w14 ⟨rfl, o1, b1⟩
  have t14 : w13.heap.size ≤ w14.heap.size := by have := b1.size; omega
  have XK := hid o1
  have rK := hid (rK.out.onlyG b1 (by omega))
  have rL := hid (rL.out.onlyG b1 (by omega))
  have W0 := hid (W0.out.onlyG b1 (by omega))
  have LW0 := hid (LW0.out.onlyG b1 (by omega))
  have XL := hid (XL.out.onlyG b1 (by omega))
  have G0 := hid (G0.out.onlyG b1 (by omega))
  have LG0 := hid (LG0.out.onlyG b1 (by omega))
  have B := hid (in_onlyG B.out b1 (by omega))
  clear o1 b1
  go_wp2_with fail
  (with_reducible refine (markRatS_k (m := 1 + (szT K : Int)) (by omega) (by omega) (by omega) _ XL.out).mono ?_)
  rintro e w15 ⟨rfl, o1, b1⟩
  have t15 : w14.heap.size ≤ w15.heap.size := by have := b1.size; omega
  have XL := hid o1
  have rK := hid (rK.out.onlyG b1 (by omega))
  have rL := hid (rL.out.onlyG b1 (by omega))
  have W0 := hid (W0.out.onlyG b1 (by omega))
  have LW0 := hid (LW0.out.onlyG b1 (by omega))
  have XK := hid (XK.out.onlyG b1 (by omega))
  have G0 := hid (G0.out.onlyG b1 (by omega))
  have LG0 := hid (LG0.out.onlyG b1 (by omega))
  have B := hid (in_onlyG B.out b1 (by omega))
  clear o1 b1
  have hm0 : ¬ 1 + (szT K : Int) + (szK L : Int) < 0 := by omega
  have q0 := LG0.out.c 0 (v := .bool rs) rfl
  have q1 := LG0.out.c 1 (v := .slice x8 R1.length y8) rfl
  have q2 := LG0.out.c 2 (v := .slice z8 R2.length p8) rfl
  have q3 := LW0.out.c 0 (v := .bool rs) rfl
  have q4 := LW0.out.c 1 (v := .slice x5 R1.length y5) rfl
  have q5 := LW0.out.c 2 (v := .slice z5 R2.length p5) rfl
  go_wp2_with fail
  (with_reducible refine (eqRat_w rs _ _ _ _ R1 R2 _ _ _ _ (by omega) (by omega) _ G0.out.w W0.out).mono ?_)
  clear q0 q1 q2 q3 q4 q5
  rintro e w16 ⟨rfl, b1⟩
  have t16 : w15.heap.size ≤ w16.heap.size := by have := b1.size; omega
  have rK := hid (rK.out.old b1)
  have rL := hid (rL.out.old b1)
  have W0 := hid (W0.out.old b1)
  have LW0 := hid (LW0.out.old b1)
  have XK := hid (XK.out.old b1)
  have XL := hid (XL.out.old b1)
  have G0 := hid (G0.out.old b1)
  have LG0 := hid (LG0.out.old b1)
  have B := hid (B.out.trans (b1.mono B.out.size))
  clear b1
  have q0 := LG0.out.c 0 (v := .bool rs) rfl
  have q1 := LG0.out.c 1 (v := .slice x8 R1.length y8) rfl
  have q2 := LG0.out.c 2 (v := .slice z8 R2.length p8) rfl
  go_wp2_with fail
  (with_reducible refine (markRat_obj rs _ _ R1 R2 1 _ _ (by omega) (by omega) (by omega) (by omega) _ G0.out).mono ?_)
  clear q0 q1 q2
  rintro e w17 ⟨rfl, o1, b1⟩
  have t17 : w16.heap.size ≤ w17.heap.size := by have := b1.size; omega
  have G0 := hid o1
  have rK := hid (rK.out.onlyG b1 (by omega))
  have rL := hid (rL.out.onlyG b1 (by omega))
  have W0 := hid (W0.out.onlyG b1 (by omega))
  have LW0 := hid (LW0.out.onlyG b1 (by omega))
  have LG0 := hid (LG0.out.onlyG b1 (by omega))
  have B := hid (in_onlyG B.out b1 (by omega))
  clear o1 b1
  have hq0 : ¬ 1 + (R1.length : Int) + (R2.length : Int) < 0 := by omega
  have q0 := LG0.out.c 0 (v := .bool rs) rfl
  have q1 := LG0.out.c 1 (v := .slice x8 R1.length y8) rfl
  have q2 := LG0.out.c 2 (v := .slice z8 R2.length p8) rfl
  go_wp2_with fail
  (with_reducible refine (heldRat_obj rs _ _ R1.length R2.length 1 _ _ (by omega) (by omega) (by omega) (by omega) _ G0.out).mono ?_)
  clear q0 q1 q2
  rintro e w18 ⟨rfl, b1⟩
  have t18 : w17.heap.size ≤ w18.heap.size := by have := b1.size; omega
  have rK := hid (rK.out.old b1)
  have rL := hid (rL.out.old b1)
  have W0 := hid (W0.out.old b1)
  have LW0 := hid (LW0.out.old b1)
  have G0 := hid (G0.out.old b1)
  have LG0 := hid (LG0.out.old b1)
  have B := hid (B.out.trans (b1.mono B.out.size))
  clear b1
  go_wp2_with fail
  (with_reducible refine (toTermS_came _ _ _ _ K (by omega) _ rK.out).mono ?_)
  rintro e w19 ⟨a19, n19, c19, rfl, i1, b1⟩
  have t19 : w18.heap.size ≤ w19.heap.size := by have := b1.size; omega
  have rK := hid (rK.out.old b1)
  have rL := hid (rL.out.old b1)
  have W0 := hid (W0.out.old b1)
  have LW0 := hid (LW0.out.old b1)
  have G0 := hid (G0.out.old b1)
  have LG0 := hid (LG0.out.old b1)
  have B := hid (B.out.trans (b1.mono B.out.size))
  have YK := hid i1
  clear i1 b1
  go_wp2_with fail
  (with_reducible refine (toRatS_came _ _ _ _ L (by omega) _ rL.out).mono ?_)
  rintro e w20 ⟨a20, n20, c20, rfl, i1, b1⟩
  have t20 : w19.heap.size ≤ w20.heap.size := by have := b1.size; omega
  have rK := hid (rK.out.old b1)
  have rL := hid (rL.out.old b1)
  have W0 := hid (W0.out.old b1)
  have LW0 := hid (LW0.out.old b1)
  have G0 := hid (G0.out.old b1)
  have LG0 := hid (LG0.out.old b1)
  have YK := hid (YK.out.old b1)
  have B := hid (B.out.trans (b1.mono B.out.size))
  have YL := hid i1
  clear i1 b1
  go_wp2_with fail
  (with_reducible refine (KI.out _ _ _ _ _ _ _ _ _ _ _ YK.out YL.out).mono ?_)
  rintro e w21 ⟨v21, u21, rfl, i1, b1⟩
  have t21 : w20.heap.size ≤ w21.heap.size := by have := b1.size; omega
  have rK := hid (rK.out.old b1)
  have rL := hid (rL.out.old b1)
  have W0 := hid (W0.out.old b1)
  have LW0 := hid (LW0.out.old b1)
  have G0 := hid (G0.out.old b1)
  have LG0 := hid (LG0.out.old b1)
  have YK := hid (YK.out.old b1)
  have YL := hid (YL.out.old b1)
  have B := hid (B.out.trans (b1.mono B.out.size))
  have H0 := hid i1
  obtain ⟨x21, y21, z21, p21, rfl, rfl⟩ := i1.form
  clear i1 b1
  have rK := hid (rK.out.old (below_new' (o := .cells #[.bool rs, .slice x21 R1.length y21, .slice z21 R2.length p21] 30)))
  have rL := hid (rL.out.old (below_new' (o := .cells #[.bool rs, .slice x21 R1.length y21, .slice z21 R2.length p21] 30)))
  have W0 := hid (W0.out.old (below_new' (o := .cells #[.bool rs, .slice x21 R1.length y21, .slice z21 R2.length p21] 30)))
  have LW0 := hid (LW0.out.old (below_new' (o := .cells #[.bool rs, .slice x21 R1.length y21, .slice z21 R2.length p21] 30)))
  have G0 := hid (G0.out.old (below_new' (o := .cells #[.bool rs, .slice x21 R1.length y21, .slice z21 R2.length p21] 30)))
  have LG0 := hid (LG0.out.old (below_new' (o := .cells #[.bool rs, .slice x21 R1.length y21, .slice z21 R2.length p21] 30)))
  have YK := hid (YK.out.old (below_new' (o := .cells #[.bool rs, .slice x21 R1.length y21, .slice z21 R2.length p21] 30)))
  have YL := hid (YL.out.old (below_new' (o := .cells #[.bool rs, .slice x21 R1.length y21, .slice z21 R2.length p21] 30)))
  have H0 := hid (H0.out.old (below_new' (o := .cells #[.bool rs, .slice x21 R1.length y21, .slice z21 R2.length p21] 30)))
  have B := hid (B.out.alloc B.out.size (.cells #[.bool rs, .slice x21 R1.length y21, .slice z21 R2.length p21] 30))
  have LH0 := hid (LocA.new (w := w21) (T := 30) (cs := #[.bool rs, .slice x21 R1.length y21, .slice z21 R2.length p21]))
  have hs21 : (w21.alloc (.cells #[.bool rs, .slice x21 R1.length y21, .slice z21 R2.length p21] 30)).heap.size = w21.heap.size + 1 := by simp
  have q0 := LH0.out.c 0 (v := .bool rs) rfl
  have q1 := LH0.out.c 1 (v := .slice x21 R1.length y21) rfl
  have q2 := LH0.out.c 2 (v := .slice z21 R2.length p21) rfl
  have q3 := LW0.out.c 0 (v := .bool rs) rfl
  have q4 := LW0.out.c 1 (v := .slice x5 R1.length y5) rfl
  have q5 := LW0.out.c 2 (v := .slice z5 R2.length p5) rfl
  go_wp2_with fail
  (with_reducible refine (eqRat_w rs _ _ _ _ R1 R2 _ _ _ _ (by omega) (by omega) _ H0.out.w W0.out).mono ?_)
  clear q0 q1 q2 q3 q4 q5
  rintro e w22 ⟨rfl, b1⟩
  have t22 : w21.heap.size + 1 ≤ w22.heap.size := by have := b1.size; simp at this; omega
  have rK := hid (rK.out.old b1)
  have rL := hid (rL.out.old b1)
  have W0 := hid (W0.out.old b1)
  have LW0 := hid (LW0.out.old b1)
  have G0 := hid (G0.out.old b1)
  have LG0 := hid (LG0.out.old b1)
  have H0 := hid (H0.out.old b1)
  have LH0 := hid (LH0.out.old b1)
  have B := hid (B.out.trans (b1.mono B.out.size))
  clear b1
  have q0 := LG0.out.c 0 (v := .bool rs) rfl
  have q1 := LG0.out.c 1 (v := .slice x8 R1.length y8) rfl
  have q2 := LG0.out.c 2 (v := .slice z8 R2.length p8) rfl
  go_wp2_with fail
  (with_reducible refine (heldRat_obj rs _ _ R1.length R2.length 1 _ _ (by omega) (by omega) (by omega) (by omega) _ G0.out).mono ?_)
  clear q0 q1 q2
  rintro e w23 ⟨rfl, b1⟩
  have t23 : w22.heap.size ≤ w23.heap.size := by have := b1.size; omega
  have rK := hid (rK.out.old b1)
  have rL := hid (rL.out.old b1)
  have W0 := hid (W0.out.old b1)
  have LW0 := hid (LW0.out.old b1)
  have G0 := hid (G0.out.old b1)
  have LG0 := hid (LG0.out.old b1)
  have H0 := hid (H0.out.old b1)
  have LH0 := hid (LH0.out.old b1)
  have B := hid (B.out.trans (b1.mono B.out.size))
  clear b1
  go_wp2
  go_ret
  exact ⟨rfl, B.out⟩
end Go.Proofs.YtnkcihcmkojdmaaGreat
