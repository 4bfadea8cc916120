/- The laws CommonDenominator and NumeratorGcd. -/
import Derived.Test.YtmghoedjcokhpaaVl0
import Derived.Test.YtmghoedjcokhpaaVo
import Derived.Deep.RegionHeld3
import Derived.Deep.DeepCutAuto
namespace Go.Proofs.Ytmghoedjcokhpaa
open Go.RowKit
open Go.Lib (hid)
set_option linter.unusedVariables false

theorem ndp_lt {o : Option Rat} (h : fitO o) : ((ndp o).1 : Int) < pw 24 := by
  cases o with
  | none => simp only [ndp, qn]; decide
  | some x => exact (h x rfl).1
theorem gcdN_lt {os : List (Option Rat)} (h : ∀ o ∈ os, fitO o) : ((gcdN os : Nat) : Int) < pw 24 := by
  have key : ∀ (l : List (Option Rat)) (a : Nat), (∀ o ∈ l, fitO o) → (a : Int) < pw 24 → ((l.foldl (fun g o => Nat.gcd g (ndp o).1) a : Nat) : Int) < pw 24 := by
    intro l
    induction l with
    | nil => intro a _ ha; exact ha
    | cons o l ih =>
      intro a hl ha
      exact ih _ (fun x hx => hl x (List.mem_cons_of_mem _ hx)) (gcd_bd ha (ndp_lt (hl o (List.mem_cons_self ..))))
  exact key os 0 h (by decide)
theorem vals_fit (K : List Fq) : ∀ o ∈ vals K, fitO o := by
  intro o ho
  obtain ⟨f, -, rfl⟩ := List.mem_map.1 ho
  exact fitO_o f
theorem ngcd_len (K : List Fq) : (ngcdO (vals K)).length ≤ 60 := by
  unfold ngcdO
  split
  · simp
  · have := (rep_len24 _).2 (gcdN_lt (vals_fit K))
    omega
theorem cden_len60 (os : List (Option Rat)) : (cdenO os).length ≤ 60 := by have := cden_len os; omega
set_option maxRecDepth 100000 in
set_option maxHeartbeats 25600000 in
theorem law_CommonDenominator (a : Option Addr) (n c : Nat) (K : List Fq) (hnK : n ≤ maxLen) (hmK : ∀ f ∈ K, f.A.length ≤ maxLen ∧ f.D.length ≤ maxLen) (w : World) (rK : VCame w w.heap.size a n K) :
    Calls Try.prog 12 #[.slice a n c] w (RetB (.bool true) w) := by
  have B := hid (Below.refl w.heap.size w)
  have rK := hid rK
  by_cases hsK : (szK K : Int) ≤ 1048576
  case neg =>
    go_enter Try.func12, Try.ntmps12
    obtain ⟨w0, hw0⟩ : ∃ w0, w0 = w := ⟨_, rfl⟩
    rw [← hw0] at B rK ⊢
    clear hw0
    go_wp2_with fail
    (with_reducible refine (szRatS_no _ _ _ _ K (1048576) hnK hmK (by omega) (by omega) (by omega) w0 rK.out).mono ?_)
    rintro e w1 ⟨rfl, b1⟩
    have t1 : w0.heap.size ≤ w1.heap.size := b1.size
    have rK := hid (rK.out.old b1)
    have B := hid (B.out.trans (b1.mono B.out.size))
    clear b1
    go_wp2
    go_ret
    exact ⟨rfl, B.out⟩

  obtain ⟨RR, hRR⟩ : ∃ RR, RR = cdenO (vals K) := ⟨_, rfl⟩
  have hrs : RR.length ≤ 60 := by rw [hRR]; exact cden_len60 _
  have HRR := hid hRR
  clear hRR
  have hSK : Sm K := Sm.of (by omega)
  have hslK : szK K ≤ 1048576 := by omega
  go_enter Try.func12, Try.ntmps12
  obtain ⟨w0, hw0⟩ : ∃ w0, w0 = w := ⟨_, rfl⟩
  rw [← hw0] at B rK ⊢
  clear hw0
  go_wp2_with fail
  (with_reducible refine (szRatS_yes _ _ _ _ K (1048576) (by omega) (by omega) w0 rK.out).mono ?_)
  rintro e w1 ⟨rfl, b1⟩
  have t1 : w0.heap.size ≤ w1.heap.size := b1.size
  have rK := hid (rK.out.old b1)
  have B := hid (B.out.trans (b1.mono B.out.size))
  clear b1
  go_wp2_with fail
  (with_reducible refine (toRatS_came _ _ _ _ K (by omega) w1 rK.out).mono ?_)
  rintro e w2 ⟨a2, n2, c2, rfl, i1, b1⟩
  have t2 : w1.heap.size ≤ w2.heap.size := b1.size
  have rK := hid (rK.out.old b1)
  have B := hid (B.out.trans (b1.mono B.out.size))
  have TK := hid i1
  clear i1 b1
  have KR := hid (spec_CommonDenominator hSK w2 TK.out)
  rw [← HRR.out] at KR
  go_wp2_with fail
  (with_reducible refine (KR.out).mono ?_)
  rintro e w3 ⟨v3, rfl, i1, b1⟩
  have t3 : w2.heap.size ≤ w3.heap.size := b1.size
  have rK := hid (rK.out.old b1)
  have TK := hid (TK.out.old b1)
  have B := hid (B.out.trans (b1.mono B.out.size))
  have W0 := hid (Obj_at (lo := w2.heap.size) i1 (Nat.le_refl _))
  obtain ⟨a3, c3, rfl, -⟩ := Ints_form i1
  clear i1 b1 KR
  go_wp2_with fail
  (with_reducible refine (toRatS_came _ _ _ _ K (by omega) w3 rK.out).mono ?_)
  rintro e w4 ⟨a4, n4, c4, rfl, i1, b1⟩
  have t4 : w3.heap.size ≤ w4.heap.size := b1.size
  have rK := hid (rK.out.old b1)
  have W0 := hid (W0.out.old b1)
  have B := hid (B.out.trans (b1.mono B.out.size))
  have XK := hid i1
  clear i1 b1
  have KR := hid (impl_CommonDenominator hSK w4 XK.out)
  rw [← HRR.out] at KR
  go_wp2_with fail
  (with_reducible refine (KR.out).mono ?_)
  rintro e w5 ⟨v5, rfl, i1, b1⟩
  have t5 : w4.heap.size ≤ w5.heap.size := b1.size
  have rK := hid (rK.out.old b1)
  have W0 := hid (W0.out.old b1)
  have XK := hid (XK.out.old b1)
  have B := hid (B.out.trans (b1.mono B.out.size))
  have G0 := hid (Obj_at (lo := w4.heap.size) i1 (Nat.le_refl _))
  obtain ⟨a5, c5, rfl, -⟩ := Ints_form i1
  clear i1 b1 KR
  go_wp2_with fail
  (with_reducible refine (eqIntS_obj _ _ _ _ _ _ _ (by omega) w5 G0.out W0.out).mono ?_)
  rintro e w6 ⟨rfl, b1⟩
  have t6 : w5.heap.size ≤ w6.heap.size := b1.size
  have rK := hid (rK.out.old b1)
  have W0 := hid (W0.out.old b1)
  have XK := hid (XK.out.old b1)
  have G0 := hid (G0.out.old b1)
  have B := hid (B.out.trans (b1.mono B.out.size))
  clear b1
  go_wp2_with fail
  (with_reducible refine (toRatS_came _ _ _ _ K (by omega) w6 rK.out).mono ?_)
  rintro e w7 ⟨a7, n7, c7, rfl, i1, b1⟩
  have t7 : w6.heap.size ≤ w7.heap.size := b1.size
  have rK := hid (rK.out.old b1)
  have W0 := hid (W0.out.old b1)
  have XK := hid (XK.out.old b1)
  have G0 := hid (G0.out.old b1)
  have B := hid (B.out.trans (b1.mono B.out.size))
  have TK := hid i1
  clear i1 b1
  go_wp2_with fail
  (with_reducible refine (eqRatS_k (by omega) w7 XK.out TK.out).mono ?_)
  rintro e w8 ⟨rfl, b1⟩
  have t8 : w7.heap.size ≤ w8.heap.size := b1.size
  have rK := hid (rK.out.old b1)
  have W0 := hid (W0.out.old b1)
  have XK := hid (XK.out.old b1)
  have G0 := hid (G0.out.old b1)
  have TK := hid (TK.out.old b1)
  have B := hid (B.out.trans (b1.mono B.out.size))
  clear b1
  go_wp2_with fail
  (with_reducible refine (markRatS_k (m := 1) (by omega) (by omega) (by omega) w8 XK.out).mono ?_)
  rintro e w9 ⟨rfl, o1, b1⟩
  have t9 : w8.heap.size ≤ w9.heap.size := b1.size
  have XK := hid o1
  have rK := hid (rK.out.onlyG b1 (by omega))
  have W0 := hid (W0.out.onlyG b1 (by omega))
  have G0 := hid (G0.out.onlyG b1 (by omega))
  have B := hid (in_onlyG B.out b1 (by omega))
  clear o1 b1
  have hm0 : ¬ 1 + (szK K : Int) < 0 := by omega
  go_wp2_with fail
  (with_reducible refine (eqIntS_obj _ _ _ _ _ _ _ (by omega) w9 G0.out W0.out).mono ?_)
  rintro e w10 ⟨rfl, b1⟩
  have t10 : w9.heap.size ≤ w10.heap.size := b1.size
  have rK := hid (rK.out.old b1)
  have W0 := hid (W0.out.old b1)
  have XK := hid (XK.out.old b1)
  have G0 := hid (G0.out.old b1)
  have B := hid (B.out.trans (b1.mono B.out.size))
  clear b1
  go_wp2_with fail
  (with_reducible refine (markIntS_obj _ RR 1 _ _ (by omega) (by omega) (by omega) w10 G0.out).mono ?_)
  rintro e w11 ⟨rfl, o1, b1⟩
  have t11 : w10.heap.size ≤ w11.heap.size := b1.size
  have b1 := b1.mono (S' := InG _ _ w10.heap.size) fun k hk => .inl hk
  have G0 := hid o1
  have rK := hid (rK.out.onlyG b1 (by omega))
  have W0 := hid (W0.out.onlyG b1 (by omega))
  have B := hid (in_onlyG B.out b1 (by omega))
  clear o1 b1
  have hq0 : ¬ 1 + (RR.length : Int) < 0 := by omega
  go_wp2_with fail
  (with_reducible refine (heldIntS_obj _ RR.length 1 _ _ (by omega) (by omega) (by omega) w11 G0.out).mono ?_)
  rintro e w12 ⟨rfl, b1⟩
  have t12 : w11.heap.size ≤ w12.heap.size := b1.size
  have rK := hid (rK.out.old b1)
  have W0 := hid (W0.out.old b1)
  have G0 := hid (G0.out.old b1)
  have B := hid (B.out.trans (b1.mono B.out.size))
  clear b1
  go_wp2_with fail
  (with_reducible refine (toRatS_came _ _ _ _ K (by omega) w12 rK.out).mono ?_)
  rintro e w13 ⟨a13, n13, c13, rfl, i1, b1⟩
  have t13 : w12.heap.size ≤ w13.heap.size := b1.size
  have rK := hid (rK.out.old b1)
  have W0 := hid (W0.out.old b1)
  have G0 := hid (G0.out.old b1)
  have B := hid (B.out.trans (b1.mono B.out.size))
  have YK := hid i1
  clear i1 b1
  have KR := hid (impl_CommonDenominator hSK w13 YK.out)
  rw [← HRR.out] at KR
  go_wp2_with fail
  (with_reducible refine (KR.out).mono ?_)
  rintro e w14 ⟨v14, rfl, i1, b1⟩
  have t14 : w13.heap.size ≤ w14.heap.size := b1.size
  have rK := hid (rK.out.old b1)
  have W0 := hid (W0.out.old b1)
  have G0 := hid (G0.out.old b1)
  have YK := hid (YK.out.old b1)
  have B := hid (B.out.trans (b1.mono B.out.size))
  have H0 := hid (Obj_at (lo := w13.heap.size) i1 (Nat.le_refl _))
  obtain ⟨a14, c14, rfl, -⟩ := Ints_form i1
  clear i1 b1 KR
  go_wp2_with fail
  (with_reducible refine (eqIntS_obj _ _ _ _ _ _ _ (by omega) w14 H0.out W0.out).mono ?_)
  rintro e w15 ⟨rfl, b1⟩
  have t15 : w14.heap.size ≤ w15.heap.size := b1.size
  have rK := hid (rK.out.old b1)
  have W0 := hid (W0.out.old b1)
  have G0 := hid (G0.out.old b1)
  have H0 := hid (H0.out.old b1)
  have B := hid (B.out.trans (b1.mono B.out.size))
  clear b1
  go_wp2_with fail
  (with_reducible refine (heldIntS_obj _ RR.length 1 _ _ (by omega) (by omega) (by omega) w15 G0.out).mono ?_)
  rintro e w16 ⟨rfl, b1⟩
  have t16 : w15.heap.size ≤ w16.heap.size := b1.size
  have rK := hid (rK.out.old b1)
  have W0 := hid (W0.out.old b1)
  have G0 := hid (G0.out.old b1)
  have H0 := hid (H0.out.old b1)
  have B := hid (B.out.trans (b1.mono B.out.size))
  clear b1
  go_wp2
  go_ret
  exact ⟨rfl, B.out⟩
set_option maxRecDepth 100000 in
set_option maxHeartbeats 25600000 in
theorem law_NumeratorGcd (a : Option Addr) (n c : Nat) (K : List Fq) (hnK : n ≤ maxLen) (hmK : ∀ f ∈ K, f.A.length ≤ maxLen ∧ f.D.length ≤ maxLen) (w : World) (rK : VCame w w.heap.size a n K) :
    Calls Try.prog 13 #[.slice a n c] w (RetB (.bool true) w) := by
  have B := hid (Below.refl w.heap.size w)
  have rK := hid rK
  by_cases hsK : (szK K : Int) ≤ 1048576
  case neg =>
    go_enter Try.func13, Try.ntmps13
    obtain ⟨w0, hw0⟩ : ∃ w0, w0 = w := ⟨_, rfl⟩
    rw [← hw0] at B rK ⊢
    clear hw0
    go_wp2_with fail
    (with_reducible refine (szRatS_no _ _ _ _ K (1048576) hnK hmK (by omega) (by omega) (by omega) w0 rK.out).mono ?_)
    rintro e w1 ⟨rfl, b1⟩
    have t1 : w0.heap.size ≤ w1.heap.size := b1.size
    have rK := hid (rK.out.old b1)
    have B := hid (B.out.trans (b1.mono B.out.size))
    clear b1
    go_wp2
    go_ret
    exact ⟨rfl, B.out⟩

  obtain ⟨RR, hRR⟩ : ∃ RR, RR = ngcdO (vals K) := ⟨_, rfl⟩
  have hrs : RR.length ≤ 60 := by rw [hRR]; exact ngcd_len K
  have HRR := hid hRR
  clear hRR
  have hSK : Sm K := Sm.of (by omega)
  have hslK : szK K ≤ 1048576 := by omega
  go_enter Try.func13, Try.ntmps13
  obtain ⟨w0, hw0⟩ : ∃ w0, w0 = w := ⟨_, rfl⟩
  rw [← hw0] at B rK ⊢
  clear hw0
  go_wp2_with fail
  (with_reducible refine (szRatS_yes _ _ _ _ K (1048576) (by omega) (by omega) w0 rK.out).mono ?_)
  rintro e w1 ⟨rfl, b1⟩
  have t1 : w0.heap.size ≤ w1.heap.size := b1.size
  have rK := hid (rK.out.old b1)
  have B := hid (B.out.trans (b1.mono B.out.size))
  clear b1
  go_wp2_with fail
  (with_reducible refine (toRatS_came _ _ _ _ K (by omega) w1 rK.out).mono ?_)
  rintro e w2 ⟨a2, n2, c2, rfl, i1, b1⟩
  have t2 : w1.heap.size ≤ w2.heap.size := b1.size
  have rK := hid (rK.out.old b1)
  have B := hid (B.out.trans (b1.mono B.out.size))
  have TK := hid i1
  clear i1 b1
  have KR := hid (spec_NumeratorGcd hSK w2 TK.out)
  rw [← HRR.out] at KR
  go_wp2_with fail
  (with_reducible refine (KR.out).mono ?_)
  rintro e w3 ⟨v3, rfl, i1, b1⟩
  have t3 : w2.heap.size ≤ w3.heap.size := b1.size
  have rK := hid (rK.out.old b1)
  have TK := hid (TK.out.old b1)
  have B := hid (B.out.trans (b1.mono B.out.size))
  have W0 := hid (Obj_at (lo := w2.heap.size) i1 (Nat.le_refl _))
  obtain ⟨a3, c3, rfl, -⟩ := Ints_form i1
  clear i1 b1 KR
  go_wp2_with fail
  (with_reducible refine (toRatS_came _ _ _ _ K (by omega) w3 rK.out).mono ?_)
  rintro e w4 ⟨a4, n4, c4, rfl, i1, b1⟩
  have t4 : w3.heap.size ≤ w4.heap.size := b1.size
  have rK := hid (rK.out.old b1)
  have W0 := hid (W0.out.old b1)
  have B := hid (B.out.trans (b1.mono B.out.size))
  have XK := hid i1
  clear i1 b1
  have KR := hid (impl_NumeratorGcd hSK w4 XK.out)
  rw [← HRR.out] at KR
  go_wp2_with fail
  (with_reducible refine (KR.out).mono ?_)
  rintro e w5 ⟨v5, rfl, i1, b1⟩
  have t5 : w4.heap.size ≤ w5.heap.size := b1.size
  have rK := hid (rK.out.old b1)
  have W0 := hid (W0.out.old b1)
  have XK := hid (XK.out.old b1)
  have B := hid (B.out.trans (b1.mono B.out.size))
  have G0 := hid (Obj_at (lo := w4.heap.size) i1 (Nat.le_refl _))
  obtain ⟨a5, c5, rfl, -⟩ := Ints_form i1
  clear i1 b1 KR
  go_wp2_with fail
  (with_reducible refine (eqIntS_obj _ _ _ _ _ _ _ (by omega) w5 G0.out W0.out).mono ?_)
  rintro e w6 ⟨rfl, b1⟩
  have t6 : w5.heap.size ≤ w6.heap.size := b1.size
  have rK := hid (rK.out.old b1)
  have W0 := hid (W0.out.old b1)
  have XK := hid (XK.out.old b1)
  have G0 := hid (G0.out.old b1)
  have B := hid (B.out.trans (b1.mono B.out.size))
  clear b1
  go_wp2_with fail
  (with_reducible refine (toRatS_came _ _ _ _ K (by omega) w6 rK.out).mono ?_)
  rintro e w7 ⟨a7, n7, c7, rfl, i1, b1⟩
  have t7 : w6.heap.size ≤ w7.heap.size := b1.size
  have rK := hid (rK.out.old b1)
  have W0 := hid (W0.out.old b1)
  have XK := hid (XK.out.old b1)
  have G0 := hid (G0.out.old b1)
  have B := hid (B.out.trans (b1.mono B.out.size))
  have TK := hid i1
  clear i1 b1
  go_wp2_with fail
  (with_reducible refine (eqRatS_k (by omega) w7 XK.out TK.out).mono ?_)
  rintro e w8 ⟨rfl, b1⟩
  have t8 : w7.heap.size ≤ w8.heap.size := b1.size
  have rK := hid (rK.out.old b1)
  have W0 := hid (W0.out.old b1)
  have XK := hid (XK.out.old b1)
  have G0 := hid (G0.out.old b1)
  have TK := hid (TK.out.old b1)
  have B := hid (B.out.trans (b1.mono B.out.size))
  clear b1
  go_wp2_with fail
  (with_reducible refine (markRatS_k (m := 1) (by omega) (by omega) (by omega) w8 XK.out).mono ?_)
  rintro e w9 ⟨rfl, o1, b1⟩
  have t9 : w8.heap.size ≤ w9.heap.size := b1.size
  have XK := hid o1
  have rK := hid (rK.out.onlyG b1 (by omega))
  have W0 := hid (W0.out.onlyG b1 (by omega))
  have G0 := hid (G0.out.onlyG b1 (by omega))
  have B := hid (in_onlyG B.out b1 (by omega))
  clear o1 b1
  have hm0 : ¬ 1 + (szK K : Int) < 0 := by omega
  go_wp2_with fail
  (with_reducible refine (eqIntS_obj _ _ _ _ _ _ _ (by omega) w9 G0.out W0.out).mono ?_)
  rintro e w10 ⟨rfl, b1⟩
  have t10 : w9.heap.size ≤ w10.heap.size := b1.size
  have rK := hid (rK.out.old b1)
  have W0 := hid (W0.out.old b1)
  have XK := hid (XK.out.old b1)
  have G0 := hid (G0.out.old b1)
  have B := hid (B.out.trans (b1.mono B.out.size))
  clear b1
  go_wp2_with fail
  (with_reducible refine (markIntS_obj _ RR 1 _ _ (by omega) (by omega) (by omega) w10 G0.out).mono ?_)
  rintro e w11 ⟨rfl, o1, b1⟩
  have t11 : w10.heap.size ≤ w11.heap.size := b1.size
  have b1 := b1.mono (S' := InG _ _ w10.heap.size) fun k hk => .inl hk
  have G0 := hid o1
  have rK := hid (rK.out.onlyG b1 (by omega))
  have W0 := hid (W0.out.onlyG b1 (by omega))
  have B := hid (in_onlyG B.out b1 (by omega))
  clear o1 b1
  have hq0 : ¬ 1 + (RR.length : Int) < 0 := by omega
  go_wp2_with fail
  (with_reducible refine (heldIntS_obj _ RR.length 1 _ _ (by omega) (by omega) (by omega) w11 G0.out).mono ?_)
  rintro e w12 ⟨rfl, b1⟩
  have t12 : w11.heap.size ≤ w12.heap.size := b1.size
  have rK := hid (rK.out.old b1)
  have W0 := hid (W0.out.old b1)
  have G0 := hid (G0.out.old b1)
  have B := hid (B.out.trans (b1.mono B.out.size))
  clear b1
  go_wp2_with fail
  (with_reducible refine (toRatS_came _ _ _ _ K (by omega) w12 rK.out).mono ?_)
  rintro e w13 ⟨a13, n13, c13, rfl, i1, b1⟩
  have t13 : w12.heap.size ≤ w13.heap.size := b1.size
  have rK := hid (rK.out.old b1)
  have W0 := hid (W0.out.old b1)
  have G0 := hid (G0.out.old b1)
  have B := hid (B.out.trans (b1.mono B.out.size))
  have YK := hid i1
  clear i1 b1
  have KR := hid (impl_NumeratorGcd hSK w13 YK.out)
  rw [← HRR.out] at KR
  go_wp2_with fail
  (with_reducible refine (KR.out).mono ?_)
  rintro e w14 ⟨v14, rfl, i1, b1⟩
  have t14 : w13.heap.size ≤ w14.heap.size := b1.size
  have rK := hid (rK.out.old b1)
  have W0 := hid (W0.out.old b1)
  have G0 := hid (G0.out.old b1)
  have YK := hid (YK.out.old b1)
  have B := hid (B.out.trans (b1.mono B.out.size))
  have H0 := hid (Obj_at (lo := w13.heap.size) i1 (Nat.le_refl _))
  obtain ⟨a14, c14, rfl, -⟩ := Ints_form i1
  clear i1 b1 KR
  go_wp2_with fail
  (with_reducible refine (eqIntS_obj _ _ _ _ _ _ _ (by omega) w14 H0.out W0.out).mono ?_)
  rintro e w15 ⟨rfl, b1⟩
  have t15 : w14.heap.size ≤ w15.heap.size := b1.size
  have rK := hid (rK.out.old b1)
  have W0 := hid (W0.out.old b1)
  have G0 := hid (G0.out.old b1)
  have H0 := hid (H0.out.old b1)
  have B := hid (B.out.trans (b1.mono B.out.size))
  clear b1
  go_wp2_with fail
  (with_reducible refine (heldIntS_obj _ RR.length 1 _ _ (by omega) (by omega) (by omega) w15 G0.out).mono ?_)
  rintro e w16 ⟨rfl, b1⟩
  have t16 : w15.heap.size ≤ w16.heap.size := b1.size
  have rK := hid (rK.out.old b1)
  have W0 := hid (W0.out.old b1)
  have G0 := hid (G0.out.old b1)
  have H0 := hid (H0.out.old b1)
  have B := hid (B.out.trans (b1.mono B.out.size))
  clear b1
  go_wp2
  go_ret
  exact ⟨rfl, B.out⟩
end Go.Proofs.Ytmghoedjcokhpaa
