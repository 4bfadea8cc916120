/- The law MatCols. -/
import Derived.Test.YtdffmeinofgdgaaXs
import Derived.Test.YtdffmeinofgdgaaXg
import Derived.Deep.RegionHeld3
import Derived.Deep.DeepCutAuto
namespace Go.Proofs.Ytdffmeinofgdgaa
open Go.RowKit
open Go.Lib (hid)
set_option linter.unusedVariables false

theorem Obj_ri {w : World} {a : Option Addr} {n c : Nat} {L : List Int} {lo hi : Nat} (h : Obj w (.slice a n c) L lo hi) : RowI w a n L := by
  obtain ⟨a', c', e, -, r, -⟩ := Ints_form h.ints
  simp only [Value.slice.injEq] at e
  obtain ⟨rfl, rfl, -⟩ := e
  exact r
set_option maxRecDepth 100000 in
set_option maxHeartbeats 25600000 in
theorem law_MatCols (a : Option Addr) (n c : Nat) (M : List (List Fq)) (hnM : n ≤ maxLen) (hmM : MLen M) (b : Option Addr) (m d : Nat) (S : List Int) (hnS : m ≤ maxLen) (w : World) (rM : MCame w w.heap.size a n M) (rS : Came w w.heap.size b m S) :
    Calls Try.prog 7 #[.slice a n c, .slice b m d] w (RetB (.bool true) w) := by
  have B := hid (Below.refl w.heap.size w)
  unfold maxLen at hnS
  by_cases hsS : 1048576 < (m : Int)
  case pos =>
    go_enter Try.func7, Try.ntmps7
    go_wp2
    go_ret
    exact ⟨rfl, B.out⟩
  have hlS : S.length ≤ 1048576 := by have := rS.1; omega
  have rM := hid rM
  have rS := hid rS
  by_cases hsM : (M.length : Int) + (szM M : Int) ≤ 1048576
  case neg =>
    go_enter Try.func7, Try.ntmps7
    obtain ⟨w0, hw0⟩ : ∃ w0, w0 = w := ⟨_, rfl⟩
    rw [← hw0] at B rM rS ⊢
    clear hw0
    go_wp2_with fail
    (with_reducible refine (szRatSS_no _ _ _ _ M (1048576) hnM hmM (by omega) (by omega) (by omega) _ rM.out).mono ?_)
    rintro e w1 ⟨rfl, b1⟩
    have t1 : w0.heap.size ≤ w1.heap.size := b1.size
    have rM := hid (rM.out.old b1)
    have rS := hid (rS.out.old b1)
    have B := hid (B.out.trans (b1.mono B.out.size))
    clear b1
    go_wp2
    go_ret
    exact ⟨rfl, B.out⟩
  have hSM : Sm2 M := Sm2.of (by omega)
  have hslM : szM M ≤ 1048576 := by omega
  have hllM : M.length ≤ 1048576 := by omega
  obtain ⟨RR, hRR⟩ : ∃ RR, RR = matC M S := ⟨_, rfl⟩
  have hrs : RR.length ≤ 40 ∧ szM RR ≤ 78400 := by rw [hRR]; exact matC_sz M S
  have hrs1 := hrs.1
  have hrs2 := hrs.2
  clear hrs
  have HRR := hid hRR
  clear hRR
  go_enter Try.func7, Try.ntmps7
  obtain ⟨w0, hw0⟩ : ∃ w0, w0 = w := ⟨_, rfl⟩
  rw [← hw0] at B rM rS ⊢
  clear hw0
  go_wp2_with fail
  (with_reducible refine (szRatSS_yes _ _ _ _ M (1048576) (by omega) (by omega) _ rM.out).mono ?_)
  rintro e w1 ⟨rfl, b1⟩
  have t1 : w0.heap.size ≤ w1.heap.size := b1.size
  have rM := hid (rM.out.old b1)
  have rS := hid (rS.out.old b1)
  have B := hid (B.out.trans (b1.mono B.out.size))
  clear b1
  go_wp2_with fail
  (with_reducible refine (toRatSS_came _ _ _ _ M (by omega) _ rM.out).mono ?_)
  rintro e w2 ⟨a2, n2, c2, rfl, i1, b1⟩
  have t2 : w1.heap.size ≤ w2.heap.size := b1.size
  have rM := hid (rM.out.old b1)
  have rS := hid (rS.out.old b1)
  have B := hid (B.out.trans (b1.mono B.out.size))
  have TM := hid i1
  clear i1 b1
  go_wp2_with fail
  (with_reducible refine (toIntS_came _ _ _ _ S (by omega) _ rS.out).mono ?_)
  rintro e w3 ⟨v3, rfl, i1, b1⟩
  have t3 : w2.heap.size ≤ w3.heap.size := b1.size
  have rM := hid (rM.out.old b1)
  have rS := hid (rS.out.old b1)
  have TM := hid (TM.out.old b1)
  have B := hid (B.out.trans (b1.mono B.out.size))
  have TS := hid (Obj_at (lo := w2.heap.size) i1 (Nat.le_refl _))
  obtain ⟨a3, c3, rfl, -⟩ := Ints_form i1
  clear i1 b1
  have KR := hid (spec_MatCols (d := c3) hSM hlS w3 TM.out (Obj_ri TS.out))
  rw [← HRR.out] at KR
  go_wp2_with fail
  (with_reducible refine (KR.out).mono ?_)
  rintro e w4 ⟨a4, n4, c4, rfl, i1, b1⟩
  have t4 : w3.heap.size ≤ w4.heap.size := b1.size
  have rM := hid (rM.out.old b1)
  have rS := hid (rS.out.old b1)
  have TM := hid (TM.out.old b1)
  have TS := hid (TS.out.old b1)
  have B := hid (B.out.trans (b1.mono B.out.size))
  have W0 := hid i1
  clear i1 b1
  clear KR
  go_wp2_with fail
  (with_reducible refine (toRatSS_came _ _ _ _ M (by omega) _ rM.out).mono ?_)
  rintro e w5 ⟨a5, n5, c5, rfl, i1, b1⟩
  have t5 : w4.heap.size ≤ w5.heap.size := b1.size
  have rM := hid (rM.out.old b1)
  have rS := hid (rS.out.old b1)
  have W0 := hid (W0.out.old b1)
  have B := hid (B.out.trans (b1.mono B.out.size))
  have XM := hid i1
  clear i1 b1
  go_wp2_with fail
  (with_reducible refine (toIntS_came _ _ _ _ S (by omega) _ rS.out).mono ?_)
  rintro e w6 ⟨v6, rfl, i1, b1⟩
  have t6 : w5.heap.size ≤ w6.heap.size := b1.size
  have rM := hid (rM.out.old b1)
  have rS := hid (rS.out.old b1)
  have W0 := hid (W0.out.old b1)
  have XM := hid (XM.out.old b1)
  have B := hid (B.out.trans (b1.mono B.out.size))
  have XS := hid (Obj_at (lo := w5.heap.size) i1 (Nat.le_refl _))
  obtain ⟨a6, c6, rfl, -⟩ := Ints_form i1
  clear i1 b1
  have KR := hid (impl_MatCols (c := c5) (d := c6) hSM hlS w6 XM.out.mw (Obj_ri XS.out))
  rw [← HRR.out] at KR
  go_wp2_with fail
  (with_reducible refine (KR.out).mono ?_)
  rintro e w7 ⟨a7, n7, c7, rfl, i1, b1⟩
  have t7 : w6.heap.size ≤ w7.heap.size := b1.size
  have rM := hid (rM.out.old b1)
  have rS := hid (rS.out.old b1)
  have W0 := hid (W0.out.old b1)
  have XM := hid (XM.out.old b1)
  have XS := hid (XS.out.old b1)
  have B := hid (B.out.trans (b1.mono B.out.size))
  have G0 := hid i1
  clear i1 b1
  clear KR
  go_wp2_with fail
  (with_reducible refine (eqRatSS_w (by omega) (by omega) _ G0.out.mw W0.out.mw).mono ?_)
  rintro e w8 ⟨rfl, b1⟩
  have t8 : w7.heap.size ≤ w8.heap.size := b1.size
  have rM := hid (rM.out.old b1)
  have rS := hid (rS.out.old b1)
  have W0 := hid (W0.out.old b1)
  have XM := hid (XM.out.old b1)
  have XS := hid (XS.out.old b1)
  have G0 := hid (G0.out.old b1)
  have B := hid (B.out.trans (b1.mono B.out.size))
  clear b1
  go_wp2_with fail
  (with_reducible refine (toRatSS_came _ _ _ _ M (by omega) _ rM.out).mono ?_)
  rintro e w9 ⟨a9, n9, c9, rfl, i1, b1⟩
  have t9 : w8.heap.size ≤ w9.heap.size := b1.size
  have rM := hid (rM.out.old b1)
  have rS := hid (rS.out.old b1)
  have W0 := hid (W0.out.old b1)
  have XM := hid (XM.out.old b1)
  have XS := hid (XS.out.old b1)
  have G0 := hid (G0.out.old b1)
  have B := hid (B.out.trans (b1.mono B.out.size))
  have TM := hid i1
  clear i1 b1
  go_wp2_with fail
  (with_reducible refine (eqRatSS_w (by omega) (by omega) _ XM.out.mw TM.out.mw).mono ?_)
  rintro e w10 ⟨rfl, b1⟩
  have t10 : w9.heap.size ≤ w10.heap.size := b1.size
  have rM := hid (rM.out.old b1)
  have rS := hid (rS.out.old b1)
  have W0 := hid (W0.out.old b1)
  have XM := hid (XM.out.old b1)
  have XS := hid (XS.out.old b1)
  have G0 := hid (G0.out.old b1)
  have TM := hid (TM.out.old b1)
  have B := hid (B.out.trans (b1.mono B.out.size))
  clear b1
  go_wp2_with fail
  (with_reducible refine (toIntS_came _ _ _ _ S (by omega) _ rS.out).mono ?_)
  rintro e w11 ⟨v11, rfl, i1, b1⟩
  have t11 : w10.heap.size ≤ w11.heap.size := b1.size
  have rM := hid (rM.out.old b1)
  have rS := hid (rS.out.old b1)
  have W0 := hid (W0.out.old b1)
  have XM := hid (XM.out.old b1)
  have XS := hid (XS.out.old b1)
  have G0 := hid (G0.out.old b1)
  have B := hid (B.out.trans (b1.mono B.out.size))
  have TS := hid (Obj_at (lo := w10.heap.size) i1 (Nat.le_refl _))
  obtain ⟨a11, c11, rfl, -⟩ := Ints_form i1
  clear i1 b1
  go_wp2_with fail
  (with_reducible refine (eqIntS_obj _ _ _ _ _ _ _ (by omega) _ XS.out TS.out).mono ?_)
  rintro e w12 ⟨rfl, b1⟩
  have t12 : w11.heap.size ≤ w12.heap.size := b1.size
  have rM := hid (rM.out.old b1)
  have rS := hid (rS.out.old b1)
  have W0 := hid (W0.out.old b1)
  have XM := hid (XM.out.old b1)
  have XS := hid (XS.out.old b1)
  have G0 := hid (G0.out.old b1)
  have TS := hid (TS.out.old b1)
  have B := hid (B.out.trans (b1.mono B.out.size))
  clear b1
  go_wp2_with fail
  (with_reducible refine (markRatSS_k (m := 1) (by omega) (by omega) (by omega) (by omega) _ XM.out).mono ?_)
  rintro e w13 ⟨rfl, o1, b1⟩
  have t13 : w12.heap.size ≤ w13.heap.size := b1.size
  have XM := hid o1
  have rM := hid (rM.out.onlyG b1 (by omega))
  have rS := hid (rS.out.onlyG b1 (by omega))
  have W0 := hid (W0.out.onlyG b1 (by omega))
  have XS := hid (XS.out.onlyG b1 (by omega))
  have G0 := hid (G0.out.onlyG b1 (by omega))
  have B := hid (in_onlyG B.out b1 (by omega))
  clear o1 b1
  go_wp2_with fail
  (with_reducible refine (markIntS_obj _ S (1 + (szM M : Int)) _ _ (by omega) (by omega) (by omega) _ XS.out).mono ?_)
  rintro e w14 ⟨rfl, o1, b1⟩
  have b1 := b1.mono (S' := InG _ _ w13.heap.size) fun k hk => .inl hk
  have t14 : w13.heap.size ≤ w14.heap.size := b1.size
  have XS := hid o1
  have rM := hid (rM.out.onlyG b1 (by omega))
  have rS := hid (rS.out.onlyG b1 (by omega))
  have W0 := hid (W0.out.onlyG b1 (by omega))
  have XM := hid (XM.out.onlyG b1 (by omega))
  have G0 := hid (G0.out.onlyG b1 (by omega))
  have B := hid (in_onlyG B.out b1 (by omega))
  clear o1 b1
  have hm0 : ¬ 1 + (szM M : Int) + (S.length : Int) < 0 := by omega
  go_wp2_with fail
  (with_reducible refine (eqRatSS_w (by omega) (by omega) _ G0.out.mw W0.out.mw).mono ?_)
  rintro e w15 ⟨rfl, b1⟩
  have t15 : w14.heap.size ≤ w15.heap.size := b1.size
  have rM := hid (rM.out.old b1)
  have rS := hid (rS.out.old b1)
  have W0 := hid (W0.out.old b1)
  have XM := hid (XM.out.old b1)
  have XS := hid (XS.out.old b1)
  have G0 := hid (G0.out.old b1)
  have B := hid (B.out.trans (b1.mono B.out.size))
  clear b1
  go_wp2_with fail
  (with_reducible refine (markRatSS_a (m := 1) (by omega) (by omega) (by omega) (by omega) _ G0.out).mono ?_)
  rintro e w16 ⟨rfl, o1, b1⟩
  have t16 : w15.heap.size ≤ w16.heap.size := b1.size
  have G0 := hid o1
  have rM := hid (rM.out.onlyG b1 (by omega))
  have rS := hid (rS.out.onlyG b1 (by omega))
  have W0 := hid (W0.out.onlyG b1 (by omega))
  have B := hid (in_onlyG B.out b1 (by omega))
  clear o1 b1
  have hq0 : ¬ 1 + (szM RR : Int) < 0 := by omega
  go_wp2_with fail
  (with_reducible refine (heldRatSS_w (m := 1) (by omega) (by omega) (by omega) (by omega) _ G0.out.mw).mono ?_)
  rintro e w17 ⟨rfl, b1⟩
  have t17 : w16.heap.size ≤ w17.heap.size := b1.size
  have rM := hid (rM.out.old b1)
  have rS := hid (rS.out.old b1)
  have W0 := hid (W0.out.old b1)
  have G0 := hid (G0.out.old b1)
  have B := hid (B.out.trans (b1.mono B.out.size))
  clear b1
  go_wp2_with fail
  (with_reducible refine (toRatSS_came _ _ _ _ M (by omega) _ rM.out).mono ?_)
  rintro e w18 ⟨a18, n18, c18, rfl, i1, b1⟩
  have t18 : w17.heap.size ≤ w18.heap.size := b1.size
  have rM := hid (rM.out.old b1)
  have rS := hid (rS.out.old b1)
  have W0 := hid (W0.out.old b1)
  have G0 := hid (G0.out.old b1)
  have B := hid (B.out.trans (b1.mono B.out.size))
  have YM := hid i1
  clear i1 b1
  go_wp2_with fail
  (with_reducible refine (toIntS_came _ _ _ _ S (by omega) _ rS.out).mono ?_)
  rintro e w19 ⟨v19, rfl, i1, b1⟩
  have t19 : w18.heap.size ≤ w19.heap.size := b1.size
  have rM := hid (rM.out.old b1)
  have rS := hid (rS.out.old b1)
  have W0 := hid (W0.out.old b1)
  have G0 := hid (G0.out.old b1)
  have YM := hid (YM.out.old b1)
  have B := hid (B.out.trans (b1.mono B.out.size))
  have YS := hid (Obj_at (lo := w18.heap.size) i1 (Nat.le_refl _))
  obtain ⟨a19, c19, rfl, -⟩ := Ints_form i1
  clear i1 b1
  have KR := hid (impl_MatCols (c := c18) (d := c19) hSM hlS w19 YM.out.mw (Obj_ri YS.out))
  rw [← HRR.out] at KR
  go_wp2_with fail
  (with_reducible refine (KR.out).mono ?_)
  rintro e w20 ⟨a20, n20, c20, rfl, i1, b1⟩
  have t20 : w19.heap.size ≤ w20.heap.size := b1.size
  have rM := hid (rM.out.old b1)
  have rS := hid (rS.out.old b1)
  have W0 := hid (W0.out.old b1)
  have G0 := hid (G0.out.old b1)
  have YM := hid (YM.out.old b1)
  have YS := hid (YS.out.old b1)
  have B := hid (B.out.trans (b1.mono B.out.size))
  have H0 := hid i1
  clear i1 b1
  clear KR
  go_wp2_with fail
  (with_reducible refine (eqRatSS_w (by omega) (by omega) _ H0.out.mw W0.out.mw).mono ?_)
  rintro e w21 ⟨rfl, b1⟩
  have t21 : w20.heap.size ≤ w21.heap.size := b1.size
  have rM := hid (rM.out.old b1)
  have rS := hid (rS.out.old b1)
  have W0 := hid (W0.out.old b1)
  have G0 := hid (G0.out.old b1)
  have H0 := hid (H0.out.old b1)
  have B := hid (B.out.trans (b1.mono B.out.size))
  clear b1
  go_wp2_with fail
  (with_reducible refine (heldRatSS_w (m := 1) (by omega) (by omega) (by omega) (by omega) _ G0.out.mw).mono ?_)
  rintro e w22 ⟨rfl, b1⟩
  have t22 : w21.heap.size ≤ w22.heap.size := b1.size
  have rM := hid (rM.out.old b1)
  have rS := hid (rS.out.old b1)
  have W0 := hid (W0.out.old b1)
  have G0 := hid (G0.out.old b1)
  have H0 := hid (H0.out.old b1)
  have B := hid (B.out.trans (b1.mono B.out.size))
  clear b1
  go_wp2
  go_ret
  exact ⟨rfl, B.out⟩
end Go.Proofs.Ytdffmeinofgdgaa
