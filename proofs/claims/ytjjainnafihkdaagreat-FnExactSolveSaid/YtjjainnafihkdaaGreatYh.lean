import Derived.Test.YtjjainnafihkdaaGreatXd
import Derived.Deep.RegionHeld3
import Derived.Deep.DeepCutAuto
import Derived.StillTailTactics
import Derived.Test.YtjjainnafihkdaaGreatYi
import Derived.Test.YtjjainnafihkdaaGreatYb
import Derived.Test.YtjjainnafihkdaaGreatYd
import Derived.Test.YtjjainnafihkdaaGreatVs
set_option maxRecDepth 100000
set_option maxHeartbeats 51200000
set_option linter.unusedVariables false
set_option linter.unusedSimpArgs false
namespace Go.Proofs.YtjjainnafihkdaaGreat
open Go.RowKit
open Go.Lib (hid)
theorem take_at1' {α : Type} {K : List α} {k : Nat} {x : α} (h : k < K.length) (e : K[k] = x) : K.take k ++ [x] = K.take (k + 1) := by
 subst e
 rw [List.take_succ_eq_append_getElem h]
theorem spec_VecOk_w {a : Option Addr} {n c : Nat} {K : List Fq} {lo hi : Nat} (hK : Sm K) (w : World) (h : VW w a n K lo hi) :
  Calls Tryz.prog 76 #[.slice a n c] w (RetB (.bool (oks (vals K))) w) := by
 have HV := hid h
 obtain rfl := h.num
 clear h
 have hkl := hK.2
 obtain ⟨B0, hB0⟩ : ∃ B, B = oks (vals K) := ⟨_, rfl⟩
 rw [← hB0]
 have HB0 := hid hB0
 clear hB0
 by_cases hL : 40 < K.length
 ·go_enter Tryz.func76, Tryz.ntmps76
  go_wp2
  go_loopw [7] (fun i wr => ∃ k : Nat, k ≤ K.length ∧ i = .int .i64 k ∧ Hid (∀ j (h : j < K.length), j < k → K[j].o.isSome = true) ∧ Below w.heap.size w wr) (fun i _ => K.length - (intOf i).toNat)
  case atStart => exact ⟨0, Nat.zero_le _, rfl, hid (fun j h hj => absurd hj (by omega)), Below.refl _ _⟩
  case round =>
   obtain ⟨k, hk, rfl, hA, hbel⟩ := hrel
   by_cases hlt : k < K.length
   ·have V := hid (HV.out.old hbel)
    obtain ⟨g, p, a3, n3, c3, b3, m3, d3, rfl, hg, q0, q1, q2, R⟩ := V.out.at hK hlt
    obtain ⟨⟨s, A, D⟩, hf⟩ : ∃ f, K[k]'(hlt) = f := ⟨_, rfl⟩
    simp only [hf] at q0 R
    have HF := hid hf
    clear hf
    obtain ⟨o, ho⟩ : ∃ o, Fq.o ⟨s, A, D⟩ = o := ⟨_, rfl⟩
    have HO := hid (show (K[k]'(hlt)).o = o by rw [HF.out, ho])
    have RX := hid (show RA wr s (.slice a3 n3 c3) (.slice b3 m3 d3) o from ⟨A, D, R, ho⟩)
    clear ho R
    have HB := hid (hbel.alloc hbel.size (.cells #[.bool s, .slice a3 n3 c3, .slice b3 m3 d3] 62))
    have a1' : (0 : Int) ≤ k := by omega
    have a2 : (k : Int) < K.length := by omega
    clear hbel
    cases o with
    |none =>
     have KO := hid (fun (W : World) (hb : Below wr.heap.size wr W) => sok_none (w := W) (RX.out.old hb))
     go_wp2_with fail
     (with_reducible refine (KO.out _ below_new').mono ?_)
     rintro e w2 ⟨rfl, hb⟩
     have HB := hid (HB.out.trans (hb.mono HB.out.size))
     clear hb q0 q1 q2
     go_wp2
     go_ret
     exact ⟨bool_ret (by rw [HB0.out, oks_no hlt HO.out]), HB.out⟩
    |some x =>
     have KO := hid (fun (W : World) (hb : Below wr.heap.size wr W) => sok_some (w := W) (RX.out.old hb))
     go_wp2_with fail
     (with_reducible refine (KO.out _ below_new').mono ?_)
     rintro e w2 ⟨rfl, hb⟩
     have HB := hid (HB.out.trans (hb.mono HB.out.size))
     clear hb q0 q1 q2
     go_wp2
     go_roundw
     case rel => exact ⟨k + 1, by omega, by go_num, hid (fun j h hj => by
      rcases Nat.lt_or_eq_of_le (Nat.le_of_lt_succ hj) with hj' | rfl
      ·exact hA.out j h hj'
      ·rw [HO.out]; rfl), HB.out⟩
     case measure => simp [intOf]; omega
   ·have HB := hid hbel
    clear hbel
    go_wp2
    go_ret
    exact ⟨bool_ret (by rw [HB0.out, oks_long hL]; first | exact decide_eq_false (by omega) | exact decide_eq_true (by omega)), HB.out⟩
 ·go_enter Tryz.func76, Tryz.ntmps76
  go_wp2
  go_loopw [7] (fun i wr => ∃ k : Nat, k ≤ K.length ∧ i = .int .i64 k ∧ Hid (∀ j (h : j < K.length), j < k → K[j].o.isSome = true) ∧ Below w.heap.size w wr) (fun i _ => K.length - (intOf i).toNat)
  case atStart => exact ⟨0, Nat.zero_le _, rfl, hid (fun j h hj => absurd hj (by omega)), Below.refl _ _⟩
  case round =>
   obtain ⟨k, hk, rfl, hA, hbel⟩ := hrel
   by_cases hlt : k < K.length
   ·have V := hid (HV.out.old hbel)
    obtain ⟨g, p, a3, n3, c3, b3, m3, d3, rfl, hg, q0, q1, q2, R⟩ := V.out.at hK hlt
    obtain ⟨⟨s, A, D⟩, hf⟩ : ∃ f, K[k]'(hlt) = f := ⟨_, rfl⟩
    simp only [hf] at q0 R
    have HF := hid hf
    clear hf
    obtain ⟨o, ho⟩ : ∃ o, Fq.o ⟨s, A, D⟩ = o := ⟨_, rfl⟩
    have HO := hid (show (K[k]'(hlt)).o = o by rw [HF.out, ho])
    have RX := hid (show RA wr s (.slice a3 n3 c3) (.slice b3 m3 d3) o from ⟨A, D, R, ho⟩)
    clear ho R
    have HB := hid (hbel.alloc hbel.size (.cells #[.bool s, .slice a3 n3 c3, .slice b3 m3 d3] 62))
    have a1' : (0 : Int) ≤ k := by omega
    have a2 : (k : Int) < K.length := by omega
    clear hbel
    cases o with
    |none =>
     have KO := hid (fun (W : World) (hb : Below wr.heap.size wr W) => sok_none (w := W) (RX.out.old hb))
     go_wp2_with fail
     (with_reducible refine (KO.out _ below_new').mono ?_)
     rintro e w2 ⟨rfl, hb⟩
     have HB := hid (HB.out.trans (hb.mono HB.out.size))
     clear hb q0 q1 q2
     go_wp2
     go_ret
     exact ⟨bool_ret (by rw [HB0.out, oks_no hlt HO.out]), HB.out⟩
    |some x =>
     have KO := hid (fun (W : World) (hb : Below wr.heap.size wr W) => sok_some (w := W) (RX.out.old hb))
     go_wp2_with fail
     (with_reducible refine (KO.out _ below_new').mono ?_)
     rintro e w2 ⟨rfl, hb⟩
     have HB := hid (HB.out.trans (hb.mono HB.out.size))
     clear hb q0 q1 q2
     go_wp2
     go_roundw
     case rel => exact ⟨k + 1, by omega, by go_num, hid (fun j h hj => by
      rcases Nat.lt_or_eq_of_le (Nat.le_of_lt_succ hj) with hj' | rfl
      ·exact hA.out j h hj'
      ·rw [HO.out]; rfl), HB.out⟩
     case measure => simp [intOf]; omega
   ·have HB := hid hbel
    clear hbel
    go_wp2
    go_ret
    exact ⟨bool_ret (by rw [HB0.out, oks_yes (by omega) (fun j h => hA.out j h (by omega))]; first | exact decide_eq_false (by omega) | exact decide_eq_true (by omega)), HB.out⟩
theorem spec_MatOk_w {a : Option Addr} {n c : Nat} {M : List (List Fq)} {lo hi : Nat} (hM : Sm2 M) (w : World) (h : MW w a n M lo hi) :
  Calls Tryz.prog 103 #[.slice a n c] w (RetB (.bool (matOk M)) w) := by
 have HV := hid h
 obtain rfl := h.num
 clear h
 have hkl := hM.2
 obtain ⟨B0, hB0⟩ : ∃ B, B = matOk M := ⟨_, rfl⟩
 rw [← hB0]
 have HB0 := hid hB0
 clear hB0
 go_enter Tryz.func103, Tryz.ntmps103
 go_wp2
 go_loopw [7] (fun i wr => ∃ k : Nat, k ≤ M.length ∧ i = .int .i64 k ∧ Hid (∀ j (h : j < M.length), j < k → M[j].length = matW M ∧ oks (vals M[j]) = true) ∧ Below w.heap.size w wr) (fun i _ => M.length - (intOf i).toNat)
 case atStart => exact ⟨0, Nat.zero_le _, rfl, hid (fun j h hj => absurd hj (by omega)), Below.refl _ _⟩
 case round =>
  obtain ⟨k, hk, rfl, hA, hbel⟩ := hrel
  by_cases hlt : k < M.length
  ·obtain ⟨g, o, b, d, rfl, hg, q0, V⟩ := (HV.out.old hbel).at hlt
   obtain ⟨g', o', b', d', e, -, q1, -⟩ := (HV.out.old hbel).at (k := 0) (by omega)
   obtain ⟨rfl, rfl⟩ := addr_in e
   rw [Nat.add_zero, ← matW_at (by omega)] at q1
   have hSK := hM.at hlt
   obtain ⟨K, hKK⟩ : ∃ K, M[k]'(hlt) = K := ⟨_, rfl⟩
   simp only [hKK] at q0 V hSK
   have HK := hid hKK
   obtain ⟨W, hW⟩ : ∃ W, matW M = W := ⟨_, rfl⟩
   rw [hW] at q1
   have HW := hid hW
   have KO := hid (spec_VecOk_w (c := d) hSK wr V)
   have HB := hid hbel
   have a1' : (0 : Int) ≤ k := by omega
   have a2 : (k : Int) < M.length := by omega
   have a3 : (0 : Int) < M.length := by omega
   have hg2 := hid hg
   clear hbel hKK hW V e
   obtain ⟨ob, hob⟩ : ∃ ob, oks (vals K) = ob := ⟨_, rfl⟩
   have HOB := hid (show oks (vals (M[k]'(hlt))) = ob by rw [HK.out, hob])
   rw [hob] at KO
   clear hob
   cases ob with
   |false =>
    go_wp2_with fail
    (with_reducible refine (KO.out).mono ?_)
    rintro e w2 ⟨rfl, hb⟩
    have HB := hid (HB.out.trans (hb.mono HB.out.size))
    clear hb q0 q1
    go_wp2
    go_ret
    exact ⟨bool_ret (by rw [HB0.out, matOk_no hlt HOB.out]), HB.out⟩
   |true =>
    by_cases hLK : K.length = W
    ·have HLK := hid (show (M[k]'(hlt)).length = matW M by rw [HK.out, HW.out, hLK])
     subst hLK
     go_wp2_with fail
     (with_reducible refine (KO.out).mono ?_)
     rintro e w2 ⟨rfl, hb⟩
     have HB := hid (HB.out.trans (hb.mono HB.out.size))
     have q1 := (hb.cell (p := ⟨g, o, none⟩) hg2.out).trans q1
     clear hb q0
     go_wp2
     go_roundw
     case rel => exact ⟨k + 1, by omega, by go_num, hid (fun j h hj => by
      rcases Nat.lt_or_eq_of_le (Nat.le_of_lt_succ hj) with hj' | rfl
      ·exact hA.out j h hj'
      ·exact ⟨HLK.out, HOB.out⟩), HB.out⟩
     case measure => simp [intOf]; omega
    ·obtain ⟨e1, e2⟩ := ne_facts hLK
     have HLK := hid (show (M[k]'(hlt)).length ≠ matW M by rw [HK.out, HW.out]; exact hLK)
     clear hLK
     go_wp2_with fail
     (with_reducible refine (KO.out).mono ?_)
     rintro e w2 ⟨rfl, hb⟩
     have HB := hid (HB.out.trans (hb.mono HB.out.size))
     have q1 := (hb.cell (p := ⟨g, o, none⟩) hg2.out).trans q1
     clear hb q0
     go_wp2
     go_ret
     exact ⟨bool_ret (by rw [HB0.out, matOk_len hlt HLK.out]), HB.out⟩
  ·have HB := hid hbel
   clear hbel
   go_wp2
   go_ret
   refine ⟨bool_ret ?_, HB.out⟩
   rw [HB0.out]
   by_cases h4 : M.length ≤ 40
   ·rw [matOk_yes h4 (fun j h => hA.out j h (by omega))]
    exact decide_eq_true (by omega)
   ·rw [matOk_long (by omega)]
    exact decide_eq_false (by omega)
theorem l06Copy_any {a : Option Addr} {n c : Nat} {K : List Fq} {lo hi : Nat} (hK : Sm K) (w : World) (h : VW w a n K lo hi) :
  Calls Tryz.prog 90 #[.slice a n c] w (VecR false K w) := by
 have HV := hid h
 obtain rfl := h.num
 clear h
 have hkl := hK.2
 have V0 := hid (VK_lit0 false (w := w) (lo := w.heap.size) (Nat.le_refl _))
 have B0 := hid (show Below w.heap.size w (w.alloc (.cells #[] 62)) from below_new')
 have S0 := hid (show (w.alloc (.cells #[] 62)).heap.size = w.heap.size + 1 by simp)
 go_enter Tryz.func90, Tryz.ntmps90
 go_wp2
 generalize w.alloc (.cells #[] 62) = w1 at V0 B0 S0 ⊢
 go_loopw [3, 9] (fun v i wr => ∃ (k : Nat) (a' : Option Addr) (c' : Nat), k ≤ K.length ∧ i = .int .i64 k ∧ v = .slice a' k c' ∧ Hid (VK false wr (.slice a' k c') (K.take k) w.heap.size wr.heap.size) ∧ Below w.heap.size w wr) (fun _ i _ => K.length - (intOf i).toNat)
 case atStart => exact ⟨0, some ⟨w.heap.size, 0, none⟩, 0, Nat.zero_le _, rfl, rfl, hid (V0.out.wide (Nat.le_refl _) (by rw [S0.out]; exact Nat.le_refl _)), B0.out⟩
 case round =>
  obtain ⟨k, a', c', hk, rfl, rfl, hV, hbel⟩ := hrel
  have HB := hid hbel
  by_cases hlt : k < K.length
  ·obtain ⟨g1, p1, a3, n3, c3, b3, m3, d3, rfl, hg1, q1, q2, q3, R⟩ := (HV.out.old hbel).at hK hlt
   obtain ⟨⟨s, A, D⟩, hf⟩ : ∃ f, K[k]'hlt = f := ⟨_, rfl⟩
   have HSN := hid (take_at1' hlt hf)
   simp only [hf] at q1 R
   have HR := hid R
   have hz := hbel.size
   have a1' : (0 : Int) ≤ k := by omega
   have a2 : (k : Int) < K.length := by omega
   have HB := hid (hbel.alloc hbel.size (.cells #[.bool s, .slice a3 n3 c3, .slice b3 m3 d3] 62))
   have HVa := hid (hV.out.old (below_new' (o := .cells #[.bool s, .slice a3 n3 c3, .slice b3 m3 d3] 62)))
   have KF := hid (scopy_f (s := s) (R.old (below_new' (o := .cells #[.bool s, .slice a3 n3 c3, .slice b3 m3 d3] 62))))
   have hza := hid (show (wr.alloc (.cells #[.bool s, .slice a3 n3 c3, .slice b3 m3 d3] 62)).heap.size = wr.heap.size + 1 by simp)
   clear hbel hf R
   go_wp2_with fail
   (with_reducible refine (KF.out).mono ?_)
   rintro e w2 ⟨x1, x2, x3, x4, rfl, hr, hb⟩
   have V2 := hid ((HVa.out.old hb).wide (Nat.le_refl _) (show wr.heap.size ≤ (wr.alloc (.cells #[.bool s, .slice a3 n3 c3, .slice b3 m3 d3] 62)).heap.size by rw [hza.out]; omega))
   have R2 := hid hr
   have hz2 := hb.size
   rw [hza.out] at hz2 V2 R2
   have HB2 := hid ((HB.out.trans (hb.mono (by rw [hza.out]; omega))).alloc (show w.heap.size ≤ w2.heap.size by omega) (.cells #[.bool s, .slice x1 A.length x2, .slice x3 D.length x4] 62))
   clear hr hb q1 q2 q3
   have PV := hid (V2.out.old (below_new' (o := .cells #[.bool s, .slice x1 A.length x2, .slice x3 D.length x4] 62)))
   have PR := hid (R2.out.old (below_new' (o := .cells #[.bool s, .slice x1 A.length x2, .slice x3 D.length x4] 62)))
   have PB := hid (heap_alloc_new w2 (.cells #[.bool s, .slice x1 A.length x2, .slice x3 D.length x4] 62))
   have hln := hid (show (K.take k).length = k by rw [List.length_take]; omega)
   go_wp2_with (at_builtin; refine wpList_pushF rfl _ _ rfl rfl PV.out (Nat.le_refl _) (by omega) PR.out rfl PB.out (by rw [hln.out]; omega) (by simp; omega) (n := k + 1) (by rw [hln.out]) ?_)
   intro gp cp wp hvp hbp
   rw [HSN.out] at hvp
   have HB3 := hid (HB2.out.trans hbp)
   have HV3 := hid hvp
   clear hvp hbp
   go_wp2
   go_roundw
   case rel => exact ⟨k + 1, some ⟨gp, 0, none⟩, cp, by omega, by go_num, rfl, HV3, HB3.out⟩
   case measure => simp [intOf]; omega
  ·obtain rfl : k = K.length := by omega
   have R := hid (show VecR false K w (.returned (.slice a' K.length c')) wr from ⟨_, _, _, rfl, by have h1 := hV.out; rwa [List.take_length] at h1, HB.out⟩)
   clear hbel
   go_wp2
   go_ret
   exact R.out
theorem l08Copy_any {a : Option Addr} {n c : Nat} {M : List (List Fq)} {lo hi : Nat} (hM : Sm2 M) (w : World) (h : MW w a n M lo hi) :
  Calls Tryz.prog 117 #[.slice a n c] w (fun e w' => ∃ a' c' R, e = .returned (.slice a' M.length c') ∧ MR false w' (.slice a' M.length c') R w.heap.size w'.heap.size ∧ R.map Rw.K = M ∧ Below w.heap.size w w') := by
 have HV := hid h
 obtain rfl := h.num
 clear h
 have hkl := hM.2
 have V0 := hid (MR_lit0 false (w := w) (lo := w.heap.size) (Nat.le_refl _))
 have B0 := hid (show Below w.heap.size w (w.alloc (.cells #[] 42)) from below_new')
 have S0 := hid (show (w.alloc (.cells #[] 42)).heap.size = w.heap.size + 1 by simp)
 go_enter Tryz.func117, Tryz.ntmps117
 go_wp2
 generalize w.alloc (.cells #[] 42) = w1 at V0 B0 S0 ⊢
 go_loopw [3, 9] (fun v i wr => ∃ (k : Nat) (a' : Option Addr) (c' : Nat) (R : List Rw), k ≤ M.length ∧ i = .int .i64 k ∧ v = .slice a' k c' ∧ Hid (R.map Rw.K = M.take k) ∧ Hid (MR false wr (.slice a' k c') R w.heap.size wr.heap.size) ∧ Below w.heap.size w wr) (fun _ i _ => M.length - (intOf i).toNat)
 case atStart => exact ⟨0, some ⟨w.heap.size, 0, none⟩, 0, [], Nat.zero_le _, rfl, rfl, hid rfl, hid (V0.out.wide (Nat.le_refl _) (by rw [S0.out]; exact Nat.le_refl _)), B0.out⟩
 case round =>
  obtain ⟨k, a', c', R, hk, rfl, rfl, hK, hR, hbel⟩ := hrel
  have HB := hid hbel
  have hz := hbel.size
  by_cases hlt : k < M.length
  ·obtain ⟨g, o, b, d, rfl, hg, q0, V⟩ := (HV.out.old hbel).at hlt
   obtain ⟨K, hKK⟩ : ∃ K, M[k]'(hlt) = K := ⟨_, rfl⟩
   have hSK := hM.at hlt
   have HT := hid (take_at1' hlt hKK)
   simp only [hKK] at q0 V hSK
   have KC := hid (l06Copy_any (c := d) hSK wr V)
   have HRl := hid (show R.length = k by have := congrArg List.length hK.out; rw [List.length_map, List.length_take] at this; omega)
   have a1' : (0 : Int) ≤ k := by omega
   have a2 : (k : Int) < M.length := by omega
   clear hbel hKK V
   go_wp2_with fail
   (with_reducible refine (KC.out).mono ?_)
   rintro e w2 ⟨a5, n5, c5, rfl, hv, hb⟩
   have hz2 := hb.size
   have HB5 := hid (HB.out.trans (hb.mono hz))
   have HB6 := hid (HB5.out.alloc HB5.out.size (.cells #[.slice a5 n5 c5] 42))
   have PM := hid ((hR.out.old hb).old (below_new' (o := .cells #[.slice a5 n5 c5] 42)))
   have PV := hid (hv.old (below_new' (o := .cells #[.slice a5 n5 c5] 42)))
   have PB := hid (heap_alloc_new w2 (.cells #[.slice a5 n5 c5] 42))
   clear hv hb q0
   go_wp2_with (at_builtin; refine wpList_pushM rfl _ _ rfl rfl PM.out PV.out (Nat.le_refl _) hz2 (by simp) hz rfl PB.out (by rw [HRl.out]; omega) (by simp; omega) (n := k + 1) (by rw [HRl.out]) ?_)
   intro gp cp wp hvp hbp
   have HB7 := hid (HB6.out.trans hbp)
   have HV7 := hid hvp
   clear hvp hbp
   go_wp2
   go_roundw
   case rel => exact ⟨k + 1, some ⟨gp, 0, none⟩, cp, R ++ [⟨.slice a5 n5 c5, K, wr.heap.size, w2.heap.size⟩], by omega, by go_num, rfl, hid (by rw [List.map_append, hK.out, ← HT.out]; rfl), HV7, HB7.out⟩
   case measure => simp [intOf]; omega
  ·obtain rfl : k = M.length := by omega
   have HR := hid (show R.map Rw.K = M by have := hK.out; rwa [List.take_length] at this)
   clear hbel
   go_wp2
   go_ret
   exact ⟨_, _, R, rfl, hR.out, HR.out, HB.out⟩
end Go.Proofs.YtjjainnafihkdaaGreat
namespace Go.Proofs.YtjjainnafihkdaaGreat
open Go.RowKit
open Go.Lib (hid)
theorem RO.keepR {p q : Bool} {w w' : World} {g N c l h lo : Nat} {E : List El} {s : Bool} {v u : Value} {o : Option Rat} (hr : VO q w (.slice (some ⟨g, 0, none⟩) N c) E l h) (hb : ∀ k, k ≠ g → w'.heap[k]? = w.heap[k]?) (ho : RO p w lo s v u o) : RO p w' lo s v u o :=
 ⟨ho.sg, Ints_block ho.i fun k hk => hb k fun e => own_ne hr.row ho.i (by decide) k (by rw [e]; rfl) hk, Ints_block ho.j fun k hk => hb k fun e => own_ne hr.row ho.j (by decide) k (by rw [e]; rfl) hk, ho.nd, ho.ft⟩
theorem Ints_keepR {q : Bool} {w w' : World} {g N c l h lo : Nat} {E : List El} {v : Value} {L : List Int} (hr : VO q w (.slice (some ⟨g, 0, none⟩) N c) E l h) (hb : ∀ k, k ≠ g → w'.heap[k]? = w.heap[k]?) (ho : Ints w lo v L) : Ints w' lo v L :=
 Ints_block ho fun k hk => hb k fun e => own_ne hr.row ho (by decide) k (by rw [e]; rfl) hk
theorem own_keepR {q : Bool} {w w' : World} {g N c l h lo n : Nat} {E : List El} {v : Value} {xs : List Value} (hr : VO q w (.slice (some ⟨g, 0, none⟩) N c) E l h) (hb : ∀ k, k ≠ g → w'.heap[k]? = w.heap[k]?) (ho : w.ownsRow lo 42 1 v n xs) : w'.ownsRow lo 42 1 v n xs :=
 own_block ho fun k hk => hb k fun e => own_ne hr.row ho (by decide) k (by rw [e]; rfl) hk
theorem Ints_keepG {w w' : World} {G m c lo' n lo : Nat} {xs : List Value} {v : Value} {L : List Int} (hr : w.ownsRow lo' 42 1 (.slice (some ⟨G, 0, none⟩) m c) n xs) (hb : ∀ k, k ≠ G → w'.heap[k]? = w.heap[k]?) (ho : Ints w lo v L) : Ints w' lo v L :=
 Ints_block ho fun k hk => hb k fun e => own_ne hr ho (by decide) k (by rw [e]; rfl) hk
def set3 (w : World) (g k : Nat) (s : Bool) (x y : Value) : World := ((w.setCell ⟨g, k * 3, none⟩ (.bool s)).setCell ⟨g, k * 3 + 1, none⟩ x).setCell ⟨g, k * 3 + 2, none⟩ y
theorem set3_other (w : World) (g k : Nat) (s : Bool) (x y : Value) : ∀ j, j ≠ g → (set3 w g k s x y).heap[j]? = w.heap[j]? := fun j hj => by
 unfold set3
 rw [Below.heap_setCell _ _ _ _ hj, Below.heap_setCell _ _ _ _ hj, Below.heap_setCell _ _ _ _ hj]
theorem set3_size (w : World) (g k : Nat) (s : Bool) (x y : Value) : (set3 w g k s x y).heap.size = w.heap.size := by simp only [set3, size_set]
def VKb (b : Option Nat) (w : World) (v : Value) (K : List Fq) (lo hi : Nat) : Prop := ∃ E, VO false w v E lo hi ∧ keys E = K ∧ ∀ e ∈ E, ∀ k, (e.v.ownBlock = some k ∨ e.u.ownBlock = some k) → b ≠ some k
theorem VKb.vk {b : Option Nat} {w : World} {v : Value} {K : List Fq} {lo hi : Nat} (h : VKb b w v K lo hi) : VK false w v K lo hi := by
 obtain ⟨E, h, e, -⟩ := h
 exact ⟨E, h, e⟩
theorem VKb.old {b : Option Nat} {w w' : World} {v : Value} {K : List Fq} {lo hi : Nat} (h : VKb b w v K lo hi) (hb : Below w.heap.size w w') : VKb b w' v K lo hi := by
 obtain ⟨E, h, e, a⟩ := h
 exact ⟨E, h.old hb, e, a⟩
theorem VKb.wide {b : Option Nat} {w : World} {v : Value} {K : List Fq} {lo hi lo' hi' : Nat} (h : VKb b w v K lo hi) (h1 : lo' ≤ lo) (h2 : hi ≤ hi') : VKb b w v K lo' hi' := by
 obtain ⟨E, h, e, a⟩ := h
 exact ⟨E, h.wide h1 h2, e, a⟩
theorem VKb.keepG {b : Option Nat} {w w' : World} {G n m c lo' : Nat} {xs : List Value} {v : Value} {K : List Fq} {lo hi : Nat} (h : VKb b w v K lo hi) (hr : w.ownsRow lo' 42 1 (.slice (some ⟨G, 0, none⟩) m c) n xs) (hb : ∀ k, k ≠ G → w'.heap[k]? = w.heap[k]?) : VKb b w' v K lo hi := by
 obtain ⟨E, h, e, a⟩ := h
 exact ⟨E, h.keepG hr hb, e, a⟩
theorem VKb.form {b : Option Nat} {w : World} {v : Value} {K : List Fq} {lo hi : Nat} (h : VKb b w v K lo hi) : ∃ a c, v = .slice a K.length c := h.vk.form
structure RC (b : Option Nat) (w : World) (n : Nat) (V : Nat → Value) (lo : Nat) (O : Nat → List (Option Rat)) : Prop where
 el : ∀ j, j < n → VKb b w (V j) ((O j).map fqo) lo w.heap.size
 ne : ∀ i j, i < n → j < n → i ≠ j → ∀ k, (V i).ownBlock = some k → (V j).ownBlock ≠ some k
 ft : ∀ j, j < n → ∀ o ∈ O j, fitO o
theorem RC.old {b : Option Nat} {w w' : World} {n lo : Nat} {V : Nat → Value} {O : Nat → List (Option Rat)} (h : RC b w n V lo O) (hb : Below w.heap.size w w') : RC b w' n V lo O :=
 ⟨fun j hj => ((h.el j hj).old hb).wide (Nat.le_refl _) hb.size, h.ne, h.ft⟩
theorem RC.keepG {b : Option Nat} {w w' : World} {G m c lo' k n lo : Nat} {V : Nat → Value} {O : Nat → List (Option Rat)} {xs : List Value} (h : RC b w n V lo O) (hr : w.ownsRow lo' 42 1 (.slice (some ⟨G, 0, none⟩) m c) k xs) (hs : w'.heap.size = w.heap.size) (hb : ∀ k, k ≠ G → w'.heap[k]? = w.heap[k]?) : RC b w' n V lo O :=
 ⟨fun j hj => by rw [hs]; exact (h.el j hj).keepG hr hb, h.ne, h.ft⟩
theorem RC.same {b : Option Nat} {w : World} {n lo : Nat} {V : Nat → Value} {O O' : Nat → List (Option Rat)} (h : RC b w n V lo O) (e : ∀ j, j < n → O' j = O j) : RC b w n V lo O' :=
 ⟨fun j hj => by rw [e j hj]; exact h.el j hj, h.ne, fun j hj => by rw [e j hj]; exact h.ft j hj⟩
theorem RC.perm {b : Option Nat} {w : World} {n lo : Nat} {V : Nat → Value} {O : Nat → List (Option Rat)} (h : RC b w n V lo O) {f : Nat → Nat} (hf : ∀ j, j < n → f j < n) (hi : ∀ i j, i < n → j < n → i ≠ j → f i ≠ f j) : RC b w n (fun j => V (f j)) lo (fun j => O (f j)) :=
 ⟨fun j hj => h.el _ (hf j hj), fun i j hi' hj hne => h.ne _ _ (hf i hi') (hf j hj) (hi i j hi' hj hne), fun j hj => h.ft _ (hf j hj)⟩
theorem RC.at {b : Option Nat} {w : World} {n lo : Nat} {V : Nat → Value} {O : Nat → List (Option Rat)} (h : RC b w n V lo O) {j : Nat} (hj : j < n) {k : Nat} (hk : k < (O j).length) :
  ∃ g c s a3 n3 c3 b3 m3 d3 E, V j = .slice (some ⟨g, 0, none⟩) (O j).length c ∧ lo ≤ g ∧ g < w.heap.size ∧ w.cell? ⟨g, k * 3, none⟩ = some (.bool s) ∧ w.cell? ⟨g, k * 3 + 1, none⟩ = some (.slice a3 n3 c3) ∧ w.cell? ⟨g, k * 3 + 2, none⟩ = some (.slice b3 m3 d3) ∧
   RO false w lo s (.slice a3 n3 c3) (.slice b3 m3 d3) (O j)[k] ∧ VO false w (.slice (some ⟨g, 0, none⟩) (O j).length c) E lo w.heap.size ∧ keys E = (O j).map fqo := by
 obtain ⟨E, hE, hEk, -⟩ := h.el j hj
 have hEl : E.length = (O j).length := by rw [← keys_len, hEk, List.length_map]
 obtain ⟨a, c, hv, -⟩ := hE.form
 rw [hv] at hE
 obtain ⟨g, rfl, -, h1, -, h3⟩ := hE.pos (by omega)
 obtain ⟨q0, q1, q2⟩ := hE.cell (i := k) (by omega)
 have R := hE.at (i := k) (by omega)
 have hq : E[k].q = fqo (O j)[k] := by
  have := congrArg (fun l => l[k]?) hEk
  simp only [List.getElem?_map, List.getElem?_eq_getElem hk, Option.map_some] at this
  have hk' : k < E.length := by omega
  have e2 : (keys E)[k]? = some E[k].q := by rw [List.getElem?_eq_getElem (by rw [keys_len]; exact hk'), keys_at hk']
  rw [e2] at this
  exact Option.some.inj this
 rw [hq] at q0 R
 obtain ⟨a3, c3, b3, d3, e1, e2⟩ := R.form
 rw [e1] at q1 R
 rw [e2] at q2 R
 have i1 := R.a.ints
 have i2 := R.d.ints
 have hl1 : (.slice a3 (fqo (O j)[k]).A.length c3 : Value) = .slice a3 (fqo (O j)[k]).A.length c3 := rfl
 rw [hEl] at hv hE
 refine ⟨g, c, _, a3, _, c3, b3, _, d3, E, hv, h1, h3, q0, q1, q2, ⟨fqo_s _, ?_, ?_, (fun h => by cases h), h.ft j hj _ (List.getElem_mem hk)⟩, hE, hEk⟩
 ·rw [← fqo_A]; exact i1
 ·rw [← fqo_D]; exact i2
theorem RC.at' {b : Option Nat} {w : World} {n lo : Nat} {V : Nat → Value} {O : Nat → List (Option Rat)} (h : RC b w n V lo O) {j : Nat} (hj : j < n) {os : List (Option Rat)} (hO : O j = os) {k W : Nat} (hl : os.length = W) (hk : k < W) {o : Option Rat} (ho : os[k]'(by omega) = o) :
  ∃ g c s a3 n3 c3 b3 m3 d3, V j = .slice (some ⟨g, 0, none⟩) W c ∧ lo ≤ g ∧ g < w.heap.size ∧ w.cell? ⟨g, k * 3, none⟩ = some (.bool s) ∧ w.cell? ⟨g, k * 3 + 1, none⟩ = some (.slice a3 n3 c3) ∧ w.cell? ⟨g, k * 3 + 2, none⟩ = some (.slice b3 m3 d3) ∧
   RO false w lo s (.slice a3 n3 c3) (.slice b3 m3 d3) o := by
 subst hO
 subst hl
 subst ho
 obtain ⟨g, c, s, a3, n3, c3, b3, m3, d3, E, h1, h2, h3, h4, h5, h6, h7, -, -⟩ := h.at hj hk
 exact ⟨g, c, s, a3, n3, c3, b3, m3, d3, h1, h2, h3, h4, h5, h6, h7⟩
theorem RC.put {b : Option Nat} {w : World} {n lo : Nat} {V : Nat → Value} {O : Nat → List (Option Rat)} (h : RC b w n V lo O) {i k g c : Nat} (hi : i < n) (hv : V i = .slice (some ⟨g, 0, none⟩) (O i).length c) (hk : k < (O i).length) {lo' : Nat} {s : Bool} {x y : Value} {o : Option Rat} (hr : RO false w lo' s x y o) (hl : lo ≤ lo') (hbl : ∀ k, b = some k → k < lo') :
  RC b (set3 w g k s x y) n V lo (fun j => if j = i then (O i).set k o else O j) := by
 have hs := set3_size w g k s x y
 have blk := set3_other w g k s x y
 have hi2 := h.el i hi
 rw [hv] at hi2
 obtain ⟨Ei, hEi, hEik, hav⟩ := hi2
 refine ⟨fun j hj => ?_, h.ne, fun j hj => ?_⟩
 ·rw [hs]
  by_cases e : j = i
  ·subst e
   simp only [if_true]
   rw [hv]
   have hsg := hr.sg
   rw [← fqo_s] at hsg
   subst hsg
   have h1 := hr.i
   have h2 := hr.j
   rw [← fqo_A] at h1
   rw [← fqo_D] at h2
   generalize hfo : fqo o = f at h1 h2 blk hs ⊢
   have hk' : k < Ei.length := by rw [← keys_len, hEik, List.length_map]; exact hk
   have hro : ROw w x y f.A f.D lo' w.heap.size := ⟨⟨h1, fun k hk => (Ints_lt h1 k hk).2⟩, ⟨h2, fun k hk => (Ints_lt h2 k hk).2⟩⟩
   refine ⟨Ei.set k ⟨f, x, y⟩, hEi.put (e := ⟨f, x, y⟩) hk' ⟨hro.a.wide hl (.inr (Nat.le_refl _)), hro.d.wide hl (.inr (Nat.le_refl _))⟩ (fun hp => by cases hp) (fun hp => by cases hp), ?_, fun e he k' hk'' => ?_⟩
   ·rw [List.map_set, ← hEik, hfo]
    simp [keys, List.map_set]
   ·rcases List.mem_or_eq_of_mem_set he with he | rfl
    ·exact hav e he k' hk''
    ·intro hbk
     have := hbl k' hbk
     have h3 : lo' ≤ k' := hk''.elim (fun e => (Ints_lt h1 k' e).1) (fun e => (Ints_lt h2 k' e).1)
     omega
  ·simp only [if_neg e]
   obtain ⟨E, hE, hEk, hav'⟩ := h.el j hj
   have keep : ∀ {y' : Value} {L : List Int}, Obj w y' L lo w.heap.size → Obj (set3 w g k s x y) y' L lo w.heap.size := fun {y' L} ho =>
    ⟨Ints_block ho.ints fun k' hk' => blk k' fun e' => own_ne hEi.row ho.ints (by decide) g rfl (by rw [hk', e']), ho.high⟩
   exact ⟨E, ⟨own_block hE.row fun k' hk' => blk k' fun e' => h.ne j i hj hi e k' hk' (by rw [hv, e']; rfl), hE.high, fun z hz => ⟨keep (hE.el z hz).a, keep (hE.el z hz).d⟩, hE.nd, hE.ap⟩, hEk, hav'⟩
 ·by_cases e : j = i
  ·subst e
   simp only [if_true]
   intro z hz
   rcases List.mem_or_eq_of_mem_set hz with hz | rfl
   ·exact h.ft j hj z hz
   ·exact hr.ft
  ·simp only [if_neg e]; exact h.ft j hj
theorem RC.mw {b : Option Nat} {w : World} {n lo G cap : Nat} {V : Nat → Value} {O : Nat → List (Option Rat)} (h : RC b w n V lo O) (hr : w.ownsRow lo 42 1 (.slice (some ⟨G, 0, none⟩) n cap) n ((List.range n).map V)) : MW w (some ⟨G, 0, none⟩) n ((List.range n).map fun j => (O j).map fqo) lo w.heap.size := by
 have hG := hr.lt G rfl
 refine ⟨by simp, fun h0 => ⟨G, 0, rfl, hG.1, hG.2, hG.2, fun i hi => ?_⟩⟩
 simp only [List.length_map, List.length_range] at hi
 have hc := hr.cells (g := G) rfl i (V i) (by simp [hi])
 rw [Go.WideShapes.add_plain, Nat.zero_add] at hc
 have hv := h.el i hi
 obtain ⟨b', c', e⟩ := hv.form
 rw [e] at hc hv
 simp only [List.getElem_map, List.getElem_range, Nat.zero_add]
 exact ⟨b', c', hc, hv.vk.vw⟩
def CapsO (w : World) (a : Option Addr) (n : Nat) : Prop := ∀ g o, a = some ⟨g, o, none⟩ → ∀ i, i < n → ∀ b l d, w.cell? ⟨g, o + i, none⟩ = some (.slice b l d) → l ≤ d
theorem RC.caps {b : Option Nat} {w : World} {n lo G cap : Nat} {V : Nat → Value} {O : Nat → List (Option Rat)} (h : RC b w n V lo O) (hr : w.ownsRow lo 42 1 (.slice (some ⟨G, 0, none⟩) n cap) n ((List.range n).map V)) : CapsO w (some ⟨G, 0, none⟩) n := fun g o e i hi b' l d hc' => by
 simp only [Option.some.injEq, Addr.mk.injEq, and_true] at e
 obtain ⟨rfl, rfl⟩ := e
 have hc := hr.cells (g := G) rfl i (V i) (by simp [hi])
 rw [Go.WideShapes.add_plain, Nat.zero_add] at hc
 obtain ⟨E, hE, -, -⟩ := h.el i hi
 obtain ⟨a', c', e', hle⟩ := hE.form
 rw [e'] at hc
 rw [Nat.zero_add, hc] at hc'
 simp only [Option.some.injEq, Value.slice.injEq] at hc'
 obtain ⟨-, rfl, rfl⟩ := hc'
 exact hle
theorem RC.of {w : World} {v : Value} {R : List Rw} {lo n : Nat} {V : Nat → Value} {O : Nat → List (Option Rat)} (h : MR false w v R lo w.heap.size) (hn : R.length = n) (hV : ∀ j (hj : j < R.length), V j = R[j].v) (hO : ∀ j (hj : j < R.length), R[j].K = (O j).map fqo) (hf : ∀ j, j < n → ∀ o ∈ O j, fitO o) {b : Option Nat} (hbl : ∀ k, b = some k → w.heap.size ≤ k) : RC b w n V lo O := by
 subst hn
 refine ⟨fun j hj => ?_, fun i j hi' hj hij k hk hk' => ?_, hf⟩
 ·have e := h.el _ (List.getElem_mem hj)
  rw [← hO j hj, hV j hj]
  obtain ⟨E, hE, hEk⟩ := e.1.wide e.2.1 e.2.2.2
  exact ⟨E, hE, hEk, fun x hx k hk hbk => by
   have h3 := hbl k hbk
   have h4 : k < w.heap.size := hk.elim (fun e => (Ints_lt (hE.el x hx).a.ints k e).2) (fun e => (Ints_lt (hE.el x hx).d.ints k e).2)
   omega⟩
 ·rw [hV i hi'] at hk
  rw [hV j hj] at hk'
  have ei := h.el _ (List.getElem_mem hi')
  have ej := h.el _ (List.getElem_mem hj)
  obtain ⟨E1, h1, -⟩ := ei.1
  obtain ⟨E2, h2, -⟩ := ej.1
  have a1 := h1.lt k hk
  have a2 := h1.high k hk
  have b1 := h2.lt k hk'
  have b2 := h2.high k hk'
  have hp := List.pairwise_iff_getElem.1 h.ap
  rcases Nat.lt_or_gt_of_ne hij with hl | hl
  ·have := hp i j hi' hj hl; omega
  ·have := hp j i hj hi' hl; omega
structure BD (w : World) (lo G n cap : Nat) (H : List Value) (V : Nat → Value) (O : Nat → List (Option Rat)) (pv : Value) (L : List Int) : Prop where
 rc : RC pv.ownBlock w n V lo O
 row : w.ownsRow lo 42 1 (.slice (some ⟨G, 0, none⟩) n cap) n H
 pv : Ints w lo pv L
theorem BD.old {w w' : World} {lo G n cap : Nat} {H : List Value} {V : Nat → Value} {O : Nat → List (Option Rat)} {pv : Value} {L : List Int} (h : BD w lo G n cap H V O pv L) (hb : Below w.heap.size w w') : BD w' lo G n cap H V O pv L :=
 ⟨h.rc.old hb, own_block h.row fun k hk => hb.block k (h.row.lt k hk).2, Ints_old h.pv hb⟩
theorem BD.same {w : World} {lo G n cap : Nat} {H : List Value} {V : Nat → Value} {O O' : Nat → List (Option Rat)} {pv : Value} {L : List Int} (h : BD w lo G n cap H V O pv L) (e : ∀ j, j < n → O' j = O j) : BD w lo G n cap H V O' pv L := ⟨h.rc.same e, h.row, h.pv⟩
theorem BD.put {w : World} {lo G n cap : Nat} {H : List Value} {V : Nat → Value} {O : Nat → List (Option Rat)} {pv : Value} {L : List Int} (h : BD w lo G n cap H V O pv L) {i k g c : Nat} (hi : i < n) (hv : V i = .slice (some ⟨g, 0, none⟩) (O i).length c) (hk : k < (O i).length) {lo' : Nat} {s : Bool} {x y : Value} {o : Option Rat} (hr : RO false w lo' s x y o) (hl : lo ≤ lo') (hbl : ∀ k, pv.ownBlock = some k → k < lo') :
  BD (set3 w g k s x y) lo G n cap H V (fun j => if j = i then (O i).set k o else O j) pv L := by
 have hi2 := h.rc.el i hi
 rw [hv] at hi2
 obtain ⟨Ei, hEi, -, -⟩ := hi2
 exact ⟨h.rc.put hi hv hk hr hl hbl, own_keepR hEi (set3_other w g k s x y) h.row, Ints_keepR hEi (set3_other w g k s x y) h.pv⟩
theorem BD.put' {w : World} {lo G n cap : Nat} {H : List Value} {V : Nat → Value} {O O' : Nat → List (Option Rat)} {pv : Value} {L : List Int} (h : BD w lo G n cap H V O pv L) {i k g c W : Nat} (hi : i < n) {os : List (Option Rat)} (hO : O i = os) (hl : os.length = W) (hv : V i = .slice (some ⟨g, 0, none⟩) W c) (hk : k < W) {lo' : Nat} {s : Bool} {x y : Value} {o : Option Rat} (hr : RO false w lo' s x y o) (hl' : lo ≤ lo') (hbl : ∀ k, pv.ownBlock = some k → k < lo') (hO' : O' i = os.set k o) (hO2 : ∀ j, j < n → j ≠ i → O' j = O j) :
  BD (set3 w g k s x y) lo G n cap H V O' pv L := by
 subst hO
 subst hl
 refine (h.put hi hv hk hr hl' hbl).same fun j hj => ?_
 by_cases e : j = i
 ·subst e; rw [if_pos rfl]; exact hO'
 ·rw [if_neg e]; exact hO2 j hj e
theorem BD.ro {w : World} {lo G n cap : Nat} {H : List Value} {V : Nat → Value} {O : Nat → List (Option Rat)} {pv : Value} {L : List Int} (h : BD w lo G n cap H V O pv L) {i k g c m : Nat} (hi : i < n) (hv : V i = .slice (some ⟨g, 0, none⟩) m c) {s : Bool} {x y : Value} {p : Bool} {lo' : Nat} {s' : Bool} {x' y' : Value} {o : Option Rat} (hr : RO p w lo' s' x' y' o) : RO p (set3 w g k s x y) lo' s' x' y' o := by
 have hi2 := h.rc.el i hi
 rw [hv] at hi2
 obtain ⟨Ei, hEi, -, -⟩ := hi2
 exact RO.keepR hEi (set3_other w g k s x y) hr
theorem BD.hdr {w w' : World} {lo G n cap : Nat} {H H' : List Value} {V : Nat → Value} {O : Nat → List (Option Rat)} {pv : Value} {L : List Int} (h : BD w lo G n cap H V O pv L) (hs : w'.heap.size = w.heap.size) (hb : ∀ k, k ≠ G → w'.heap[k]? = w.heap[k]?) (hr : w'.ownsRow lo 42 1 (.slice (some ⟨G, 0, none⟩) n cap) n H') : BD w' lo G n cap H' V O pv L :=
 ⟨h.rc.keepG h.row hs hb, hr, Ints_keepG h.row hb h.pv⟩
theorem BD.free {w : World} {lo G n cap : Nat} {H : List Value} {V : Nat → Value} {O : Nat → List (Option Rat)} {pv : Value} {L : List Int} (h : BD w lo G n cap H V O pv L) {i g c m : Nat} (hi : i < n) (hv : V i = .slice (some ⟨g, 0, none⟩) m c) (k : Nat) : w.frozen? ⟨g, k, none⟩ = false := by
 have hi2 := h.rc.el i hi
 rw [hv] at hi2
 obtain ⟨Ei, hEi, -, -⟩ := hi2
 exact hEi.free k
theorem BD.cell {w : World} {lo G n cap : Nat} {H : List Value} {V : Nat → Value} {O : Nat → List (Option Rat)} {pv : Value} {L : List Int} (h : BD w lo G n cap H V O pv L) {i : Nat} {v : Value} (hv : H[i]? = some v) : w.cell? ⟨G, i, none⟩ = some v := by
 have hc := h.row.cells (g := G) rfl i v hv
 rwa [Go.WideShapes.add_plain, Nat.zero_add] at hc
theorem BD.grown {w w' : World} {lo G n cap : Nat} {H : List Value} {V : Nat → Value} {O : Nat → List (Option Rat)} {pv pv' : Value} {L L' : List Int} (h : BD w lo G n cap H V O pv L) (hg : w.grownBy w' pv.ownBlock) (hn : Ints w' lo pv' L') (hat : pv.ownBlock = pv'.ownBlock ∨ pv'.ownBlock = some w.heap.size) : BD w' lo G n cap H V O pv' L' := by
 refine ⟨⟨fun j hj => ?_, h.rc.ne, h.rc.ft⟩, own_block h.row fun k hk => hg.block k (h.row.lt k hk).2 fun e => own_ne h.row h.pv (by decide) k hk e.symm, hn⟩
 obtain ⟨E, hE, hEk, hav⟩ := h.rc.el j hj
 have ob : ∀ {e : El} (he : e ∈ E) {y : Value} {M : List Int}, (∀ k, y.ownBlock = some k → pv.ownBlock ≠ some k) → Obj w y M lo w.heap.size → Obj w' y M lo w'.heap.size := fun {e} he {y M} ha ho =>
  ⟨Ints_block ho.ints fun k hk => hg.block k (Ints_lt ho.ints k hk).2 fun e => ha k hk e.symm, fun k hk => Nat.lt_of_lt_of_le (ho.high k hk) hg.size⟩
 refine ⟨E, ⟨own_block hE.row fun k hk => hg.block k (hE.lt k hk).2 fun e => own_ne hE.row h.pv (by decide) k hk e.symm, fun k hk => Nat.lt_of_lt_of_le (hE.high k hk) hg.size, fun x hx => ⟨ob hx (fun k hk => hav x hx k (.inl hk)) (hE.el x hx).a, ob hx (fun k hk => hav x hx k (.inr hk)) (hE.el x hx).d⟩, hE.nd, hE.ap⟩, hEk, fun x hx k hk hbk => ?_⟩
 rcases hat with e | e
 ·exact hav x hx k hk (by rw [e]; exact hbk)
 ·rw [e] at hbk
  have h4 : k < w.heap.size := hk.elim (fun e => (Ints_lt (hE.el x hx).a.ints k e).2) (fun e => (Ints_lt (hE.el x hx).d.ints k e).2)
  have := Option.some.inj hbk
  omega
theorem below_set3 {lo g k : Nat} {w w' : World} {s : Bool} {x y : Value} (h : Below lo w w') (hg : lo ≤ g) : Below lo w (set3 w' g k s x y) := by
 unfold set3
 exact ((h.setCell (p := ⟨g, k * 3, none⟩) hg _).setCell (p := ⟨g, k * 3 + 1, none⟩) hg _).setCell (p := ⟨g, k * 3 + 2, none⟩) hg _
theorem LocA.put3 {T : TypeId} {w : World} {b g k : Nat} {cs : Array Value} {s : Bool} {x y : Value} (h : LocA T w b cs) (hb : b ≠ g) : LocA T (set3 w g k s x y) b cs := (set3_other w g k s x y b hb).trans h
end Go.Proofs.YtjjainnafihkdaaGreat
namespace Go.Proofs.YtjjainnafihkdaaGreat
open Go.RowKit
open Go.Lib (hid)
theorem matOk_rv {W : Nat} {S : List (List Rat)} (h : Rows W S) (hn : S.length ≤ 40) (hW : W ≤ 40) : matOk (S.map rv) = true := by
 have hw : ∀ k (hk : k < (S.map rv).length), ((S.map rv)[k]).length = W ∧ oks (vals (S.map rv)[k]) = true := fun k hk => by
  rw [List.length_map] at hk
  have hx := h.at hk
  rw [List.getElem_map, rv_len]
  exact ⟨hx.1, oks_rv hx.2 (by omega)⟩
 refine matOk_yes (by rw [List.length_map]; exact hn) fun k hk => ⟨?_, (hw k hk).2⟩
 rw [(hw k hk).1, matW_at (by omega), (hw 0 (by omega)).1]
theorem Sm2_rv {W : Nat} {S : List (List Rat)} (h : Rows W S) (hn : S.length ≤ 40) (hW : W ≤ 40) : Sm2 (S.map rv) := by
 refine ⟨fun K hK => ?_, by rw [List.length_map]; omega⟩
 obtain ⟨X, hX, rfl⟩ := List.mem_map.1 hK
 have hx : AF X := h.af X hX
 have hl := h.len X hX
 refine ⟨fun f hf => ?_, by rw [rv_len]; omega⟩
 obtain ⟨x, hx', rfl⟩ := List.mem_map.1 hf
 have := fqo_n (o := some x) fun y e => by cases e; exact hx x hx'
 simp only [Fq.n] at this
 omega
theorem af_some {X : List Rat} (h : AF X) : ∀ o ∈ X.map Option.some, fitO o := fun o ho => by
 obtain ⟨x, hx, rfl⟩ := List.mem_map.1 ho
 exact fun y e => by cases e; exact h x hx
theorem cap_fit (l : List Rat) : ∀ o ∈ l.map capF, fitO o := fun o ho => by
 obtain ⟨x, -, rfl⟩ := List.mem_map.1 ho
 intro y e
 unfold capF at e
 split at e
 ·cases e; assumption
 ·cases e
theorem spR_fit (P : List (Option Rat)) (f : Option Rat) (X : List Rat) : ∀ o ∈ spR P f X, fitO o := fun o ho => by
 unfold spR at ho
 obtain ⟨k, hk, rfl⟩ := List.getElem_of_mem ho
 simp only [List.getElem_zipWith]
 exact fitO_bq fitO_sub _ _
theorem stO_fit {W : Nat} {S : List (List Rat)} (h : Rows W S) (d c i : Nat) : ∀ j, ∀ o ∈ stO S d c i j, fitO o := by
 intro j
 have hS : ∀ j, ∀ o ∈ (S.getD j []).map Option.some, fitO o := fun j => by
  by_cases hj : j < S.length
  ·rw [show S.getD j [] = S[j] by simp [hj]]
   exact af_some (h.at hj).2
  ·intro o ho; simp [hj] at ho
 unfold stO
 split
 ·exact cap_fit _
 ·split
  ·split
   ·exact hS j
   ·exact spR_fit _ _ _
  ·exact hS j
theorem getD_row {S : List (List Rat)} {j : Nat} (h : j < S.length) : S.getD j [] = S[j] := by simp [h]
theorem stO_len {W : Nat} {S : List (List Rat)} (h : Rows W S) {d c i j : Nat} (hd : d < S.length) (hj : j < S.length) : (stO S d c i j).length = W := by
 have h1 := (h.at hd).1
 have h2 := (h.at hj).1
 unfold stO
 rw [getD_row hd, getD_row hj]
 split
 ·rw [List.length_map, scl_len, h1]
 ·split
  ·split
   ·rw [List.length_map, h2]
   ·rw [spR_len (by rw [List.length_map, scl_len, h1, h2]), h2]
  ·rw [List.length_map, h2]
theorem map_fqo_some (X : List Rat) : (X.map Option.some).map fqo = rv X := by
 rw [List.map_map]; rfl
theorem range_rows {n : Nat} {S : List (List Rat)} (h : S.length = n) : (List.range n).map (fun j => rv (S.getD j [])) = S.map rv := by
 subst h
 apply List.ext_getElem
 ·simp
 ·intro k h1 h2
  simp at h2
  simp [h2]
def RedS (r : Option (List (List Rat) × List Nat)) (n : Nat) (w : World) (e : Ending) (w' : World) : Prop :=
 match r with
 | none => e = .returned (.tuple #[.slice none 0 0, .slice none 0 0, .bool false]) ∧ Below w.heap.size w w'
 | some (S, ps) => ∃ a c pv, e = .returned (.tuple #[.slice a n c, pv, .bool true]) ∧ MW w' a n (S.map rv) w.heap.size w'.heap.size ∧ Ints w' w.heap.size pv (natI ps) ∧ Below w.heap.size w w' ∧ CapsO w' a n
theorem l09Reduce_any {a : Option Addr} {n c lo hi W C : Nat} {XX : List (List Rat)} (hR : Rows W XX) (hn : XX.length ≤ 40) (hW : W ≤ 40) (h0 : 0 < XX.length) (hC : C ≤ W) (w : World) (h : MW w a n (XX.map rv) lo hi) :
    Calls Tryz.prog 105 #[.slice a n c, .int .i64 (C : Int)] w (RedS (redK XX C) XX.length w) := by
  have HV := hid h
  obtain ⟨N, hN⟩ : ∃ N, XX.length = N := ⟨_, rfl⟩
  have hnum := h.num
  rw [List.length_map, hN] at hnum
  subst hnum
  rw [hN] at hn h0 ⊢
  have HN := hid hN
  have HRW := hid hR
  have HC := hid hC
  have KC := hid (l08Copy_any (c := c) (Sm2_rv hR (by rw [hN]; exact hn) hW) w h)
  obtain ⟨RS, hRS⟩ : ∃ RS, RS = redK XX C := ⟨_, rfl⟩
  rw [← hRS]
  have HRS := hid hRS
  clear h hR hN hC hRS
  go_enter Tryz.func105, Tryz.ntmps105
  go_wp2_with fail
  (with_reducible refine (KC.out).mono ?_)
  rintro e w1 ⟨a1, cap, R, rfl, hMR, hRK, hb⟩
  have hRl : R.length = n := by have := congrArg List.length hRK; rw [List.length_map, List.length_map, HN.out] at this; exact this
  rw [List.length_map, HN.out] at hMR
  rw [List.length_map, HN.out]
  obtain ⟨G, rfl, hG1, hG2⟩ : ∃ G, a1 = some ⟨G, 0, none⟩ ∧ w.heap.size ≤ G ∧ G < w1.heap.size := by
    rcases hMR.cases with ⟨-, h2⟩ | ⟨g, cp, h1, h2, h3, h4, -⟩
    · rw [h2] at hRl; simp at hRl; omega
    · simp only [Value.slice.injEq] at h1
      exact ⟨g, h1.1, h2, h4⟩
  have HGl := hid hG1
  obtain ⟨V, hV⟩ : ∃ V : Nat → Value, V = fun j => (R.map Rw.v).getD j (.slice none 0 0) := ⟨_, rfl⟩
  have hrow0 := hMR.row
  rw [hRl, show R.map Rw.v = (List.range n).map V by
    apply List.ext_getElem
    · simp [hRl]
    · intro k h1 h2
      simp at h2
      rw [List.getElem_map, List.getElem_map, List.getElem_range, hV]
      simp [hRl, h2]] at hrow0
  have hRC0 : RC (some w1.heap.size) w1 n V w.heap.size (fun j => (XX.getD j []).map Option.some) := RC.of hMR hRl (fun j hj => by rw [hV]; simp [hj]) (fun j hj => by
      have := congrArg (fun l => l[j]?) hRK
      simp only [List.getElem?_map] at this
      have hj' : j < XX.length := by rw [HN.out]; omega
      rw [List.getElem?_eq_getElem hj, List.getElem?_eq_getElem hj'] at this
      simp only [Option.map_some] at this
      rw [Option.some.inj this, getD_row hj', map_fqo_some]) (fun j hj => by rw [getD_row (by rw [HN.out]; exact hj)]; exact af_some (HRW.out.at _).2) (fun k hk => by cases hk; exact Nat.le_refl _)
  have hbA := below_new' (w := w1) (o := .cells #[] 3)
  have HP0 := hid (show Ints (w1.alloc (.cells #[] 3)) w.heap.size (.slice (some ⟨w1.heap.size, 0, none⟩) 0 0) (natI []) from Ints_lit (heap_alloc_new w1 _) hb.size)
  have HRow0 := hid (own_block hrow0 fun k hk => hbA.block k (hrow0.lt k hk).2)
  have HRC0 := hid (hRC0.old hbA)
  have HB0 := hid (hb.alloc hb.size (.cells #[] 3))
  clear hMR hRK hb hrow0 hRC0 hbA hV
  go_wp2
  generalize w1.alloc (.cells #[] 3) = w2 at HP0 HRow0 HRC0 HB0 ⊢
  have HD0 := hid (show BD w2 w.heap.size G n cap ((List.range n).map V) V (fun j => (XX.getD j []).map Option.some) (.slice (some ⟨w1.heap.size, 0, none⟩) 0 0) (natI []) from ⟨HRC0.out, HRow0.out, HP0.out⟩)
  clear HP0 HRow0 HRC0
  go_loopw [8, 9, 10] (fun pv dn t wr => ∃ (k d : Nat) (S : List (List Rat)) (ps : List Nat) (V : Nat → Value), k ≤ C ∧ t = .int .i64 k ∧ dn = .int .i64 d ∧ d ≤ n ∧ Hid (d = ps.length) ∧ Hid (redK XX k = some (S, ps)) ∧ Hid (BD wr w.heap.size G n cap ((List.range n).map V) V (fun j => (S.getD j []).map Option.some) pv (natI ps)) ∧ Below w.heap.size w wr) (fun _ _ t _ => C - (intOf t).toNat)
  case atStart => exact ⟨0, 0, XX, [], V, Nat.zero_le _, rfl, rfl, Nat.zero_le _, hid rfl, hid rfl, HD0, HB0.out⟩
  case round =>
    obtain ⟨k, d, S, ps, V, hk, rfl, rfl, hdn, hps, hS, hD, hbel⟩ := hrel
    obtain ⟨wo, rfl⟩ : ∃ wo, wo = wr := ⟨_, rfl⟩
    have HB := hid hbel
    have hz := hid hbel.size
    clear hbel
    obtain ⟨xp, yp, hpf⟩ := natI_form hD.out.pv
    rw [← hps.out] at hpf
    subst hpf
    have hinv := redK_inv HRW.out hS.out
    have HSl := hid (show S.length = n by rw [hinv.2.1, HN.out])
    have HSW := hid hinv.1
    clear hinv
    by_cases hlt : k < C
    · have hkW : k < W := by have := HC.out; omega
      have k0 : (0 : Int) ≤ k := by omega
      have k1 : (k : Int) < C := by omega
      have k2 : (k : Int) < W := by omega
      go_wp2
      go_loopw [11] (fun t wr => ∃ q : Nat, d ≤ q ∧ q ≤ n ∧ t = .int .i64 q ∧ Hid (∀ j (hj : j < S.length), d ≤ j → j < q → el S[j] k = 0) ∧ Below wo.heap.size wo wr) (fun t _ => n - (intOf t).toNat)
      case atStart => exact ⟨d, Nat.le_refl _, hdn, rfl, hid (fun j hj h1 h2 => absurd h1 (by omega)), Below.refl _ _⟩
      case round =>
        obtain ⟨q, hdq, hqn, rfl, hQ, hbi⟩ := hrel
        have HBi := hid hbi
        have HD1 := hid (hD.out.old hbi)
        have HB1 := hid (HB.out.trans (hbi.mono hz.out))
        clear hbi
        by_cases hqlt : q < n
        · have hqS : q < S.length := by rw [HSl.out]; exact hqlt
          obtain ⟨hql, hqa⟩ := HSW.out.at hqS
          have hOl : ((S.getD q []).map Option.some).length = W := by rw [getD_row hqS, List.length_map, hql]
          obtain ⟨g, cr, s3, a3, n3, c3, b3, m3, d3, E, hVq, hg0, hg, q1, q2, q3, hRO, -, -⟩ := HD1.out.rc.at hqlt (k := k) (by rw [hOl]; exact hkW)
          have hval : ((S.getD q []).map Option.some)[k]'(by rw [hOl]; exact hkW) = some (el S[q] k) := by
            simp only [getD_row hqS, List.getElem_map]
            rw [el_at (by omega)]
          simp only [hval] at hRO
          simp only [hOl] at hVq
          have q0 := HD1.out.cell (i := q) (v := V q) (by simp [hqlt])
          rw [hVq] at q0
          have HVq := hid hVq
          have hGs := (HD1.out.row.lt G rfl).2
          have KS := hid (ssign_o hRO.ra)
          have z0 : (0 : Int) ≤ q := by omega
          have z1 : (q : Int) < n := by omega
          by_cases hz0 : el S[q] k = 0
          · rw [sgn_zero hz0] at KS
            have HQ' := hid (show ∀ j (hj : j < S.length), d ≤ j → j < q + 1 → el S[j] k = 0 from fun j hj h1 h2 => by
              rcases Nat.lt_or_eq_of_le (Nat.le_of_lt_succ h2) with h | rfl
              · exact hQ.out j hj h1 h
              · exact hz0)
            clear hval hOl hql hqa hRO hVq hz0
            go_wp2_with fail
            (with_reducible refine (KS.out).mono ?_)
            rintro e w3 ⟨rfl, hb⟩
            have HBj := hid (HBi.out.trans (hb.mono HBi.out.size))
            clear hb q0 q1 q2 q3
            go_wp2
            go_roundw
            case rel => exact ⟨q + 1, by omega, by omega, by go_num, HQ', HBj.out⟩
            case measure => simp [intOf]; omega
          · obtain ⟨z, hzz⟩ : ∃ z, sgnO (some (el S[q] k)) = z := ⟨_, rfl⟩
            have hz2 : (z == 0) = false := beq_eq_false_iff_ne.2 (by rw [← hzz]; exact sgn_nz hz0)
            rw [hzz] at KS
            have hfs : fnd S d k = some q := fnd_some hdq hqS hz0 (fun j hj h1 h2 => hQ.out j hj h1 h2)
            have HYes := hid (fun (ho : finOk (mvf S d q) d k) => show redK XX (k + 1) = some (fin (mvf S d q) d k, ps ++ [k]) from by
              have := redK_fin hS.out (i := q) (by rw [← hps.out]; exact hfs) (by rw [← hps.out]; exact ho)
              rw [← hps.out] at this; exact this)
            have HNo := hid (fun (ho : ¬ finOk (mvf S d q) d k) => show RS = none from by
              have := redK_bad hS.out (i := q) (by rw [← hps.out]; exact hfs) (by rw [← hps.out]; exact ho)
              have h2 := redK_none this (C - (k + 1))
              rw [show k + 1 + (C - (k + 1)) = C by omega] at h2
              rw [HRS.out, h2])
            have hS1l : (mvf S d q).length = n := by rw [mvf_len hdq hqS, HSl.out]
            have HS1W := hid (HSW.out.mvf hdq hqS)
            have HS1g := hid (fun j (hj : j < n) => mvf_getD hdq hqS (q := j) (by rw [HSl.out]; exact hj))
            have HS1d := hid (show (mvf S d q).getD d [] = S[q] by rw [getD_row (by rw [hS1l]; omega), mvf_get hdq hqS (by omega), if_neg (by omega), if_pos rfl])
            obtain ⟨S1, hS1⟩ : ∃ S1, mvf S d q = S1 := ⟨_, rfl⟩
            simp only [hS1] at HYes HNo hS1l HS1W HS1g HS1d
            have HS1l := hid hS1l
            obtain ⟨X, hX⟩ : ∃ X, S[q] = X := ⟨_, rfl⟩
            have HX := hid (show S.getD q [] = X by rw [getD_row hqS, hX])
            simp only [hX] at HS1d hql hqa hz0 hRO
            have HXl := hid hql
            have HXa := hid hqa
            have HX0 := hid hz0
            have z2 : ((q : Int) == (n : Int)) = false := beq_eq_false_iff_ne.2 (by omega)
            have hgh := hid hg
            have hg0h := hid hg0
            clear hzz hfs hval hOl hql hqa hRO hVq hz0 hX hS1 hS1l hQ
            go_wp2_with fail
            (with_reducible refine (KS.out).mono ?_)
            rintro e w3 ⟨rfl, hb⟩
            have HD2 := hid (HD1.out.old hb)
            have HB2 := hid (HB1.out.trans (hb.mono HB1.out.size))
            have q0 := (hb.cell (p := ⟨G, q, none⟩) hGs).trans q0
            clear hb q1 q2 q3 KS hGs
            go_wp2
            clear q0
            go_loopw [13] (fun t wr => ∃ i m : Nat, d ≤ i ∧ i + m = q ∧ t = .int .i64 i ∧ Hid (BD wr w.heap.size G n cap (sft ((List.range n).map V) i m) V (fun j => (S.getD j []).map Option.some) (.slice xp d yp) (natI ps)) ∧ Hid (Below w.heap.size w wr)) (fun t _ => (intOf t).toNat)
            case atStart => exact ⟨q, 0, hdq, rfl, rfl, hid (by rw [sft_zero]; exact HD2.out), HB2⟩
            case round =>
              obtain ⟨i, m, hdi, him, rfl, hDi, hBi⟩ := hrel
              have hHl : ((List.range n).map V).length = n := by simp
              by_cases hgt : d < i
              · obtain ⟨j, hj1, hj2⟩ : ∃ j, i ≤ j + 1 ∧ j + 1 ≤ i := ⟨i - 1, by omega, by omega⟩
                have hvj : (sft ((List.range n).map V) i m)[j]? = some (V j) := by
                  rw [List.getElem?_eq_getElem (by rw [sft_len (by omega)]; omega), sft_get (by omega) (by omega), if_pos (by omega)]
                  simp
                have hvi : (sft ((List.range n).map V) i m)[i]? = some (V i) := by
                  rw [List.getElem?_eq_getElem (by rw [sft_len (by omega)]; omega), sft_get (by omega) (by omega), if_pos (Nat.le_refl _)]
                  simp
                obtain ⟨bj, cj, hVj⟩ := (hDi.out.rc.el j (by omega)).form
                obtain ⟨bi, ci, hVi⟩ := (hDi.out.rc.el i (by omega)).form
                generalize ((fun j => (S.getD j []).map Option.some) j).map fqo = lj at hVj
                generalize ((fun j => (S.getD j []).map Option.some) i).map fqo = li at hVi
                have q5 := hDi.out.cell hvj
                have q6 := hDi.out.cell hvi
                rw [hVj] at q5
                rw [hVi] at q6
                have f5 := World.ownsRow.frozenAt hDi.out.row i
                have hst := (World.ownsRow.stored hDi.out.row i (V j)).1
                rw [show (sft ((List.range n).map V) i m).set i (V j) = sft ((List.range n).map V) j (m + 1) by
                  obtain rfl : i = j + 1 := by omega
                  have := sft_step (H := (List.range n).map V) (i := j) (m := m) (by omega)
                  rw [← this]
                  congr 1
                  simp] at hst
                have HDn := hid (hDi.out.hdr (w' := wr.setCell ⟨G, i, none⟩ (V j)) (by simp [size_set]) (setCell_other wr G i _) hst)
                have HBn := hid (hBi.out.setCell (p := ⟨G, i, none⟩) HGl.out (V j))
                rw [hVj] at HDn HBn
                have hw1 : IntKind.i64.wrap ((i : Int) - 1) = (j : Int) := by have := IntWalk.i64_in ((i : Int) - 1) (by omega); rw [this]; omega
                have y0 : (0 : Int) ≤ i := by omega
                have y1 : (i : Int) < n := by omega
                have y2 : (0 : Int) ≤ j := by omega
                have y3 : (j : Int) < n := by omega
                have y4 : (d : Int) < i := by omega
                clear hvj hvi hVj hVi hst hHl
                go_wp2
                go_roundw
                case rel => exact ⟨j, m + 1, by omega, by omega, by go_num, HDn, HBn⟩
                case measure => simp [intOf]; omega
              · have y4 : ¬ (d : Int) < i := by omega
                obtain ⟨w4, rfl⟩ : ∃ w4, w4 = wr := ⟨_, rfl⟩
                obtain rfl : d = i := by omega
                have HD3 := hDi
                have hmq := hid him
                have HB3 := hBi
                obtain ⟨g', cr', s4, a4, n4, c4, b4, m4, d4, E', hVq', -, hg4, q1, q2, q3, hRO, -, -⟩ := HD3.out.rc.at hqlt (k := k) (by simp only [HX.out, List.length_map]; rw [HXl.out]; exact hkW)
                have hval : ((S.getD q []).map Option.some)[k]'(by simp only [HX.out, List.length_map]; rw [HXl.out]; exact hkW) = some (el X k) := by
                  simp only [HX.out, List.getElem_map]
                  rw [el_at (by rw [HXl.out]; exact hkW)]
                simp only [hval] at hRO
                rw [HVq.out] at hVq'
                simp only [Value.slice.injEq, Option.some.injEq, Addr.mk.injEq, and_true] at hVq'
                obtain ⟨rfl, -, rfl⟩ := hVq'
                have hzs := hid (hBi.out.size)
                have HDA := hid (HD3.out.old (below_new' (o := .cells #[.bool s4, .slice a4 n4 c4, .slice b4 m4 d4] 62)))
                have HOA := hid (hRO.old (below_new' (o := .cells #[.bool s4, .slice a4 n4 c4, .slice b4 m4 d4] 62)))
                have HLA := hid (LocA.new (T := 62) (w := w4) (cs := #[.bool s4, .slice a4 n4 c4, .slice b4 m4 d4]))
                have HBA := hid (HB3.out.alloc hzs.out (.cells #[.bool s4, .slice a4 n4 c4, .slice b4 m4 d4] 62))
                have hgB := hid (show g ≠ w4.heap.size by omega)
                clear hval hRO hg4 hDi hBi
                go_wp2
                clear q1 q2 q3
                obtain ⟨Bp, hBp⟩ : ∃ Bp, Bp = w4.heap.size := ⟨_, rfl⟩
                rw [← hBp] at HLA hgB
                generalize hw5 : w4.alloc (.cells #[.bool s4, .slice a4 n4 c4, .slice b4 m4 d4] 62) = w5 at HDA HOA HLA HBA
                (try rw [hw5])
                (try rw [← hBp])
                clear hBp hw5
                have HCf := hid (cap_fit (scl k X))
                have hlS : ((scl k X).map capF).length = W := by rw [List.length_map, scl_len, HXl.out]
                have hlX : (X.map Option.some).length = W := by rw [List.length_map, HXl.out]
                have HLS := hid hlS
                have HLX := hid hlX
                obtain ⟨SP, hSP⟩ : ∃ SP, SP = (scl k X).map capF := ⟨_, rfl⟩
                rw [← hSP] at HLS HCf
                have HSP := hid hSP
                clear hlS hlX hSP
                go_loopw [73] (fun t wr => ∃ j : Nat, j ≤ W ∧ t = .int .i64 j ∧ Hid (BD wr w.heap.size G n cap (sft ((List.range n).map V) d m) V (fun r => if r = q then mxL (X.map Option.some) SP j else (S.getD r []).map Option.some) (.slice xp d yp) (natI ps)) ∧ Hid (RO false wr w.heap.size s4 (.slice a4 n4 c4) (.slice b4 m4 d4) (some (el X k))) ∧ Hid (LocA 62 wr Bp #[.bool s4, .slice a4 n4 c4, .slice b4 m4 d4]) ∧ Hid (Below w.heap.size w wr)) (fun t _ => W - (intOf t).toNat)
                case atStart => exact ⟨0, Nat.zero_le _, rfl, hid (HDA.out.same fun r hr => by
                  by_cases e : r = q
                  · rw [if_pos e, mxL_zero, e, HX.out]
                  · rw [if_neg e]), HOA, HLA, HBA⟩
                case round =>
                  obtain ⟨j, hj, rfl, hDj, hOj, hLj, hBj⟩ := hrel
                  by_cases hjlt : j < W
                  · have hml := mxL_len HLX.out HLS.out (j := j) (by omega)
                    have hma := mxL_at HLX.out HLS.out hjlt
                    have hms := mxL_set HLX.out HLS.out hjlt
                    have hxj : (mxL (X.map Option.some) SP j)[j]'(by rw [hml]; exact hjlt) = some (X[j]'(by rw [HXl.out]; exact hjlt)) := by rw [hma]; simp
                    obtain ⟨g5, cr5, s5, a5, n5, c5, b5, m5, d5, hV5, -, hg5, x0, x1, x2, hRO5⟩ := hDj.out.rc.at' hqlt (os := mxL (X.map Option.some) SP j) (if_pos rfl) hml hjlt hxj
                    rw [HVq.out] at hV5
                    simp only [Value.slice.injEq, Option.some.injEq, Addr.mk.injEq, and_true, true_and] at hV5
                    obtain ⟨rfl, rfl⟩ := hV5
                    have hsj : SP[j]'(by rw [HLS.out]; exact hjlt) = bq divF (some (X[j]'(by rw [HXl.out]; exact hjlt))) (some (el X k)) := by
                      have e1 := List.getElem_of_eq HSP.out (i := j) (by rw [HLS.out]; exact hjlt)
                      rw [div_cap HX0.out, e1, List.getElem_map]
                      exact congrArg capF (scl_at (by rw [HXl.out]; exact hjlt))
                    rw [hsj] at hms
                    obtain ⟨xj, hxjj⟩ : ∃ xj, xj = X[j]'(by rw [HXl.out]; exact hjlt) := ⟨_, rfl⟩
                    simp only [← hxjj] at hRO5 hms
                    have HMS := hid hms
                    have hbd := hid (Below_drew1 (Below.refl wr.heap.size wr))
                    have KD := hid (sdiv_o (w := wr.drew) (hRO5.old hbd.out).ra (hOj.out.old hbd.out).ra)
                    have x0 : wr.drew.cell? ⟨g, j * 3, none⟩ = _ := x0
                    have x1 : wr.drew.cell? ⟨g, j * 3 + 1, none⟩ = _ := x1
                    have x2 : wr.drew.cell? ⟨g, j * 3 + 2, none⟩ = _ := x2
                    have hLd := hid (hLj.out.old hbd.out)
                    have y0' := hLd.out.c 0 (v := .bool s4) rfl
                    have y1' := hLd.out.c 1 (v := .slice a4 n4 c4) rfl
                    have y2' := hLd.out.c 2 (v := .slice b4 m4 d4) rfl
                    have u0 : (0 : Int) ≤ j := by omega
                    have u1 : (j : Int) < W := by omega
                    have hg5h := hid hg5
                    have hBs := hid (hBj.out.size)
                    clear hml hma hms hxj hsj hxjj hRO5 hg5
                    go_wp2_with fail
                    go_region_law (first
                      | (go_simp; go_at_call 78; (with_reducible refine (KD.out).mono ?_); rintro e w6 ⟨s6, a6, n6, c6, b6, m6, d6, rfl, hr, hb⟩
                         have hbe := hid (hbd.out.trans (hb.mono hbd.out.size))
                         have HDe := hid (hDj.out.old hbe.out)
                         have f0 := HDe.out.free hqlt HVq.out (j * 3)
                         have f1 := HDe.out.free hqlt HVq.out (j * 3 + 1)
                         have f2 := HDe.out.free hqlt HVq.out (j * 3 + 2)
                         have x0 := (hb.cell (p := ⟨g, j * 3, none⟩) hg5h.out).trans x0
                         have x1 := (hb.cell (p := ⟨g, j * 3 + 1, none⟩) hg5h.out).trans x1
                         have x2 := (hb.cell (p := ⟨g, j * 3 + 2, none⟩) hg5h.out).trans x2
                         have HP := hid (HDe.out.put' (O' := fun r => if r = q then mxL (X.map Option.some) SP (j + 1) else (S.getD r []).map Option.some) hqlt (os := mxL (X.map Option.some) SP j) (k := j) (if_pos rfl) (mxL_len HLX.out HLS.out (by omega)) HVq.out hjlt hr (show w.heap.size ≤ wr.drew.heap.size from hBs.out) (fun k' hk' => (Ints_lt hDj.out.pv k' hk').2) (by rw [if_pos rfl]; exact HMS.out.symm) (fun r hr' hne => by rw [if_neg hne, if_neg hne]))
                         have HO6 := hid (HDe.out.ro hqlt HVq.out (k := j) (s := s6) (x := .slice a6 n6 c6) (y := .slice b6 m6 d6) (hOj.out.old hbe.out))
                         have HL6 := hid ((hLj.out.old hbe.out).put3 (k := j) (s := s6) (x := .slice a6 n6 c6) (y := .slice b6 m6 d6) (Ne.symm hgB.out))
                         have HB6 := hid (below_set3 (k := j) (s := s6) (x := .slice a6 n6 c6) (y := .slice b6 m6 d6) (hBj.out.trans (hbe.out.mono hBs.out)) hg0h.out)
                         unfold set3 at HP HO6 HL6 HB6
                         clear hr hb))
                    all_goals
                      go_wp2
                      go_roundw
                      case rel => exact ⟨j + 1, by omega, by go_num, HP, HO6, HL6, HB6⟩
                      case measure => simp [intOf]; omega
                  · have u1 : ¬ (j : Int) < W := by omega
                    obtain ⟨w7, rfl⟩ : ∃ w7, w7 = wr := ⟨_, rfl⟩
                    have hjW : j = W := by omega
                    have HD7 := hid (show BD w7 w.heap.size G n cap (sft ((List.range n).map V) d m) V (fun r => if r = q then SP else (S.getD r []).map Option.some) (.slice xp d yp) (natI ps) from hDj.out.same fun r hr => by
                      by_cases e : r = q
                      · rw [if_pos e, if_pos e, hjW, mxL_all HLX.out HLS.out]
                      · rw [if_neg e, if_neg e])
                    have hHl : ((List.range n).map V).length = n := by simp
                    have hmq' := hmq.out
                    have f7 := World.ownsRow.frozenAt HD7.out.row d
                    obtain ⟨vo, q7⟩ : ∃ vo, w7.cell? ⟨G, d, none⟩ = some vo := ⟨_, HD7.out.cell (List.getElem?_eq_getElem (by rw [sft_len (by omega)]; omega))⟩
                    have hst := (World.ownsRow.stored HD7.out.row d (V q)).1
                    rw [show (sft ((List.range n).map V) d m).set d (V q) = (List.range n).map (fun r => V (mvfI d q r)) by
                      have := sft_set (H := (List.range n).map V) (d := d) (i := m) (by omega)
                      rw [← mvf_range hdq hqlt V, show q = d + m by omega, ← this]
                      congr 1
                      simp] at hst
                    have hD8 := HD7.out.hdr (w' := w7.setCell ⟨G, d, none⟩ (V q)) (by simp [size_set]) (setCell_other w7 G d _) hst
                    obtain ⟨V1, hV1⟩ : ∃ V1 : Nat → Value, V1 = fun r => V (mvfI d q r) := ⟨_, rfl⟩
                    have HV1d := hid (show V1 d = .slice (some ⟨g, 0, none⟩) W cr by rw [hV1]; show V (mvfI d q d) = _; rw [show mvfI d q d = q by unfold mvfI; rw [if_neg (Nat.lt_irrefl d), if_pos rfl]]; exact HVq.out)
                    have HD8 := hid (show BD (w7.setCell ⟨G, d, none⟩ (V q)) w.heap.size G n cap ((List.range n).map V1) V1 (stO S1 d k 0) (.slice xp d yp) (natI ps) from
                      ⟨by
                        rw [hV1]
                        refine (hD8.rc.perm (f := mvfI d q) (fun j hj => mvfI_lt hdq hqlt hj) (fun i j _ _ hne => mvfI_inj hdq hne)).same fun r hr => ?_
                        by_cases e : r = d
                        · have e2 : mvfI d q r = q := by rw [e]; unfold mvfI; rw [if_neg (Nat.lt_irrefl d), if_pos rfl]
                          unfold stO
                          rw [if_pos e, if_pos e2, HSP.out, HS1d.out]
                        · have e2 : mvfI d q r ≠ q := by
                            have h3 := mvfI_inj hdq e (a := q)
                            rw [show mvfI d q d = q by unfold mvfI; rw [if_neg (Nat.lt_irrefl d), if_pos rfl]] at h3
                            exact h3
                          unfold stO
                          rw [if_neg e, if_neg e2, if_neg (Nat.not_lt_zero r), HS1g.out r hr], by rw [hV1]; exact hD8.row, hD8.pv⟩)
                    have HB8 := hid (hBj.out.setCell (p := ⟨G, d, none⟩) HGl.out (V q))
                    rw [HVq.out] at HD8 HB8
                    have u2 : (0 : Int) ≤ d := by omega
                    have u3 : (d : Int) < n := by omega
                    clear hjW hHl hmq' hst hD8 hV1 hDj hOj hLj hBj
                    go_wp2
                    clear f7 q7
                    generalize w7.setCell ⟨G, d, none⟩ (.slice (some ⟨g, 0, none⟩) W cr) = w8 at HD8 HB8 ⊢
                    go_loopw [92] (fun t wr => ∃ i : Nat, i ≤ n ∧ t = .int .i64 i ∧ Hid (BD wr w.heap.size G n cap ((List.range n).map V1) V1 (stO S1 d k i) (.slice xp d yp) (natI ps)) ∧ Hid (Below w.heap.size w wr)) (fun t _ => n - (intOf t).toNat)
                    case atStart => exact ⟨0, Nat.zero_le _, rfl, HD8, HB8⟩
                    case round =>
                      obtain ⟨i, hi, rfl, hDi, hBi⟩ := hrel
                      obtain ⟨wi, rfl⟩ : ∃ wi, wi = wr := ⟨_, rfl⟩
                      by_cases hilt : i < n
                      · have hdS : d < S1.length := by rw [HS1l.out]; omega
                        have hiS : i < S1.length := by rw [HS1l.out]; exact hilt
                        have hil := stO_len (d := d) (c := k) (i := i) HS1W.out hdS hiS
                        obtain ⟨o, ho⟩ : ∃ o, (stO S1 d k i i)[k]'(by rw [hil]; exact hkW) = o := ⟨_, rfl⟩
                        obtain ⟨gi, ci, si, ai, ni, ki, bi, mi, di, hVi, hgi0, hgi, q1, q2, q3, hROi⟩ := hDi.out.rc.at' hilt rfl hil hkW ho
                        have q0 := hDi.out.cell (i := i) (v := V1 i) (by simp [hilt])
                        rw [hVi] at q0
                        have HVi := hid hVi
                        have hzi := hid hBi.out.size
                        have HDA := hid (hDi.out.old (below_new' (o := .cells #[.bool si, .slice ai ni ki, .slice bi mi di] 62)))
                        have HOA := hid (hROi.old (below_new' (o := .cells #[.bool si, .slice ai ni ki, .slice bi mi di] 62)))
                        have HLA := hid (LocA.new (T := 62) (w := wi) (cs := #[.bool si, .slice ai ni ki, .slice bi mi di]))
                        have HBA := hid (hBi.out.alloc hzi.out (.cells #[.bool si, .slice ai ni ki, .slice bi mi di] 62))
                        have u4 : (0 : Int) ≤ i := by omega
                        have u5 : (i : Int) < n := by omega
                        by_cases hie : i = d
                        · have u6 : ((i : Int) == (d : Int)) = true := by rw [hie]; simp
                          have HDn := hid (HDA.out.same (O' := stO S1 d k (i + 1)) fun r hr => by
                            unfold stO
                            by_cases e : r = d
                            · rw [if_pos e, if_pos e]
                            · rw [if_neg e, if_neg e]
                              by_cases e2 : r < i
                              · rw [if_pos e2, if_pos (by omega)]
                              · rw [if_neg e2, if_neg (by omega)])
                          clear ho hVi hROi hie
                          go_wp2
                          go_roundw
                          case rel => exact ⟨i + 1, by omega, by go_num, HDn, HBA⟩
                          case measure => simp [intOf]; omega
                        · have u6 : ((i : Int) == (d : Int)) = false := beq_eq_false_iff_ne.2 (by omega)
                          have hst0 : stO S1 d k i i = (S1.getD i []).map Option.some := by unfold stO; rw [if_neg hie, if_neg (Nat.lt_irrefl i)]
                          have hSi := HS1W.out.at hiS
                          obtain ⟨Y, hY⟩ : ∃ Y, S1.getD i [] = Y := ⟨_, rfl⟩
                          have hYe : S1[i] = Y := by rw [← getD_row hiS, hY]
                          rw [hYe] at hSi
                          have hoY : o = some (el Y k) := by
                            rw [← ho]
                            have e1 := List.getElem_of_eq hst0 (i := k) (by rw [hil]; exact hkW)
                            rw [e1, List.getElem_map]
                            simp only [hY]
                            rw [el_at (by rw [hSi.1]; exact hkW)]
                          subst hoY
                          have HY := hid hY
                          have HYl := hid hSi.1
                          have HYa := hid hSi.2
                          have KS := hid (ssign_o HOA.out.ra)
                          have hnew := hid (show ∀ (Z : List (Option Rat)), (if el Y k = 0 then Y.map Option.some else spR SP (some (el Y k)) Y) = Z → ∀ r, r < n → stO S1 d k (i + 1) r = if r = i then Z else stO S1 d k i r from fun Z hZ r hr => by
                            by_cases e : r = i
                            · rw [if_pos e]
                              unfold stO
                              rw [e, if_neg hie, if_pos (Nat.lt_succ_self i), HY.out, HS1d.out, ← HSP.out]
                              exact hZ
                            · rw [if_neg e]
                              unfold stO
                              by_cases e2 : r = d
                              · rw [if_pos e2, if_pos e2]
                              · rw [if_neg e2, if_neg e2]
                                by_cases e3 : r < i
                                · rw [if_pos e3, if_pos (by omega)]
                                · rw [if_neg e3, if_neg (by omega)])
                          have HST0 := hid (show stO S1 d k i i = Y.map Option.some by rw [hst0, hY])
                          have HIE := hid hie
                          by_cases hz0 : el Y k = 0
                          · rw [sgn_zero hz0] at KS
                            have HN0 := hid (hnew.out _ (if_pos hz0))
                            clear ho hVi hROi hst0 hSi hY hYe hie hz0
                            go_wp2_with fail
                            (with_reducible refine (KS.out).mono ?_)
                            rintro e w9 ⟨rfl, hb⟩
                            have HDn := hid ((HDA.out.old hb).same (O' := stO S1 d k (i + 1)) fun r hr => by
                              rw [HN0.out r hr]
                              by_cases e : r = i
                              · rw [if_pos e, e, HST0.out]
                              · rw [if_neg e])
                            have HBn := hid (HBA.out.trans (hb.mono HBA.out.size))
                            clear hb q0 q1 q2 q3
                            go_wp2
                            go_roundw
                            case rel => exact ⟨i + 1, by omega, by go_num, HDn, HBn⟩
                            case measure => simp [intOf]; omega
                          · obtain ⟨z, hzz⟩ : ∃ z, sgnO (some (el Y k)) = z := ⟨_, rfl⟩
                            have hz2 : (z == 0) = false := beq_eq_false_iff_ne.2 (by rw [← hzz]; exact sgn_nz hz0)
                            rw [hzz] at KS
                            have HN1 := hid (hnew.out _ (if_neg hz0))
                            have hLY : (Y.map Option.some).length = W := by rw [List.length_map, HYl.out]
                            have hLT : (spR SP (some (el Y k)) Y).length = W := by rw [spR_len (by rw [HLS.out, HYl.out]), HYl.out]
                            have HLY := hid hLY
                            have HLT := hid hLT
                            have HTa := hid (fun j (hj : j < W) => show (spR SP (some (el Y k)) Y)[j]? = some (bq subF (some (Y[j]'(by rw [HYl.out]; exact hj))) (bq mulF (some (el Y k)) (SP[j]'(by rw [HLS.out]; exact hj)))) from by rw [List.getElem?_eq_getElem (by rw [hLT]; exact hj), spR_at (by rw [HYl.out]; exact hj) (by rw [HLS.out, HYl.out])])
                            obtain ⟨TT, hTT⟩ : ∃ TT, TT = spR SP (some (el Y k)) Y := ⟨_, rfl⟩
                            simp only [← hTT] at HN1 HLT HTa
                            obtain ⟨Bf, hBf⟩ : ∃ Bf, Bf = wi.heap.size := ⟨_, rfl⟩
                            have hgiB := hid (show gi ≠ Bf by omega)
                            have hgi0h := hid hgi0
                            rw [← hBf] at HLA
                            have HSPd := hid (show stO S1 d k i d = SP by unfold stO; rw [if_pos rfl, HS1d.out, HSP.out])
                            clear ho hVi hROi hst0 hSi hY hYe hie hz0 hzz hLY hLT hTT hnew
                            go_wp2_with fail
                            (with_reducible refine (KS.out).mono ?_)
                            rintro e w9 ⟨rfl, hb⟩
                            have HD9 := hid (HDA.out.old hb)
                            have HO9 := hid (HOA.out.old hb)
                            have HL9 := hid (HLA.out.old hb)
                            have HB9 := hid (HBA.out.trans (hb.mono HBA.out.size))
                            clear hb q0 q1 q2 q3
                            go_wp2
                            (try rw [← hBf])
                            clear hBf
                            go_loopw [112] (fun t wr => ∃ j : Nat, j ≤ W ∧ t = .int .i64 j ∧ Hid (BD wr w.heap.size G n cap ((List.range n).map V1) V1 (fun r => if r = i then mxL (Y.map Option.some) TT j else stO S1 d k i r) (.slice xp d yp) (natI ps)) ∧ Hid (RO false wr w.heap.size si (.slice ai ni ki) (.slice bi mi di) (some (el Y k))) ∧ Hid (LocA 62 wr Bf #[.bool si, .slice ai ni ki, .slice bi mi di]) ∧ Hid (Below w.heap.size w wr)) (fun t _ => W - (intOf t).toNat)
                            case atStart => exact ⟨0, Nat.zero_le _, rfl, hid (HD9.out.same fun r hr => by
                              by_cases e : r = i
                              · rw [if_pos e, mxL_zero, e, HST0.out]
                              · rw [if_neg e]), HO9, HL9, HB9⟩
                            case round =>
                              obtain ⟨j, hj, rfl, hDj, hOj, hLj, hBj⟩ := hrel
                              by_cases hjlt : j < W
                              · have hml := mxL_len HLY.out HLT.out (j := j) (by omega)
                                have hma := mxL_at HLY.out HLT.out hjlt
                                have hms := mxL_set HLY.out HLT.out hjlt
                                have hxj : (mxL (Y.map Option.some) TT j)[j]'(by rw [hml]; exact hjlt) = some (Y[j]'(by rw [HYl.out]; exact hjlt)) := by rw [hma]; simp
                                obtain ⟨g5, cr5, s5, a5, n5, c5, b5, m5, d5, hV5, -, hg5, x0, x1, x2, hRO5⟩ := hDj.out.rc.at' hilt (os := mxL (Y.map Option.some) TT j) (if_pos rfl) hml hjlt hxj
                                rw [HVi.out] at hV5
                                simp only [Value.slice.injEq, Option.some.injEq, Addr.mk.injEq, and_true, true_and] at hV5
                                obtain ⟨rfl, rfl⟩ := hV5
                                obtain ⟨po, hpo⟩ : ∃ po, SP[j]'(by rw [HLS.out]; exact hjlt) = po := ⟨_, rfl⟩
                                obtain ⟨g6, cr6, s6, a6, n6, c6, b6, m6, d6, hV6, -, hg6, v0, v1, v2, hRO6⟩ := hDj.out.rc.at' (j := d) (by omega) (os := SP) (by show (if d = i then _ else _) = _; rw [if_neg (fun e => HIE.out e.symm)]; exact HSPd.out) HLS.out hjlt hpo
                                rw [HV1d.out] at hV6
                                simp only [Value.slice.injEq, Option.some.injEq, Addr.mk.injEq, and_true, true_and] at hV6
                                obtain ⟨rfl, rfl⟩ := hV6
                                have hTj := HTa.out j hjlt
                                rw [List.getElem?_eq_getElem (by rw [HLT.out]; exact hjlt)] at hTj
                                rw [Option.some.inj hTj, hpo] at hms
                                clear hTj
                                obtain ⟨xj, hxjj⟩ : ∃ xj, xj = Y[j]'(by rw [HYl.out]; exact hjlt) := ⟨_, rfl⟩
                                simp only [← hxjj] at hRO5 hms
                                have HMS := hid hms
                                have hbd := hid (Below_drew1 (Below.refl wr.heap.size wr))
                                have KM := hid (smul_o (w := wr.drew) (hOj.out.old hbd.out).ra (hRO6.old hbd.out).ra)
                                have HX5 := hid hRO5
                                have q0 : wr.drew.cell? ⟨G, i, none⟩ = some (.slice (some ⟨gi, 0, none⟩) W ci) := hDj.out.cell (i := i) (by simp [hilt, HVi.out])
                                have x0 : wr.drew.cell? ⟨gi, j * 3, none⟩ = _ := x0
                                have x1 : wr.drew.cell? ⟨gi, j * 3 + 1, none⟩ = _ := x1
                                have x2 : wr.drew.cell? ⟨gi, j * 3 + 2, none⟩ = _ := x2
                                have v0 : wr.drew.cell? ⟨g, j * 3, none⟩ = _ := v0
                                have v1 : wr.drew.cell? ⟨g, j * 3 + 1, none⟩ = _ := v1
                                have v2 : wr.drew.cell? ⟨g, j * 3 + 2, none⟩ = _ := v2
                                have hLd := hid (hLj.out.old hbd.out)
                                have y0' := hLd.out.c 0 (v := .bool si) rfl
                                have y1' := hLd.out.c 1 (v := .slice ai ni ki) rfl
                                have y2' := hLd.out.c 2 (v := .slice bi mi di) rfl
                                have t0 : (0 : Int) ≤ j := by omega
                                have t1 : (j : Int) < W := by omega
                                have hg5h := hid hg5
                                have hGh := hid (show G < wr.heap.size from (hDj.out.row.lt G rfl).2)
                                have hBs := hid (hBj.out.size)
                                have hg6h := hid hg6
                                have hggi := hid (show g ≠ gi from fun e => hDj.out.rc.ne d i (by omega) hilt (fun e => HIE.out e.symm) g (by rw [HV1d.out]; rfl) (by rw [HVi.out, e]; rfl))
                                clear hml hma hms hxj hpo hxjj hRO5 hRO6 hg5 hg6
                                go_wp2_with fail
                                refine wp_region_held_drew (S := (fun w' => w'.cell? ⟨G, i, none⟩ = some (.slice (some ⟨gi, 0, none⟩) W ci) ∧ w'.cell? ⟨Bf, 0, none⟩ = some (.bool si) ∧ w'.cell? ⟨Bf, 1, none⟩ = some (.slice ai ni ki) ∧ w'.cell? ⟨Bf, 2, none⟩ = some (.slice bi mi di) ∧ w'.cell? ⟨g, j * 3, none⟩ = some (.bool s6) ∧ w'.cell? ⟨g, j * 3 + 1, none⟩ = some (.slice a6 n6 c6) ∧ w'.cell? ⟨g, j * 3 + 2, none⟩ = some (.slice b6 m6 d6))) (by kernel_rfl) (by first | (with_reducible exact ⟨q0, y0', y1', y2', v0, v1, v2⟩) | ((try dsimp only); with_reducible exact ⟨q0, y0', y1', y2', v0, v1, v2⟩)) (fun hHeld => ?_)
                                refine tk (i := 0) (v := ?_) rfl (by kernel_rfl) (fun _ _ _ h => h) (Or.inl ⟨by rfl, ?_⟩) (by assumption) ?_
                                rotate_left
                                · (intro w hSw; (try dsimp only at hSw); go_simp; try (with_reducible rfl))
                                try simp only [Act.put, ka1, ka2, ka3, ka4, ka5]
                                refine tk (i := 1) (v := ?_) rfl (by kernel_rfl) (fun _ _ _ h => h) (Or.inl ⟨by rfl, ?_⟩) (by assumption) ?_
                                rotate_left
                                · (intro w hSw; (try dsimp only at hSw); go_simp; try (with_reducible rfl))
                                try simp only [Act.put, ka1, ka2, ka3, ka4, ka5, ka6]
                                refine tk (i := 2) (v := ?_) rfl (by kernel_rfl) (fun _ _ _ h => h) (Or.inl ⟨by rfl, ?_⟩) (by assumption) ?_
                                rotate_left
                                · (intro w hSw; (try dsimp only at hSw); go_simp; try (with_reducible rfl))
                                try simp only [Act.put, ka1, ka2, ka3, ka4, ka5, ka6]
                                refine tk (i := 3) (v := ?_) rfl (by kernel_rfl) (fun _ _ _ h => h) (Or.inl ⟨by rfl, ?_⟩) (by assumption) ?_
                                rotate_left
                                · (intro w hSw; (try dsimp only at hSw); go_simp; try (with_reducible rfl))
                                try simp only [Act.put, ka1, ka2, ka3, ka4, ka5, ka6]
                                refine tk (i := 4) (v := ?_) rfl (by kernel_rfl) (fun _ _ _ h => h) (Or.inl ⟨by rfl, ?_⟩) (by assumption) ?_
                                rotate_left
                                · (intro w hSw; (try dsimp only at hSw); go_simp; try (with_reducible rfl))
                                try simp only [Act.put, ka1, ka2, ka3, ka4, ka5, ka6]
                                refine tk (i := 5) (v := ?_) rfl (by kernel_rfl) (fun _ _ _ h => h) (Or.inl ⟨by rfl, ?_⟩) (by assumption) ?_
                                rotate_left
                                · (intro w hSw; (try dsimp only at hSw); go_simp; try (with_reducible rfl))
                                try simp only [Act.put, ka1, ka2, ka3, ka4, ka5, ka6]
                                refine tk (i := 6) (v := ?_) rfl (by kernel_rfl) (fun _ _ _ h => h) (Or.inl ⟨by rfl, ?_⟩) (by assumption) ?_
                                rotate_left
                                · (intro w hSw; (try dsimp only at hSw); go_simp; try (with_reducible rfl))
                                try simp only [Act.put, ka1, ka2, ka3, ka4, ka5, ka6]
                                refine tk (i := 7) (v := ?_) rfl (by kernel_rfl) (fun _ _ _ h => h) (Or.inl ⟨by rfl, ?_⟩) (by assumption) ?_
                                rotate_left
                                · (intro w hSw; (try dsimp only at hSw); go_simp; try (with_reducible rfl))
                                try simp only [Act.put, ka1, ka2, ka3, ka4, ka5, ka6]
                                refine tk (i := 8) (v := ?_) rfl (by kernel_rfl) (fun _ _ _ h => h) (Or.inl ⟨by rfl, ?_⟩) (by assumption) ?_
                                rotate_left
                                · (intro w hSw; (try dsimp only at hSw); go_simp; try (with_reducible rfl))
                                try simp only [Act.put, ka1, ka2, ka3, ka4, ka5, ka6]
                                refine tk (i := 9) (v := ?_) rfl (by kernel_rfl) (fun _ _ _ h => h) (Or.inl ⟨by rfl, ?_⟩) (by assumption) ?_
                                rotate_left
                                · (intro w hSw; (try dsimp only at hSw); go_simp; try (with_reducible rfl))
                                try simp only [Act.put, ka1, ka2, ka3, ka4, ka5, ka6]
                                refine tk (i := 10) (v := ?_) rfl (by kernel_rfl) (fun _ _ _ h => h) (Or.inl ⟨by rfl, ?_⟩) (by assumption) ?_
                                rotate_left
                                · (intro w hSw; (try dsimp only at hSw); go_simp; try (with_reducible rfl))
                                try simp only [Act.put, ka1, ka2, ka3, ka4, ka5, ka6]
                                refine tk (i := 12) (v := ?_) rfl (by kernel_rfl) (fun _ _ _ h => h) (Or.inl ⟨by rfl, ?_⟩) (by assumption) ?_
                                rotate_left
                                · (intro w hSw; (try dsimp only at hSw); go_simp; try (with_reducible rfl))
                                try simp only [Act.put, ka1, ka2, ka3, ka4, ka5, ka6]
                                refine tk (i := 13) (v := ?_) rfl (by kernel_rfl) (fun _ _ _ h => h) (Or.inl ⟨by rfl, ?_⟩) (by assumption) ?_
                                rotate_left
                                · (intro w hSw; (try dsimp only at hSw); go_simp; try (with_reducible rfl))
                                try simp only [Act.put, ka1, ka2, ka3, ka4, ka5, ka6]
                                refine tk (i := 14) (v := ?_) rfl (by kernel_rfl) (fun _ _ _ h => h) (Or.inl ⟨by rfl, ?_⟩) (by assumption) ?_
                                rotate_left
                                · (intro w hSw; (try dsimp only at hSw); go_simp; try (with_reducible rfl))
                                try simp only [Act.put, ka1, ka2, ka3, ka4, ka5, ka6]
                                refine tk (i := 15) (v := ?_) rfl (by kernel_rfl) (fun _ _ _ h => h) (Or.inl ⟨by rfl, ?_⟩) (by assumption) ?_
                                rotate_left
                                · (intro w hSw; (try dsimp only at hSw); go_simp; try (with_reducible rfl))
                                try simp only [Act.put, ka1, ka2, ka3, ka4, ka5, ka6]
                                refine tk (i := 16) (v := ?_) rfl (by kernel_rfl) (fun _ _ _ h => h) (Or.inl ⟨by rfl, ?_⟩) (by assumption) ?_
                                rotate_left
                                · (intro w hSw; (try dsimp only at hSw); go_simp; try (with_reducible rfl))
                                try simp only [Act.put, ka1, ka2, ka3, ka4, ka5, ka6]
                                refine wpAnyH_ready (rs := [11, 17]) (by kernel_rfl) (by simp) ?_
                                refine AllReadyH.cons (o := _) rfl (fun K hK => ?_) (AllReadyH.cons (o := _) rfl (fun K hK => ?_) AllReadyH.nil)
                                · skip
                                  go_simp
                                  refine hK.out _ _ ?_ (fun hHeld => ?_)
                                  · first | (with_reducible exact ⟨q0, y0', y1', y2', v0, v1, v2⟩) | ((try dsimp only); with_reducible exact ⟨q0, y0', y1', y2', v0, v1, v2⟩)
                                  try simp only [Act.put, ka1, ka2, ka3, ka4, ka5, ka6]
                                  refine wpAnyH_ready (rs := [17]) (by kernel_rfl) (by simp) ?_
                                  refine AllReadyH.cons (o := _) rfl (fun K hK => ?_) AllReadyH.nil
                                  go_simp
                                  (with_reducible refine (KM.out).mono ?_)
                                  rintro e w10 ⟨s7, a7, n7, c7, b7, m7, d7, rfl, hr, hb⟩
                                  have hbe := hid (hbd.out.trans (hb.mono hbd.out.size))
                                  have KU := hid (ssub_o (w := w10) (HX5.out.old hbe.out).ra hr.ra)
                                  have q0 := (hb.cell (p := ⟨G, i, none⟩) hGh.out).trans q0
                                  have x0 := (hb.cell (p := ⟨gi, j * 3, none⟩) hg5h.out).trans x0
                                  have x1 := (hb.cell (p := ⟨gi, j * 3 + 1, none⟩) hg5h.out).trans x1
                                  have x2 := (hb.cell (p := ⟨gi, j * 3 + 2, none⟩) hg5h.out).trans x2
                                  have v0 := (hb.cell (p := ⟨g, j * 3, none⟩) hg6h.out).trans v0
                                  have v1 := (hb.cell (p := ⟨g, j * 3 + 1, none⟩) hg6h.out).trans v1
                                  have v2 := (hb.cell (p := ⟨g, j * 3 + 2, none⟩) hg6h.out).trans v2
                                  have hL10 := hid (hLd.out.old hb)
                                  have y0' := hL10.out.c 0 (v := .bool si) rfl
                                  have y1' := hL10.out.c 1 (v := .slice ai ni ki) rfl
                                  have y2' := hL10.out.c 2 (v := .slice bi mi di) rfl
                                  have hz10 := hid hbe.out.size
                                  clear hr hb
                                  go_wp2_with fail
                                  refine hK.out _ _ ?_ (fun hHeld => ?_)
                                  · first | (with_reducible exact ⟨q0, y0', y1', y2', v0, v1, v2⟩) | ((try dsimp only); with_reducible exact ⟨q0, y0', y1', y2', v0, v1, v2⟩)
                                  refine wpAnyH_ready (rs := [18]) (by kernel_rfl) (by simp) ?_
                                  refine AllReadyH.cons (o := _) rfl (fun K hK => ?_) AllReadyH.nil
                                  go_simp
                                  (with_reducible refine (KU.out).mono ?_)
                                  rintro e w11 ⟨s8, a8, n8, c8, b8, m8, d8, rfl, hr, hb⟩
                                  have hbf := hid (hbe.out.trans (hb.mono hbe.out.size))
                                  have HDe := hid (hDj.out.old hbf.out)
                                  have q0 := (hb.cell (p := ⟨G, i, none⟩) (Nat.lt_of_lt_of_le hGh.out hz10.out)).trans q0
                                  have x0 := (hb.cell (p := ⟨gi, j * 3, none⟩) (Nat.lt_of_lt_of_le hg5h.out hz10.out)).trans x0
                                  have x1 := (hb.cell (p := ⟨gi, j * 3 + 1, none⟩) (Nat.lt_of_lt_of_le hg5h.out hz10.out)).trans x1
                                  have x2 := (hb.cell (p := ⟨gi, j * 3 + 2, none⟩) (Nat.lt_of_lt_of_le hg5h.out hz10.out)).trans x2
                                  have v0 := (hb.cell (p := ⟨g, j * 3, none⟩) (Nat.lt_of_lt_of_le hg6h.out hz10.out)).trans v0
                                  have v1 := (hb.cell (p := ⟨g, j * 3 + 1, none⟩) (Nat.lt_of_lt_of_le hg6h.out hz10.out)).trans v1
                                  have v2 := (hb.cell (p := ⟨g, j * 3 + 2, none⟩) (Nat.lt_of_lt_of_le hg6h.out hz10.out)).trans v2
                                  have hL11 := hid (hL10.out.old hb)
                                  have y0' := hL11.out.c 0 (v := .bool si) rfl
                                  have y1' := hL11.out.c 1 (v := .slice ai ni ki) rfl
                                  have y2' := hL11.out.c 2 (v := .slice bi mi di) rfl
                                  have f0 := HDe.out.free hilt HVi.out (j * 3)
                                  have f1 := HDe.out.free hilt HVi.out (j * 3 + 1)
                                  have f2 := HDe.out.free hilt HVi.out (j * 3 + 2)
                                  have HP := hid (HDe.out.put' (O' := fun r => if r = i then mxL (Y.map Option.some) TT (j + 1) else stO S1 d k i r) hilt (os := mxL (Y.map Option.some) TT j) (k := j) (if_pos rfl) (mxL_len HLY.out HLT.out (by omega)) HVi.out hjlt hr (Nat.le_trans hBs.out hz10.out) (fun k' hk' => Nat.lt_of_lt_of_le (Ints_lt hDj.out.pv k' hk').2 hz10.out) (by rw [if_pos rfl]; exact HMS.out.symm) (fun r hr' hne => by rw [if_neg hne, if_neg hne]))
                                  have HO6 := hid (HDe.out.ro hilt HVi.out (k := j) (s := s8) (x := .slice a8 n8 c8) (y := .slice b8 m8 d8) (hOj.out.old hbf.out))
                                  have HL6 := hid ((hLj.out.old hbf.out).put3 (k := j) (s := s8) (x := .slice a8 n8 c8) (y := .slice b8 m8 d8) (Ne.symm hgiB.out))
                                  have HB6 := hid (below_set3 (k := j) (s := s8) (x := .slice a8 n8 c8) (y := .slice b8 m8 d8) (hBj.out.trans (hbf.out.mono hBs.out)) hgi0h.out)
                                  have V0 := hid ((World.cell?_of_block (a := ⟨g, j * 3, none⟩) (set3_other w11 gi j s8 (.slice a8 n8 c8) (.slice b8 m8 d8) g hggi.out)).trans v0)
                                  have V1' := hid ((World.cell?_of_block (a := ⟨g, j * 3 + 1, none⟩) (set3_other w11 gi j s8 (.slice a8 n8 c8) (.slice b8 m8 d8) g hggi.out)).trans v1)
                                  have V2 := hid ((World.cell?_of_block (a := ⟨g, j * 3 + 2, none⟩) (set3_other w11 gi j s8 (.slice a8 n8 c8) (.slice b8 m8 d8) g hggi.out)).trans v2)
                                  unfold set3 at HP HO6 HL6 HB6 V0 V1' V2
                                  clear hr hb
                                  go_wp2_with fail
                                  refine hK.out _ _ ?_ (fun hHeld => ?_)
                                  · first | (with_reducible exact ⟨q0, y0', y1', y2', v0, v1, v2⟩) | ((try dsimp only); with_reducible exact ⟨q0, y0', y1', y2', v0, v1, v2⟩)
                                  refine tk (i := 19) (v := ?_) rfl (by kernel_rfl) (fun _ _ _ h => h) (Or.inl ⟨by rfl, ?_⟩) (by assumption) ?_
                                  rotate_left
                                  · (intro w hSw; (try dsimp only at hSw); go_simp; try (with_reducible rfl))
                                  try simp only [Act.put, ka1, ka2, ka3, ka4, ka5, ka6]
                                  refine wpAnyH_ready (rs := [20]) (by kernel_rfl) (by simp) ?_
                                  refine AllReadyH.cons (o := _) rfl (fun K hK => ?_) AllReadyH.nil
                                  go_simp
                                  have qS := HP.out.cell (i := i) (v := .slice (some ⟨gi, 0, none⟩) W ci) (by simp [hilt, HVi.out])
                                  have yS0 := HL6.out.c 0 (v := .bool si) rfl
                                  have yS1 := HL6.out.c 1 (v := .slice ai ni ki) rfl
                                  have yS2 := HL6.out.c 2 (v := .slice bi mi di) rfl
                                  refine hK.out _ _ ?_ (fun hHeld => ?_)
                                  · first | (with_reducible exact ⟨qS, yS0, yS1, yS2, V0.out, V1'.out, V2.out⟩) | ((try dsimp only); exact ⟨qS, yS0, yS1, yS2, V0.out, V1'.out, V2.out⟩)
                                  refine wpAnyH_done (by kernel_rfl) ?_ _
                                  clear q0 x0 x1 x2 v0 v1 v2 y0' y1' y2' f0 f1 f2 qS yS0 yS1 yS2
                                  go_wp2
                                  go_roundw
                                  case rel => exact ⟨j + 1, by omega, by go_num, HP, HO6, HL6, HB6⟩
                                  case measure => simp [intOf]; omega
                                · skip
                                  go_simp
                                  (with_reducible refine (KM.out).mono ?_)
                                  rintro e w10 ⟨s7, a7, n7, c7, b7, m7, d7, rfl, hr, hb⟩
                                  have hbe := hid (hbd.out.trans (hb.mono hbd.out.size))
                                  have KU := hid (ssub_o (w := w10) (HX5.out.old hbe.out).ra hr.ra)
                                  have q0 := (hb.cell (p := ⟨G, i, none⟩) hGh.out).trans q0
                                  have x0 := (hb.cell (p := ⟨gi, j * 3, none⟩) hg5h.out).trans x0
                                  have x1 := (hb.cell (p := ⟨gi, j * 3 + 1, none⟩) hg5h.out).trans x1
                                  have x2 := (hb.cell (p := ⟨gi, j * 3 + 2, none⟩) hg5h.out).trans x2
                                  have v0 := (hb.cell (p := ⟨g, j * 3, none⟩) hg6h.out).trans v0
                                  have v1 := (hb.cell (p := ⟨g, j * 3 + 1, none⟩) hg6h.out).trans v1
                                  have v2 := (hb.cell (p := ⟨g, j * 3 + 2, none⟩) hg6h.out).trans v2
                                  have hL10 := hid (hLd.out.old hb)
                                  have y0' := hL10.out.c 0 (v := .bool si) rfl
                                  have y1' := hL10.out.c 1 (v := .slice ai ni ki) rfl
                                  have y2' := hL10.out.c 2 (v := .slice bi mi di) rfl
                                  have hz10 := hid hbe.out.size
                                  clear hr hb
                                  go_wp2_with fail
                                  refine hK.out _ _ ?_ (fun hHeld => ?_)
                                  · first | (with_reducible exact ⟨q0, y0', y1', y2', v0, v1, v2⟩) | ((try dsimp only); with_reducible exact ⟨q0, y0', y1', y2', v0, v1, v2⟩)
                                  refine wpAnyH_ready (rs := [11]) (by kernel_rfl) (by simp) ?_
                                  refine AllReadyH.cons (o := _) rfl (fun K hK => ?_) AllReadyH.nil
                                  go_simp
                                  refine hK.out _ _ ?_ (fun hHeld => ?_)
                                  · first | (with_reducible exact ⟨q0, y0', y1', y2', v0, v1, v2⟩) | ((try dsimp only); with_reducible exact ⟨q0, y0', y1', y2', v0, v1, v2⟩)
                                  try simp only [Act.put, ka1, ka2, ka3, ka4, ka5, ka6]
                                  refine wpAnyH_ready (rs := [18]) (by kernel_rfl) (by simp) ?_
                                  refine AllReadyH.cons (o := _) rfl (fun K hK => ?_) AllReadyH.nil
                                  go_simp
                                  (with_reducible refine (KU.out).mono ?_)
                                  rintro e w11 ⟨s8, a8, n8, c8, b8, m8, d8, rfl, hr, hb⟩
                                  have hbf := hid (hbe.out.trans (hb.mono hbe.out.size))
                                  have HDe := hid (hDj.out.old hbf.out)
                                  have q0 := (hb.cell (p := ⟨G, i, none⟩) (Nat.lt_of_lt_of_le hGh.out hz10.out)).trans q0
                                  have x0 := (hb.cell (p := ⟨gi, j * 3, none⟩) (Nat.lt_of_lt_of_le hg5h.out hz10.out)).trans x0
                                  have x1 := (hb.cell (p := ⟨gi, j * 3 + 1, none⟩) (Nat.lt_of_lt_of_le hg5h.out hz10.out)).trans x1
                                  have x2 := (hb.cell (p := ⟨gi, j * 3 + 2, none⟩) (Nat.lt_of_lt_of_le hg5h.out hz10.out)).trans x2
                                  have v0 := (hb.cell (p := ⟨g, j * 3, none⟩) (Nat.lt_of_lt_of_le hg6h.out hz10.out)).trans v0
                                  have v1 := (hb.cell (p := ⟨g, j * 3 + 1, none⟩) (Nat.lt_of_lt_of_le hg6h.out hz10.out)).trans v1
                                  have v2 := (hb.cell (p := ⟨g, j * 3 + 2, none⟩) (Nat.lt_of_lt_of_le hg6h.out hz10.out)).trans v2
                                  have hL11 := hid (hL10.out.old hb)
                                  have y0' := hL11.out.c 0 (v := .bool si) rfl
                                  have y1' := hL11.out.c 1 (v := .slice ai ni ki) rfl
                                  have y2' := hL11.out.c 2 (v := .slice bi mi di) rfl
                                  have f0 := HDe.out.free hilt HVi.out (j * 3)
                                  have f1 := HDe.out.free hilt HVi.out (j * 3 + 1)
                                  have f2 := HDe.out.free hilt HVi.out (j * 3 + 2)
                                  have HP := hid (HDe.out.put' (O' := fun r => if r = i then mxL (Y.map Option.some) TT (j + 1) else stO S1 d k i r) hilt (os := mxL (Y.map Option.some) TT j) (k := j) (if_pos rfl) (mxL_len HLY.out HLT.out (by omega)) HVi.out hjlt hr (Nat.le_trans hBs.out hz10.out) (fun k' hk' => Nat.lt_of_lt_of_le (Ints_lt hDj.out.pv k' hk').2 hz10.out) (by rw [if_pos rfl]; exact HMS.out.symm) (fun r hr' hne => by rw [if_neg hne, if_neg hne]))
                                  have HO6 := hid (HDe.out.ro hilt HVi.out (k := j) (s := s8) (x := .slice a8 n8 c8) (y := .slice b8 m8 d8) (hOj.out.old hbf.out))
                                  have HL6 := hid ((hLj.out.old hbf.out).put3 (k := j) (s := s8) (x := .slice a8 n8 c8) (y := .slice b8 m8 d8) (Ne.symm hgiB.out))
                                  have HB6 := hid (below_set3 (k := j) (s := s8) (x := .slice a8 n8 c8) (y := .slice b8 m8 d8) (hBj.out.trans (hbf.out.mono hBs.out)) hgi0h.out)
                                  have V0 := hid ((World.cell?_of_block (a := ⟨g, j * 3, none⟩) (set3_other w11 gi j s8 (.slice a8 n8 c8) (.slice b8 m8 d8) g hggi.out)).trans v0)
                                  have V1' := hid ((World.cell?_of_block (a := ⟨g, j * 3 + 1, none⟩) (set3_other w11 gi j s8 (.slice a8 n8 c8) (.slice b8 m8 d8) g hggi.out)).trans v1)
                                  have V2 := hid ((World.cell?_of_block (a := ⟨g, j * 3 + 2, none⟩) (set3_other w11 gi j s8 (.slice a8 n8 c8) (.slice b8 m8 d8) g hggi.out)).trans v2)
                                  unfold set3 at HP HO6 HL6 HB6 V0 V1' V2
                                  clear hr hb
                                  go_wp2_with fail
                                  refine hK.out _ _ ?_ (fun hHeld => ?_)
                                  · first | (with_reducible exact ⟨q0, y0', y1', y2', v0, v1, v2⟩) | ((try dsimp only); with_reducible exact ⟨q0, y0', y1', y2', v0, v1, v2⟩)
                                  refine tk (i := 19) (v := ?_) rfl (by kernel_rfl) (fun _ _ _ h => h) (Or.inl ⟨by rfl, ?_⟩) (by assumption) ?_
                                  rotate_left
                                  · (intro w hSw; (try dsimp only at hSw); go_simp; try (with_reducible rfl))
                                  try simp only [Act.put, ka1, ka2, ka3, ka4, ka5, ka6]
                                  refine wpAnyH_ready (rs := [20]) (by kernel_rfl) (by simp) ?_
                                  refine AllReadyH.cons (o := _) rfl (fun K hK => ?_) AllReadyH.nil
                                  go_simp
                                  have qS := HP.out.cell (i := i) (v := .slice (some ⟨gi, 0, none⟩) W ci) (by simp [hilt, HVi.out])
                                  have yS0 := HL6.out.c 0 (v := .bool si) rfl
                                  have yS1 := HL6.out.c 1 (v := .slice ai ni ki) rfl
                                  have yS2 := HL6.out.c 2 (v := .slice bi mi di) rfl
                                  refine hK.out _ _ ?_ (fun hHeld => ?_)
                                  · first | (with_reducible exact ⟨qS, yS0, yS1, yS2, V0.out, V1'.out, V2.out⟩) | ((try dsimp only); exact ⟨qS, yS0, yS1, yS2, V0.out, V1'.out, V2.out⟩)
                                  refine wpAnyH_done (by kernel_rfl) ?_ _
                                  clear q0 x0 x1 x2 v0 v1 v2 y0' y1' y2' f0 f1 f2 qS yS0 yS1 yS2
                                  go_wp2
                                  go_roundw
                                  case rel => exact ⟨j + 1, by omega, by go_num, HP, HO6, HL6, HB6⟩
                                  case measure => simp [intOf]; omega
                              · have hjW : j = W := by omega
                                have t1 : ¬ (j : Int) < W := by omega
                                have HDn := hid (hDj.out.same (O' := stO S1 d k (i + 1)) fun r hr => by
                                  rw [HN1.out r hr]
                                  by_cases e : r = i
                                  · rw [if_pos e, if_pos e, hjW, mxL_all HLY.out HLT.out]
                                  · rw [if_neg e, if_neg e])
                                clear hjW
                                go_wp2
                                go_roundw
                                case rel => exact ⟨i + 1, by omega, by go_num, HDn, hBj⟩
                                case measure => simp [intOf]; omega
                      · have hin : i = n := by omega
                        have u5 : ¬ (i : Int) < n := by omega
                        have HD9 := hid (show BD wi w.heap.size G n cap ((List.range n).map V1) V1 (stO S1 d k n) (.slice xp d yp) (natI ps) from hDi.out.same fun r hr => by rw [hin])
                        have hS1' := HS1W.out
                        have hl9 := HS1l.out
                        have hdS : d < S1.length := by omega
                        have hX9 : S1[d] = X := by rw [← getD_row hdS]; exact HS1d.out
                        have h09 : el S1[d] k ≠ 0 := by rw [hX9]; exact HX0.out
                        have hM9 := HD9.out.rc.mw HD9.out.row
                        obtain ⟨M9, hM⟩ : ∃ M9, (List.range n).map (fun j => (stO S1 d k n j).map fqo) = M9 := ⟨_, rfl⟩
                        rw [hM] at hM9
                        have hSm9 : Sm2 M9 := by
                          rw [← hM]
                          refine ⟨fun K hK => ?_, by rw [List.length_map, List.length_range]; omega⟩
                          obtain ⟨r, hr, rfl⟩ := List.mem_map.1 hK
                          have hr' := List.mem_range.1 hr
                          exact Sm.map (stO_fit hS1' d k n r) (by rw [stO_len hS1' hdS (by omega)]; omega)
                        have KO := hid (spec_MatOk_w (c := cap) hSm9 wi hM9)
                        have hzi := hid hBi.out.size
                        by_cases hfo : finOk S1 d k
                        · have HRK := hid (HYes.out hfo)
                          have hMf : M9 = (fin S1 d k).map rv := by
                            rw [← hM, ← range_rows (n := n) (by rw [fin_len hdS, hl9])]
                            refine List.map_congr_left fun r hr => ?_
                            have hr' := List.mem_range.1 hr
                            have := stO_yes hS1' hdS hkW h09 hfo (j := r) (by omega)
                            rw [hl9] at this
                            rw [this, map_fqo_some]
                          have hok : matOk M9 = true := by rw [hMf]; exact matOk_rv (hS1'.fin hdS hfo) (by rw [fin_len hdS, hl9]; exact hn) hW
                          rw [hok] at KO
                          have HDf := hid (show BD wi w.heap.size G n cap ((List.range n).map V1) V1 (fun j => ((fin S1 d k).getD j []).map Option.some) (.slice xp d yp) (natI ps) from HD9.out.same fun r hr => by
                            have := stO_yes hS1' hdS hkW h09 hfo (j := r) (by omega)
                            rw [hl9] at this
                            exact this.symm)
                          clear hM9 hM hSm9 hMf hok hfo hS1' hl9 hdS hX9 h09 hin
                          go_wp2_with fail
                          (with_reducible refine (KO.out).mono ?_)
                          rintro e w10 ⟨rfl, hb⟩
                          have HDa := hid ((HDf.out.old hb).old (below_new' (o := .cells #[.int .i64 (k : Int)] 3)))
                          have HBa := hid ((hBi.out.trans (hb.mono hzi.out)).alloc (Nat.le_trans hzi.out hb.size) (.cells #[.int .i64 (k : Int)] 3))
                          have PB := hid (heap_alloc_new w10 (.cells #[.int .i64 (k : Int)] 3))
                          have hpl := hid (show (natI ps).length ≤ 1048576 by rw [natI_len, ← hps.out]; omega)
                          clear hb
                          go_wp2_with (at_builtin; refine wpList_pushJ rfl _ _ rfl rfl HDa.out.pv rfl PB.out hpl.out HBa.out.size ?_)
                          intro gp cp wp hvp hbp hgr hat
                          have HDn := hid (HDa.out.grown hgr hvp (hat.elim (fun e => .inl e) (fun e => .inr (by rw [e]; simp [Value.ownBlock]))))
                          have HBn := hid (HBa.out.trans hbp)
                          have HPn := hid (show d + 1 = (ps ++ [k]).length by rw [List.length_append, List.length_singleton, ← hps.out])
                          rw [← natI_snoc] at HDn
                          have hdw : IntKind.i64.wrap ((d : Int) + 1) = ((d + 1 : Nat) : Int) := by have := IntWalk.i64_in ((d : Int) + 1) (by omega); rw [this]; omega
                          clear hvp hbp hgr hat
                          go_wp2
                          go_roundw
                          case rel => exact ⟨k + 1, d + 1, fin S1 d k, ps ++ [k], V1, by omega, by go_num, by go_num, by omega, HPn, HRK, HDn, HBn.out⟩
                          case measure => simp [intOf]; omega
                        · have hno := HNo.out hfo
                          have hok : matOk M9 = false := by
                            obtain ⟨r, hr, hbad⟩ := stO_no hS1' hdS hkW h09 hfo
                            rw [hl9] at hbad hr
                            refine matOk_no (k := r) (by rw [← hM]; simp; exact hr) ?_
                            have e1 := List.getElem_of_eq hM.symm (i := r) (by rw [← hM]; simp; exact hr)
                            rw [e1, List.getElem_map, List.getElem_range, oks_map (stO_fit hS1' d k n r)]
                            exact hbad
                          rw [hok] at KO
                          have HR0 := hid hno
                          clear hM9 hM hSm9 hok hfo hS1' hl9 hdS hX9 h09 hin hno
                          go_wp2_with fail
                          (with_reducible refine (KO.out).mono ?_)
                          rintro e w10 ⟨rfl, hb⟩
                          have R0 := hid (show RedS RS n w (.returned (.tuple #[.slice none 0 0, .slice none 0 0, .bool false])) w10 from by
                            rw [HR0.out]
                            exact ⟨rfl, hBi.out.trans (hb.mono hzi.out)⟩)
                          clear hb
                          go_wp2
                          (try simp only [Exit.inBlock, Exit.then])
                          refine bodyPost_ret (results_tmp3 rfl _ _ _) rfl ?_
                          exact R0.out
        · have z2 : ((q : Int) == (n : Int)) = true := by rw [show q = n by omega]; simp
          have z3 : ¬ (q : Int) < n := by omega
          have HRK := hid (redK_skip hS.out (by rw [← hps.out]; exact fnd_none fun j hj h1 => hQ.out j hj h1 (by have := HSl.out; omega)))
          go_wp2
          go_roundw
          case rel => exact ⟨k + 1, d, S, ps, V, by omega, by go_num, rfl, hdn, hps, HRK, HD1, HB1.out⟩
          case measure => simp [intOf]; omega
    · have hkC : k = C := by omega
      have R0 := hid (show RedS RS n w (.returned (.tuple #[.slice (some ⟨G, 0, none⟩) n cap, .slice xp d yp, .bool true])) wo from by
        rw [HRS.out, ← hkC, hS.out]
        refine ⟨_, _, _, rfl, ?_, hD.out.pv, HB.out, hD.out.rc.caps hD.out.row⟩
        have := hD.out.rc.mw hD.out.row
        simp only [map_fqo_some] at this
        rwa [range_rows HSl.out] at this)
      have k1 : ¬ (k : Int) < C := by omega
      go_wp2
      (try simp only [Exit.inBlock, Exit.then])
      refine bodyPost_ret (results_tmp3 rfl _ _ _) rfl ?_
      exact R0.out
end Go.Proofs.YtjjainnafihkdaaGreat
