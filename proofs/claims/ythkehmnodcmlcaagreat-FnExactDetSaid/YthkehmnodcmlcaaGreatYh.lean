import Derived.Test.YthkehmnodcmlcaaGreatXo
import Derived.Test.YthkehmnodcmlcaaGreatXd
import Derived.Deep.RegionHeld3
import Derived.Deep.DeepCutAuto
import Derived.StillTailTactics
import Derived.Test.YthkehmnodcmlcaaGreatYi
import Derived.Test.YthkehmnodcmlcaaGreatYb
import Derived.Test.YthkehmnodcmlcaaGreatYd
import Derived.Test.YthkehmnodcmlcaaGreatVs
set_option maxRecDepth 100000
set_option maxHeartbeats 6400000
set_option linter.unusedVariables false
set_option linter.unusedSimpArgs false
namespace Go.Proofs.YthkehmnodcmlcaaGreat
open Go.RowKit
open Go.Lib (hid)
theorem take_at1' {α : Type} {K : List α} {k : Nat} {x : α} (h : k < K.length) (e : K[k] = x) : K.take k ++ [x] = K.take (k + 1) := by
 subst e
 rw [List.take_succ_eq_append_getElem h]
theorem spec_VecOk_w {a : Option Addr} {n c : Nat} {K : List Fq} {lo hi : Nat} (hK : Sm K) (w : World) (h : VW w a n K lo hi) :
  Calls Tryz.prog 59 #[.slice a n c] w (RetB (.bool (oks (vals K))) w) := by
 have HV := hid h
 obtain rfl := h.num
 clear h
 have hkl := hK.2
 obtain ⟨B0, hB0⟩ : ∃ B, B = oks (vals K) := ⟨_, rfl⟩
 rw [← hB0]
 have HB0 := hid hB0
 clear hB0
 by_cases hL : 40 < K.length
 ·go_enter Tryz.func59, Tryz.ntmps59
  go_wp2
  go_loopw [7] (fun i wr => ∃ k : Nat, k ≤ K.length ∧ i = .int .i64 k ∧ Hid (∀ j (h : j < K.length), j < k → K[j].o.isSome = true) ∧ Below w.heap.size w wr) (fun i _ => K.length - (intOf i).toNat)
  case atStart => exact ⟨0, Nat.zero_le _, rfl, hid (fun j h hj => absurd hj (by omega)), Below.refl _ _⟩
  case round =>
   obtain ⟨k, hk, rfl, hA, hbel⟩ := hrel
   by_cases hlt : k < K.length
   ·have V := hid (HV.out.old hbel)
    obtain ⟨g, p, a3, n3, c3, b3, m3, d3, rfl, hg, q0, q1, q2, R⟩ := V.out.at hK hlt
    obtain ⟨⟨s, A, D⟩, hf⟩ : ∃ f, K[k]'(hlt) = f := ⟨_, rfl⟩
    simp only [hf] at q0 R
    have HF := hid hf
    clear hf
    obtain ⟨o, ho⟩ : ∃ o, Fq.o ⟨s, A, D⟩ = o := ⟨_, rfl⟩
    have HO := hid (show (K[k]'(hlt)).o = o by rw [HF.out, ho])
    have RX := hid (show RA wr s (.slice a3 n3 c3) (.slice b3 m3 d3) o from ⟨A, D, R, ho⟩)
    clear ho R
    have HB := hid (hbel.alloc hbel.size (.cells #[.bool s, .slice a3 n3 c3, .slice b3 m3 d3] 37))
    have a1' : (0 : Int) ≤ k := by omega
    have a2 : (k : Int) < K.length := by omega
    clear hbel
    cases o with
    |none =>
     have KO := hid (fun (W : World) (hb : Below wr.heap.size wr W) => sok_none (w := W) (RX.out.old hb))
     go_wp2_with fail
     (with_reducible refine (KO.out _ below_new').mono ?_)
     rintro e w2 ⟨rfl, hb⟩
     have HB := hid (HB.out.trans (hb.mono HB.out.size))
     clear hb q0 q1 q2
     go_wp2
     go_ret
     exact ⟨bool_ret (by rw [HB0.out, oks_no hlt HO.out]), HB.out⟩
    |some x =>
     have KO := hid (fun (W : World) (hb : Below wr.heap.size wr W) => sok_some (w := W) (RX.out.old hb))
     go_wp2_with fail
     (with_reducible refine (KO.out _ below_new').mono ?_)
     rintro e w2 ⟨rfl, hb⟩
     have HB := hid (HB.out.trans (hb.mono HB.out.size))
     clear hb q0 q1 q2
     go_wp2
     go_roundw
     case rel => exact ⟨k + 1, by omega, by go_num, hid (fun j h hj => by
      rcases Nat.lt_or_eq_of_le (Nat.le_of_lt_succ hj) with hj' | rfl
      ·exact hA.out j h hj'
      ·rw [HO.out]; rfl), HB.out⟩
     case measure => simp [intOf]; omega
   ·have HB := hid hbel
    clear hbel
    go_wp2
    go_ret
    exact ⟨bool_ret (by rw [HB0.out, oks_long hL]; first | exact decide_eq_false (by omega) | exact decide_eq_true (by omega)), HB.out⟩
 ·go_enter Tryz.func59, Tryz.ntmps59
  go_wp2
  go_loopw [7] (fun i wr => ∃ k : Nat, k ≤ K.length ∧ i = .int .i64 k ∧ Hid (∀ j (h : j < K.length), j < k → K[j].o.isSome = true) ∧ Below w.heap.size w wr) (fun i _ => K.length - (intOf i).toNat)
  case atStart => exact ⟨0, Nat.zero_le _, rfl, hid (fun j h hj => absurd hj (by omega)), Below.refl _ _⟩
  case round =>
   obtain ⟨k, hk, rfl, hA, hbel⟩ := hrel
   by_cases hlt : k < K.length
   ·have V := hid (HV.out.old hbel)
    obtain ⟨g, p, a3, n3, c3, b3, m3, d3, rfl, hg, q0, q1, q2, R⟩ := V.out.at hK hlt
    obtain ⟨⟨s, A, D⟩, hf⟩ : ∃ f, K[k]'(hlt) = f := ⟨_, rfl⟩
    simp only [hf] at q0 R
    have HF := hid hf
    clear hf
    obtain ⟨o, ho⟩ : ∃ o, Fq.o ⟨s, A, D⟩ = o := ⟨_, rfl⟩
    have HO := hid (show (K[k]'(hlt)).o = o by rw [HF.out, ho])
    have RX := hid (show RA wr s (.slice a3 n3 c3) (.slice b3 m3 d3) o from ⟨A, D, R, ho⟩)
    clear ho R
    have HB := hid (hbel.alloc hbel.size (.cells #[.bool s, .slice a3 n3 c3, .slice b3 m3 d3] 37))
    have a1' : (0 : Int) ≤ k := by omega
    have a2 : (k : Int) < K.length := by omega
    clear hbel
    cases o with
    |none =>
     have KO := hid (fun (W : World) (hb : Below wr.heap.size wr W) => sok_none (w := W) (RX.out.old hb))
     go_wp2_with fail
     (with_reducible refine (KO.out _ below_new').mono ?_)
     rintro e w2 ⟨rfl, hb⟩
     have HB := hid (HB.out.trans (hb.mono HB.out.size))
     clear hb q0 q1 q2
     go_wp2
     go_ret
     exact ⟨bool_ret (by rw [HB0.out, oks_no hlt HO.out]), HB.out⟩
    |some x =>
     have KO := hid (fun (W : World) (hb : Below wr.heap.size wr W) => sok_some (w := W) (RX.out.old hb))
     go_wp2_with fail
     (with_reducible refine (KO.out _ below_new').mono ?_)
     rintro e w2 ⟨rfl, hb⟩
     have HB := hid (HB.out.trans (hb.mono HB.out.size))
     clear hb q0 q1 q2
     go_wp2
     go_roundw
     case rel => exact ⟨k + 1, by omega, by go_num, hid (fun j h hj => by
      rcases Nat.lt_or_eq_of_le (Nat.le_of_lt_succ hj) with hj' | rfl
      ·exact hA.out j h hj'
      ·rw [HO.out]; rfl), HB.out⟩
     case measure => simp [intOf]; omega
   ·have HB := hid hbel
    clear hbel
    go_wp2
    go_ret
    exact ⟨bool_ret (by rw [HB0.out, oks_yes (by omega) (fun j h => hA.out j h (by omega))]; first | exact decide_eq_false (by omega) | exact decide_eq_true (by omega)), HB.out⟩
theorem spec_MatOk_w {a : Option Addr} {n c : Nat} {M : List (List Fq)} {lo hi : Nat} (hM : Sm2 M) (w : World) (h : MW w a n M lo hi) :
  Calls Tryz.prog 106 #[.slice a n c] w (RetB (.bool (matOk M)) w) := by
 have HV := hid h
 obtain rfl := h.num
 clear h
 have hkl := hM.2
 obtain ⟨B0, hB0⟩ : ∃ B, B = matOk M := ⟨_, rfl⟩
 rw [← hB0]
 have HB0 := hid hB0
 clear hB0
 go_enter Tryz.func106, Tryz.ntmps106
 go_wp2
 go_loopw [7] (fun i wr => ∃ k : Nat, k ≤ M.length ∧ i = .int .i64 k ∧ Hid (∀ j (h : j < M.length), j < k → M[j].length = matW M ∧ oks (vals M[j]) = true) ∧ Below w.heap.size w wr) (fun i _ => M.length - (intOf i).toNat)
 case atStart => exact ⟨0, Nat.zero_le _, rfl, hid (fun j h hj => absurd hj (by omega)), Below.refl _ _⟩
 case round =>
  obtain ⟨k, hk, rfl, hA, hbel⟩ := hrel
  by_cases hlt : k < M.length
  ·obtain ⟨g, o, b, d, rfl, hg, q0, V⟩ := (HV.out.old hbel).at hlt
   obtain ⟨g', o', b', d', e, -, q1, -⟩ := (HV.out.old hbel).at (k := 0) (by omega)
   obtain ⟨rfl, rfl⟩ := addr_in e
   rw [Nat.add_zero, ← matW_at (by omega)] at q1
   have hSK := hM.at hlt
   obtain ⟨K, hKK⟩ : ∃ K, M[k]'(hlt) = K := ⟨_, rfl⟩
   simp only [hKK] at q0 V hSK
   have HK := hid hKK
   obtain ⟨W, hW⟩ : ∃ W, matW M = W := ⟨_, rfl⟩
   rw [hW] at q1
   have HW := hid hW
   have KO := hid (spec_VecOk_w (c := d) hSK wr V)
   have HB := hid hbel
   have a1' : (0 : Int) ≤ k := by omega
   have a2 : (k : Int) < M.length := by omega
   have a3 : (0 : Int) < M.length := by omega
   have hg2 := hid hg
   clear hbel hKK hW V e
   obtain ⟨ob, hob⟩ : ∃ ob, oks (vals K) = ob := ⟨_, rfl⟩
   have HOB := hid (show oks (vals (M[k]'(hlt))) = ob by rw [HK.out, hob])
   rw [hob] at KO
   clear hob
   cases ob with
   |false =>
    go_wp2_with fail
    (with_reducible refine (KO.out).mono ?_)
    rintro e w2 ⟨rfl, hb⟩
    have HB := hid (HB.out.trans (hb.mono HB.out.size))
    clear hb q0 q1
    go_wp2
    go_ret
    exact ⟨bool_ret (by rw [HB0.out, matOk_no hlt HOB.out]), HB.out⟩
   |true =>
    by_cases hLK : K.length = W
    ·have HLK := hid (show (M[k]'(hlt)).length = matW M by rw [HK.out, HW.out, hLK])
     subst hLK
     go_wp2_with fail
     (with_reducible refine (KO.out).mono ?_)
     rintro e w2 ⟨rfl, hb⟩
     have HB := hid (HB.out.trans (hb.mono HB.out.size))
     have q1 := (hb.cell (p := ⟨g, o, none⟩) hg2.out).trans q1
     clear hb q0
     go_wp2
     go_roundw
     case rel => exact ⟨k + 1, by omega, by go_num, hid (fun j h hj => by
      rcases Nat.lt_or_eq_of_le (Nat.le_of_lt_succ hj) with hj' | rfl
      ·exact hA.out j h hj'
      ·exact ⟨HLK.out, HOB.out⟩), HB.out⟩
     case measure => simp [intOf]; omega
    ·obtain ⟨e1, e2⟩ := ne_facts hLK
     have HLK := hid (show (M[k]'(hlt)).length ≠ matW M by rw [HK.out, HW.out]; exact hLK)
     clear hLK
     go_wp2_with fail
     (with_reducible refine (KO.out).mono ?_)
     rintro e w2 ⟨rfl, hb⟩
     have HB := hid (HB.out.trans (hb.mono HB.out.size))
     have q1 := (hb.cell (p := ⟨g, o, none⟩) hg2.out).trans q1
     clear hb q0
     go_wp2
     go_ret
     exact ⟨bool_ret (by rw [HB0.out, matOk_len hlt HLK.out]), HB.out⟩
  ·have HB := hid hbel
   clear hbel
   go_wp2
   go_ret
   refine ⟨bool_ret ?_, HB.out⟩
   rw [HB0.out]
   by_cases h4 : M.length ≤ 40
   ·rw [matOk_yes h4 (fun j h => hA.out j h (by omega))]
    exact decide_eq_true (by omega)
   ·rw [matOk_long (by omega)]
    exact decide_eq_false (by omega)
theorem l06Copy_any {a : Option Addr} {n c : Nat} {K : List Fq} {lo hi : Nat} (hK : Sm K) (w : World) (h : VW w a n K lo hi) :
  Calls Tryz.prog 158 #[.slice a n c] w (VecR false K w) := by
 have HV := hid h
 obtain rfl := h.num
 clear h
 have hkl := hK.2
 have V0 := hid (VK_lit0 false (w := w) (lo := w.heap.size) (Nat.le_refl _))
 have B0 := hid (show Below w.heap.size w (w.alloc (.cells #[] 37)) from below_new')
 have S0 := hid (show (w.alloc (.cells #[] 37)).heap.size = w.heap.size + 1 by simp)
 go_enter Tryz.func158, Tryz.ntmps158
 go_wp2
 generalize w.alloc (.cells #[] 37) = w1 at V0 B0 S0 ⊢
 go_loopw [3, 9] (fun v i wr => ∃ (k : Nat) (a' : Option Addr) (c' : Nat), k ≤ K.length ∧ i = .int .i64 k ∧ v = .slice a' k c' ∧ Hid (VK false wr (.slice a' k c') (K.take k) w.heap.size wr.heap.size) ∧ Below w.heap.size w wr) (fun _ i _ => K.length - (intOf i).toNat)
 case atStart => exact ⟨0, some ⟨w.heap.size, 0, none⟩, 0, Nat.zero_le _, rfl, rfl, hid (V0.out.wide (Nat.le_refl _) (by rw [S0.out]; exact Nat.le_refl _)), B0.out⟩
 case round =>
  obtain ⟨k, a', c', hk, rfl, rfl, hV, hbel⟩ := hrel
  have HB := hid hbel
  by_cases hlt : k < K.length
  ·obtain ⟨g1, p1, a3, n3, c3, b3, m3, d3, rfl, hg1, q1, q2, q3, R⟩ := (HV.out.old hbel).at hK hlt
   obtain ⟨⟨s, A, D⟩, hf⟩ : ∃ f, K[k]'hlt = f := ⟨_, rfl⟩
   have HSN := hid (take_at1' hlt hf)
   simp only [hf] at q1 R
   have HR := hid R
   have hz := hbel.size
   have a1' : (0 : Int) ≤ k := by omega
   have a2 : (k : Int) < K.length := by omega
   have HB := hid (hbel.alloc hbel.size (.cells #[.bool s, .slice a3 n3 c3, .slice b3 m3 d3] 37))
   have HVa := hid (hV.out.old (below_new' (o := .cells #[.bool s, .slice a3 n3 c3, .slice b3 m3 d3] 37)))
   have KF := hid (scopy_f (s := s) (R.old (below_new' (o := .cells #[.bool s, .slice a3 n3 c3, .slice b3 m3 d3] 37))))
   have hza := hid (show (wr.alloc (.cells #[.bool s, .slice a3 n3 c3, .slice b3 m3 d3] 37)).heap.size = wr.heap.size + 1 by simp)
   clear hbel hf R
   go_wp2_with fail
   (with_reducible refine (KF.out).mono ?_)
   rintro e w2 ⟨x1, x2, x3, x4, rfl, hr, hb⟩
   have V2 := hid ((HVa.out.old hb).wide (Nat.le_refl _) (show wr.heap.size ≤ (wr.alloc (.cells #[.bool s, .slice a3 n3 c3, .slice b3 m3 d3] 37)).heap.size by rw [hza.out]; omega))
   have R2 := hid hr
   have hz2 := hb.size
   rw [hza.out] at hz2 V2 R2
   have HB2 := hid ((HB.out.trans (hb.mono (by rw [hza.out]; omega))).alloc (show w.heap.size ≤ w2.heap.size by omega) (.cells #[.bool s, .slice x1 A.length x2, .slice x3 D.length x4] 37))
   clear hr hb q1 q2 q3
   have PV := hid (V2.out.old (below_new' (o := .cells #[.bool s, .slice x1 A.length x2, .slice x3 D.length x4] 37)))
   have PR := hid (R2.out.old (below_new' (o := .cells #[.bool s, .slice x1 A.length x2, .slice x3 D.length x4] 37)))
   have PB := hid (heap_alloc_new w2 (.cells #[.bool s, .slice x1 A.length x2, .slice x3 D.length x4] 37))
   have hln := hid (show (K.take k).length = k by rw [List.length_take]; omega)
   go_wp2_with (at_builtin; refine wpList_pushF rfl _ _ rfl rfl PV.out (Nat.le_refl _) (by omega) PR.out rfl PB.out (by rw [hln.out]; omega) (by simp; omega) (n := k + 1) (by rw [hln.out]) ?_)
   intro gp cp wp hvp hbp
   rw [HSN.out] at hvp
   have HB3 := hid (HB2.out.trans hbp)
   have HV3 := hid hvp
   clear hvp hbp
   go_wp2
   go_roundw
   case rel => exact ⟨k + 1, some ⟨gp, 0, none⟩, cp, by omega, by go_num, rfl, HV3, HB3.out⟩
   case measure => simp [intOf]; omega
  ·obtain rfl : k = K.length := by omega
   have R := hid (show VecR false K w (.returned (.slice a' K.length c')) wr from ⟨_, _, _, rfl, by have h1 := hV.out; rwa [List.take_length] at h1, HB.out⟩)
   clear hbel
   go_wp2
   go_ret
   exact R.out
theorem l08Copy_any {a : Option Addr} {n c : Nat} {M : List (List Fq)} {lo hi : Nat} (hM : Sm2 M) (w : World) (h : MW w a n M lo hi) :
  Calls Tryz.prog 107 #[.slice a n c] w (fun e w' => ∃ a' c' R, e = .returned (.slice a' M.length c') ∧ MR false w' (.slice a' M.length c') R w.heap.size w'.heap.size ∧ R.map Rw.K = M ∧ Below w.heap.size w w') := by
 have HV := hid h
 obtain rfl := h.num
 clear h
 have hkl := hM.2
 have V0 := hid (MR_lit0 false (w := w) (lo := w.heap.size) (Nat.le_refl _))
 have B0 := hid (show Below w.heap.size w (w.alloc (.cells #[] 41)) from below_new')
 have S0 := hid (show (w.alloc (.cells #[] 41)).heap.size = w.heap.size + 1 by simp)
 go_enter Tryz.func107, Tryz.ntmps107
 go_wp2
 generalize w.alloc (.cells #[] 41) = w1 at V0 B0 S0 ⊢
 go_loopw [3, 9] (fun v i wr => ∃ (k : Nat) (a' : Option Addr) (c' : Nat) (R : List Rw), k ≤ M.length ∧ i = .int .i64 k ∧ v = .slice a' k c' ∧ Hid (R.map Rw.K = M.take k) ∧ Hid (MR false wr (.slice a' k c') R w.heap.size wr.heap.size) ∧ Below w.heap.size w wr) (fun _ i _ => M.length - (intOf i).toNat)
 case atStart => exact ⟨0, some ⟨w.heap.size, 0, none⟩, 0, [], Nat.zero_le _, rfl, rfl, hid rfl, hid (V0.out.wide (Nat.le_refl _) (by rw [S0.out]; exact Nat.le_refl _)), B0.out⟩
 case round =>
  obtain ⟨k, a', c', R, hk, rfl, rfl, hK, hR, hbel⟩ := hrel
  have HB := hid hbel
  have hz := hbel.size
  by_cases hlt : k < M.length
  ·obtain ⟨g, o, b, d, rfl, hg, q0, V⟩ := (HV.out.old hbel).at hlt
   obtain ⟨K, hKK⟩ : ∃ K, M[k]'(hlt) = K := ⟨_, rfl⟩
   have hSK := hM.at hlt
   have HT := hid (take_at1' hlt hKK)
   simp only [hKK] at q0 V hSK
   have KC := hid (l06Copy_any (c := d) hSK wr V)
   have HRl := hid (show R.length = k by have := congrArg List.length hK.out; rw [List.length_map, List.length_take] at this; omega)
   have a1' : (0 : Int) ≤ k := by omega
   have a2 : (k : Int) < M.length := by omega
   clear hbel hKK V
   go_wp2_with fail
   (with_reducible refine (KC.out).mono ?_)
   rintro e w2 ⟨a5, n5, c5, rfl, hv, hb⟩
   have hz2 := hb.size
   have HB5 := hid (HB.out.trans (hb.mono hz))
   have HB6 := hid (HB5.out.alloc HB5.out.size (.cells #[.slice a5 n5 c5] 41))
   have PM := hid ((hR.out.old hb).old (below_new' (o := .cells #[.slice a5 n5 c5] 41)))
   have PV := hid (hv.old (below_new' (o := .cells #[.slice a5 n5 c5] 41)))
   have PB := hid (heap_alloc_new w2 (.cells #[.slice a5 n5 c5] 41))
   clear hv hb q0
   go_wp2_with (at_builtin; refine wpList_pushM rfl _ _ rfl rfl PM.out PV.out (Nat.le_refl _) hz2 (by simp) hz rfl PB.out (by rw [HRl.out]; omega) (by simp; omega) (n := k + 1) (by rw [HRl.out]) ?_)
   intro gp cp wp hvp hbp
   have HB7 := hid (HB6.out.trans hbp)
   have HV7 := hid hvp
   clear hvp hbp
   go_wp2
   go_roundw
   case rel => exact ⟨k + 1, some ⟨gp, 0, none⟩, cp, R ++ [⟨.slice a5 n5 c5, K, wr.heap.size, w2.heap.size⟩], by omega, by go_num, rfl, hid (by rw [List.map_append, hK.out, ← HT.out]; rfl), HV7, HB7.out⟩
   case measure => simp [intOf]; omega
  ·obtain rfl : k = M.length := by omega
   have HR := hid (show R.map Rw.K = M by have := hK.out; rwa [List.take_length] at this)
   clear hbel
   go_wp2
   go_ret
   exact ⟨_, _, R, rfl, hR.out, HR.out, HB.out⟩
end Go.Proofs.YthkehmnodcmlcaaGreat
namespace Go.Proofs.YthkehmnodcmlcaaGreat
open Go.RowKit
open Go.Lib (hid)
theorem RO.keepR {p q : Bool} {w w' : World} {g N c l h lo : Nat} {E : List El} {s : Bool} {v u : Value} {o : Option Rat} (hr : VO q w (.slice (some ⟨g, 0, none⟩) N c) E l h) (hb : ∀ k, k ≠ g → w'.heap[k]? = w.heap[k]?) (ho : RO p w lo s v u o) : RO p w' lo s v u o :=
 ⟨ho.sg, Ints_block ho.i fun k hk => hb k fun e => own_ne hr.row ho.i (by decide) k (by rw [e]; rfl) hk, Ints_block ho.j fun k hk => hb k fun e => own_ne hr.row ho.j (by decide) k (by rw [e]; rfl) hk, ho.nd, ho.ft⟩
theorem Ints_keepR {q : Bool} {w w' : World} {g N c l h lo : Nat} {E : List El} {v : Value} {L : List Int} (hr : VO q w (.slice (some ⟨g, 0, none⟩) N c) E l h) (hb : ∀ k, k ≠ g → w'.heap[k]? = w.heap[k]?) (ho : Ints w lo v L) : Ints w' lo v L :=
 Ints_block ho fun k hk => hb k fun e => own_ne hr.row ho (by decide) k (by rw [e]; rfl) hk
theorem own_keepR {q : Bool} {w w' : World} {g N c l h lo n : Nat} {E : List El} {v : Value} {xs : List Value} (hr : VO q w (.slice (some ⟨g, 0, none⟩) N c) E l h) (hb : ∀ k, k ≠ g → w'.heap[k]? = w.heap[k]?) (ho : w.ownsRow lo 41 1 v n xs) : w'.ownsRow lo 41 1 v n xs :=
 own_block ho fun k hk => hb k fun e => own_ne hr.row ho (by decide) k (by rw [e]; rfl) hk
theorem Ints_keepG {w w' : World} {G m c lo' n lo : Nat} {xs : List Value} {v : Value} {L : List Int} (hr : w.ownsRow lo' 41 1 (.slice (some ⟨G, 0, none⟩) m c) n xs) (hb : ∀ k, k ≠ G → w'.heap[k]? = w.heap[k]?) (ho : Ints w lo v L) : Ints w' lo v L :=
 Ints_block ho fun k hk => hb k fun e => own_ne hr ho (by decide) k (by rw [e]; rfl) hk
def set3 (w : World) (g k : Nat) (s : Bool) (x y : Value) : World := ((w.setCell ⟨g, k * 3, none⟩ (.bool s)).setCell ⟨g, k * 3 + 1, none⟩ x).setCell ⟨g, k * 3 + 2, none⟩ y
theorem set3_other (w : World) (g k : Nat) (s : Bool) (x y : Value) : ∀ j, j ≠ g → (set3 w g k s x y).heap[j]? = w.heap[j]? := fun j hj => by
 unfold set3
 rw [Below.heap_setCell _ _ _ _ hj, Below.heap_setCell _ _ _ _ hj, Below.heap_setCell _ _ _ _ hj]
theorem set3_size (w : World) (g k : Nat) (s : Bool) (x y : Value) : (set3 w g k s x y).heap.size = w.heap.size := by simp only [set3, size_set]
def VKb (b : Option Nat) (w : World) (v : Value) (K : List Fq) (lo hi : Nat) : Prop := ∃ E, VO false w v E lo hi ∧ keys E = K ∧ ∀ e ∈ E, ∀ k, (e.v.ownBlock = some k ∨ e.u.ownBlock = some k) → b ≠ some k
theorem VKb.vk {b : Option Nat} {w : World} {v : Value} {K : List Fq} {lo hi : Nat} (h : VKb b w v K lo hi) : VK false w v K lo hi := by
 obtain ⟨E, h, e, -⟩ := h
 exact ⟨E, h, e⟩
theorem VKb.old {b : Option Nat} {w w' : World} {v : Value} {K : List Fq} {lo hi : Nat} (h : VKb b w v K lo hi) (hb : Below w.heap.size w w') : VKb b w' v K lo hi := by
 obtain ⟨E, h, e, a⟩ := h
 exact ⟨E, h.old hb, e, a⟩
theorem VKb.wide {b : Option Nat} {w : World} {v : Value} {K : List Fq} {lo hi lo' hi' : Nat} (h : VKb b w v K lo hi) (h1 : lo' ≤ lo) (h2 : hi ≤ hi') : VKb b w v K lo' hi' := by
 obtain ⟨E, h, e, a⟩ := h
 exact ⟨E, h.wide h1 h2, e, a⟩
theorem VKb.keepG {b : Option Nat} {w w' : World} {G n m c lo' : Nat} {xs : List Value} {v : Value} {K : List Fq} {lo hi : Nat} (h : VKb b w v K lo hi) (hr : w.ownsRow lo' 41 1 (.slice (some ⟨G, 0, none⟩) m c) n xs) (hb : ∀ k, k ≠ G → w'.heap[k]? = w.heap[k]?) : VKb b w' v K lo hi := by
 obtain ⟨E, h, e, a⟩ := h
 exact ⟨E, h.keepG hr hb, e, a⟩
theorem VKb.form {b : Option Nat} {w : World} {v : Value} {K : List Fq} {lo hi : Nat} (h : VKb b w v K lo hi) : ∃ a c, v = .slice a K.length c := h.vk.form
structure RC (b : Option Nat) (w : World) (n : Nat) (V : Nat → Value) (lo : Nat) (O : Nat → List (Option Rat)) : Prop where
 el : ∀ j, j < n → VKb b w (V j) ((O j).map fqo) lo w.heap.size
 ne : ∀ i j, i < n → j < n → i ≠ j → ∀ k, (V i).ownBlock = some k → (V j).ownBlock ≠ some k
 ft : ∀ j, j < n → ∀ o ∈ O j, fitO o
theorem RC.old {b : Option Nat} {w w' : World} {n lo : Nat} {V : Nat → Value} {O : Nat → List (Option Rat)} (h : RC b w n V lo O) (hb : Below w.heap.size w w') : RC b w' n V lo O :=
 ⟨fun j hj => ((h.el j hj).old hb).wide (Nat.le_refl _) hb.size, h.ne, h.ft⟩
theorem RC.keepG {b : Option Nat} {w w' : World} {G m c lo' k n lo : Nat} {V : Nat → Value} {O : Nat → List (Option Rat)} {xs : List Value} (h : RC b w n V lo O) (hr : w.ownsRow lo' 41 1 (.slice (some ⟨G, 0, none⟩) m c) k xs) (hs : w'.heap.size = w.heap.size) (hb : ∀ k, k ≠ G → w'.heap[k]? = w.heap[k]?) : RC b w' n V lo O :=
 ⟨fun j hj => by rw [hs]; exact (h.el j hj).keepG hr hb, h.ne, h.ft⟩
theorem RC.same {b : Option Nat} {w : World} {n lo : Nat} {V : Nat → Value} {O O' : Nat → List (Option Rat)} (h : RC b w n V lo O) (e : ∀ j, j < n → O' j = O j) : RC b w n V lo O' :=
 ⟨fun j hj => by rw [e j hj]; exact h.el j hj, h.ne, fun j hj => by rw [e j hj]; exact h.ft j hj⟩
theorem RC.perm {b : Option Nat} {w : World} {n lo : Nat} {V : Nat → Value} {O : Nat → List (Option Rat)} (h : RC b w n V lo O) {f : Nat → Nat} (hf : ∀ j, j < n → f j < n) (hi : ∀ i j, i < n → j < n → i ≠ j → f i ≠ f j) : RC b w n (fun j => V (f j)) lo (fun j => O (f j)) :=
 ⟨fun j hj => h.el _ (hf j hj), fun i j hi' hj hne => h.ne _ _ (hf i hi') (hf j hj) (hi i j hi' hj hne), fun j hj => h.ft _ (hf j hj)⟩
theorem RC.at {b : Option Nat} {w : World} {n lo : Nat} {V : Nat → Value} {O : Nat → List (Option Rat)} (h : RC b w n V lo O) {j : Nat} (hj : j < n) {k : Nat} (hk : k < (O j).length) :
  ∃ g c s a3 n3 c3 b3 m3 d3 E, V j = .slice (some ⟨g, 0, none⟩) (O j).length c ∧ lo ≤ g ∧ g < w.heap.size ∧ w.cell? ⟨g, k * 3, none⟩ = some (.bool s) ∧ w.cell? ⟨g, k * 3 + 1, none⟩ = some (.slice a3 n3 c3) ∧ w.cell? ⟨g, k * 3 + 2, none⟩ = some (.slice b3 m3 d3) ∧
   RO false w lo s (.slice a3 n3 c3) (.slice b3 m3 d3) (O j)[k] ∧ VO false w (.slice (some ⟨g, 0, none⟩) (O j).length c) E lo w.heap.size ∧ keys E = (O j).map fqo := by
 obtain ⟨E, hE, hEk, -⟩ := h.el j hj
 have hEl : E.length = (O j).length := by rw [← keys_len, hEk, List.length_map]
 obtain ⟨a, c, hv, -⟩ := hE.form
 rw [hv] at hE
 obtain ⟨g, rfl, -, h1, -, h3⟩ := hE.pos (by omega)
 obtain ⟨q0, q1, q2⟩ := hE.cell (i := k) (by omega)
 have R := hE.at (i := k) (by omega)
 have hq : E[k].q = fqo (O j)[k] := by
  have := congrArg (fun l => l[k]?) hEk
  simp only [List.getElem?_map, List.getElem?_eq_getElem hk, Option.map_some] at this
  have hk' : k < E.length := by omega
  have e2 : (keys E)[k]? = some E[k].q := by rw [List.getElem?_eq_getElem (by rw [keys_len]; exact hk'), keys_at hk']
  rw [e2] at this
  exact Option.some.inj this
 rw [hq] at q0 R
 obtain ⟨a3, c3, b3, d3, e1, e2⟩ := R.form
 rw [e1] at q1 R
 rw [e2] at q2 R
 have i1 := R.a.ints
 have i2 := R.d.ints
 have hl1 : (.slice a3 (fqo (O j)[k]).A.length c3 : Value) = .slice a3 (fqo (O j)[k]).A.length c3 := rfl
 rw [hEl] at hv hE
 refine ⟨g, c, _, a3, _, c3, b3, _, d3, E, hv, h1, h3, q0, q1, q2, ⟨fqo_s _, ?_, ?_, (fun h => by cases h), h.ft j hj _ (List.getElem_mem hk)⟩, hE, hEk⟩
 ·rw [← fqo_A]; exact i1
 ·rw [← fqo_D]; exact i2
theorem RC.at' {b : Option Nat} {w : World} {n lo : Nat} {V : Nat → Value} {O : Nat → List (Option Rat)} (h : RC b w n V lo O) {j : Nat} (hj : j < n) {os : List (Option Rat)} (hO : O j = os) {k W : Nat} (hl : os.length = W) (hk : k < W) {o : Option Rat} (ho : os[k]'(by omega) = o) :
  ∃ g c s a3 n3 c3 b3 m3 d3, V j = .slice (some ⟨g, 0, none⟩) W c ∧ lo ≤ g ∧ g < w.heap.size ∧ w.cell? ⟨g, k * 3, none⟩ = some (.bool s) ∧ w.cell? ⟨g, k * 3 + 1, none⟩ = some (.slice a3 n3 c3) ∧ w.cell? ⟨g, k * 3 + 2, none⟩ = some (.slice b3 m3 d3) ∧
   RO false w lo s (.slice a3 n3 c3) (.slice b3 m3 d3) o := by
 subst hO
 subst hl
 subst ho
 obtain ⟨g, c, s, a3, n3, c3, b3, m3, d3, E, h1, h2, h3, h4, h5, h6, h7, -, -⟩ := h.at hj hk
 exact ⟨g, c, s, a3, n3, c3, b3, m3, d3, h1, h2, h3, h4, h5, h6, h7⟩
theorem RC.put {b : Option Nat} {w : World} {n lo : Nat} {V : Nat → Value} {O : Nat → List (Option Rat)} (h : RC b w n V lo O) {i k g c : Nat} (hi : i < n) (hv : V i = .slice (some ⟨g, 0, none⟩) (O i).length c) (hk : k < (O i).length) {lo' : Nat} {s : Bool} {x y : Value} {o : Option Rat} (hr : RO false w lo' s x y o) (hl : lo ≤ lo') (hbl : ∀ k, b = some k → k < lo') :
  RC b (set3 w g k s x y) n V lo (fun j => if j = i then (O i).set k o else O j) := by
 have hs := set3_size w g k s x y
 have blk := set3_other w g k s x y
 have hi2 := h.el i hi
 rw [hv] at hi2
 obtain ⟨Ei, hEi, hEik, hav⟩ := hi2
 refine ⟨fun j hj => ?_, h.ne, fun j hj => ?_⟩
 ·rw [hs]
  by_cases e : j = i
  ·subst e
   simp only [if_true]
   rw [hv]
   have hsg := hr.sg
   rw [← fqo_s] at hsg
   subst hsg
   have h1 := hr.i
   have h2 := hr.j
   rw [← fqo_A] at h1
   rw [← fqo_D] at h2
   generalize hfo : fqo o = f at h1 h2 blk hs ⊢
   have hk' : k < Ei.length := by rw [← keys_len, hEik, List.length_map]; exact hk
   have hro : ROw w x y f.A f.D lo' w.heap.size := ⟨⟨h1, fun k hk => (Ints_lt h1 k hk).2⟩, ⟨h2, fun k hk => (Ints_lt h2 k hk).2⟩⟩
   refine ⟨Ei.set k ⟨f, x, y⟩, hEi.put (e := ⟨f, x, y⟩) hk' ⟨hro.a.wide hl (.inr (Nat.le_refl _)), hro.d.wide hl (.inr (Nat.le_refl _))⟩ (fun hp => by cases hp) (fun hp => by cases hp), ?_, fun e he k' hk'' => ?_⟩
   ·rw [List.map_set, ← hEik, hfo]
    simp [keys, List.map_set]
   ·rcases List.mem_or_eq_of_mem_set he with he | rfl
    ·exact hav e he k' hk''
    ·intro hbk
     have := hbl k' hbk
     have h3 : lo' ≤ k' := hk''.elim (fun e => (Ints_lt h1 k' e).1) (fun e => (Ints_lt h2 k' e).1)
     omega
  ·simp only [if_neg e]
   obtain ⟨E, hE, hEk, hav'⟩ := h.el j hj
   have keep : ∀ {y' : Value} {L : List Int}, Obj w y' L lo w.heap.size → Obj (set3 w g k s x y) y' L lo w.heap.size := fun {y' L} ho =>
    ⟨Ints_block ho.ints fun k' hk' => blk k' fun e' => own_ne hEi.row ho.ints (by decide) g rfl (by rw [hk', e']), ho.high⟩
   exact ⟨E, ⟨own_block hE.row fun k' hk' => blk k' fun e' => h.ne j i hj hi e k' hk' (by rw [hv, e']; rfl), hE.high, fun z hz => ⟨keep (hE.el z hz).a, keep (hE.el z hz).d⟩, hE.nd, hE.ap⟩, hEk, hav'⟩
 ·by_cases e : j = i
  ·subst e
   simp only [if_true]
   intro z hz
   rcases List.mem_or_eq_of_mem_set hz with hz | rfl
   ·exact h.ft j hj z hz
   ·exact hr.ft
  ·simp only [if_neg e]; exact h.ft j hj
theorem RC.mw {b : Option Nat} {w : World} {n lo G cap : Nat} {V : Nat → Value} {O : Nat → List (Option Rat)} (h : RC b w n V lo O) (hr : w.ownsRow lo 41 1 (.slice (some ⟨G, 0, none⟩) n cap) n ((List.range n).map V)) : MW w (some ⟨G, 0, none⟩) n ((List.range n).map fun j => (O j).map fqo) lo w.heap.size := by
 have hG := hr.lt G rfl
 refine ⟨by simp, fun h0 => ⟨G, 0, rfl, hG.1, hG.2, hG.2, fun i hi => ?_⟩⟩
 simp only [List.length_map, List.length_range] at hi
 have hc := hr.cells (g := G) rfl i (V i) (by simp [hi])
 rw [Go.WideShapes.add_plain, Nat.zero_add] at hc
 have hv := h.el i hi
 obtain ⟨b', c', e⟩ := hv.form
 rw [e] at hc hv
 simp only [List.getElem_map, List.getElem_range, Nat.zero_add]
 exact ⟨b', c', hc, hv.vk.vw⟩
theorem RC.of {w : World} {v : Value} {R : List Rw} {lo n : Nat} {V : Nat → Value} {O : Nat → List (Option Rat)} (h : MR false w v R lo w.heap.size) (hn : R.length = n) (hV : ∀ j (hj : j < R.length), V j = R[j].v) (hO : ∀ j (hj : j < R.length), R[j].K = (O j).map fqo) (hf : ∀ j, j < n → ∀ o ∈ O j, fitO o) {b : Option Nat} (hbl : ∀ k, b = some k → w.heap.size ≤ k) : RC b w n V lo O := by
 subst hn
 refine ⟨fun j hj => ?_, fun i j hi' hj hij k hk hk' => ?_, hf⟩
 ·have e := h.el _ (List.getElem_mem hj)
  rw [← hO j hj, hV j hj]
  obtain ⟨E, hE, hEk⟩ := e.1.wide e.2.1 e.2.2.2
  exact ⟨E, hE, hEk, fun x hx k hk hbk => by
   have h3 := hbl k hbk
   have h4 : k < w.heap.size := hk.elim (fun e => (Ints_lt (hE.el x hx).a.ints k e).2) (fun e => (Ints_lt (hE.el x hx).d.ints k e).2)
   omega⟩
 ·rw [hV i hi'] at hk
  rw [hV j hj] at hk'
  have ei := h.el _ (List.getElem_mem hi')
  have ej := h.el _ (List.getElem_mem hj)
  obtain ⟨E1, h1, -⟩ := ei.1
  obtain ⟨E2, h2, -⟩ := ej.1
  have a1 := h1.lt k hk
  have a2 := h1.high k hk
  have b1 := h2.lt k hk'
  have b2 := h2.high k hk'
  have hp := List.pairwise_iff_getElem.1 h.ap
  rcases Nat.lt_or_gt_of_ne hij with hl | hl
  ·have := hp i j hi' hj hl; omega
  ·have := hp j i hj hi' hl; omega
structure BD (w : World) (lo G n cap : Nat) (H : List Value) (V : Nat → Value) (O : Nat → List (Option Rat)) (pv : Value) (L : List Int) : Prop where
 rc : RC pv.ownBlock w n V lo O
 row : w.ownsRow lo 41 1 (.slice (some ⟨G, 0, none⟩) n cap) n H
 pv : Ints w lo pv L
theorem BD.old {w w' : World} {lo G n cap : Nat} {H : List Value} {V : Nat → Value} {O : Nat → List (Option Rat)} {pv : Value} {L : List Int} (h : BD w lo G n cap H V O pv L) (hb : Below w.heap.size w w') : BD w' lo G n cap H V O pv L :=
 ⟨h.rc.old hb, own_block h.row fun k hk => hb.block k (h.row.lt k hk).2, Ints_old h.pv hb⟩
theorem BD.same {w : World} {lo G n cap : Nat} {H : List Value} {V : Nat → Value} {O O' : Nat → List (Option Rat)} {pv : Value} {L : List Int} (h : BD w lo G n cap H V O pv L) (e : ∀ j, j < n → O' j = O j) : BD w lo G n cap H V O' pv L := ⟨h.rc.same e, h.row, h.pv⟩
theorem BD.put {w : World} {lo G n cap : Nat} {H : List Value} {V : Nat → Value} {O : Nat → List (Option Rat)} {pv : Value} {L : List Int} (h : BD w lo G n cap H V O pv L) {i k g c : Nat} (hi : i < n) (hv : V i = .slice (some ⟨g, 0, none⟩) (O i).length c) (hk : k < (O i).length) {lo' : Nat} {s : Bool} {x y : Value} {o : Option Rat} (hr : RO false w lo' s x y o) (hl : lo ≤ lo') (hbl : ∀ k, pv.ownBlock = some k → k < lo') :
  BD (set3 w g k s x y) lo G n cap H V (fun j => if j = i then (O i).set k o else O j) pv L := by
 have hi2 := h.rc.el i hi
 rw [hv] at hi2
 obtain ⟨Ei, hEi, -, -⟩ := hi2
 exact ⟨h.rc.put hi hv hk hr hl hbl, own_keepR hEi (set3_other w g k s x y) h.row, Ints_keepR hEi (set3_other w g k s x y) h.pv⟩
theorem BD.put' {w : World} {lo G n cap : Nat} {H : List Value} {V : Nat → Value} {O O' : Nat → List (Option Rat)} {pv : Value} {L : List Int} (h : BD w lo G n cap H V O pv L) {i k g c W : Nat} (hi : i < n) {os : List (Option Rat)} (hO : O i = os) (hl : os.length = W) (hv : V i = .slice (some ⟨g, 0, none⟩) W c) (hk : k < W) {lo' : Nat} {s : Bool} {x y : Value} {o : Option Rat} (hr : RO false w lo' s x y o) (hl' : lo ≤ lo') (hbl : ∀ k, pv.ownBlock = some k → k < lo') (hO' : O' i = os.set k o) (hO2 : ∀ j, j < n → j ≠ i → O' j = O j) :
  BD (set3 w g k s x y) lo G n cap H V O' pv L := by
 subst hO
 subst hl
 refine (h.put hi hv hk hr hl' hbl).same fun j hj => ?_
 by_cases e : j = i
 ·subst e; rw [if_pos rfl]; exact hO'
 ·rw [if_neg e]; exact hO2 j hj e
theorem BD.ro {w : World} {lo G n cap : Nat} {H : List Value} {V : Nat → Value} {O : Nat → List (Option Rat)} {pv : Value} {L : List Int} (h : BD w lo G n cap H V O pv L) {i k g c m : Nat} (hi : i < n) (hv : V i = .slice (some ⟨g, 0, none⟩) m c) {s : Bool} {x y : Value} {p : Bool} {lo' : Nat} {s' : Bool} {x' y' : Value} {o : Option Rat} (hr : RO p w lo' s' x' y' o) : RO p (set3 w g k s x y) lo' s' x' y' o := by
 have hi2 := h.rc.el i hi
 rw [hv] at hi2
 obtain ⟨Ei, hEi, -, -⟩ := hi2
 exact RO.keepR hEi (set3_other w g k s x y) hr
theorem BD.hdr {w w' : World} {lo G n cap : Nat} {H H' : List Value} {V : Nat → Value} {O : Nat → List (Option Rat)} {pv : Value} {L : List Int} (h : BD w lo G n cap H V O pv L) (hs : w'.heap.size = w.heap.size) (hb : ∀ k, k ≠ G → w'.heap[k]? = w.heap[k]?) (hr : w'.ownsRow lo 41 1 (.slice (some ⟨G, 0, none⟩) n cap) n H') : BD w' lo G n cap H' V O pv L :=
 ⟨h.rc.keepG h.row hs hb, hr, Ints_keepG h.row hb h.pv⟩
theorem BD.free {w : World} {lo G n cap : Nat} {H : List Value} {V : Nat → Value} {O : Nat → List (Option Rat)} {pv : Value} {L : List Int} (h : BD w lo G n cap H V O pv L) {i g c m : Nat} (hi : i < n) (hv : V i = .slice (some ⟨g, 0, none⟩) m c) (k : Nat) : w.frozen? ⟨g, k, none⟩ = false := by
 have hi2 := h.rc.el i hi
 rw [hv] at hi2
 obtain ⟨Ei, hEi, -, -⟩ := hi2
 exact hEi.free k
theorem BD.cell {w : World} {lo G n cap : Nat} {H : List Value} {V : Nat → Value} {O : Nat → List (Option Rat)} {pv : Value} {L : List Int} (h : BD w lo G n cap H V O pv L) {i : Nat} {v : Value} (hv : H[i]? = some v) : w.cell? ⟨G, i, none⟩ = some v := by
 have hc := h.row.cells (g := G) rfl i v hv
 rwa [Go.WideShapes.add_plain, Nat.zero_add] at hc
theorem BD.grown {w w' : World} {lo G n cap : Nat} {H : List Value} {V : Nat → Value} {O : Nat → List (Option Rat)} {pv pv' : Value} {L L' : List Int} (h : BD w lo G n cap H V O pv L) (hg : w.grownBy w' pv.ownBlock) (hn : Ints w' lo pv' L') (hat : pv.ownBlock = pv'.ownBlock ∨ pv'.ownBlock = some w.heap.size) : BD w' lo G n cap H V O pv' L' := by
 refine ⟨⟨fun j hj => ?_, h.rc.ne, h.rc.ft⟩, own_block h.row fun k hk => hg.block k (h.row.lt k hk).2 fun e => own_ne h.row h.pv (by decide) k hk e.symm, hn⟩
 obtain ⟨E, hE, hEk, hav⟩ := h.rc.el j hj
 have ob : ∀ {e : El} (he : e ∈ E) {y : Value} {M : List Int}, (∀ k, y.ownBlock = some k → pv.ownBlock ≠ some k) → Obj w y M lo w.heap.size → Obj w' y M lo w'.heap.size := fun {e} he {y M} ha ho =>
  ⟨Ints_block ho.ints fun k hk => hg.block k (Ints_lt ho.ints k hk).2 fun e => ha k hk e.symm, fun k hk => Nat.lt_of_lt_of_le (ho.high k hk) hg.size⟩
 refine ⟨E, ⟨own_block hE.row fun k hk => hg.block k (hE.lt k hk).2 fun e => own_ne hE.row h.pv (by decide) k hk e.symm, fun k hk => Nat.lt_of_lt_of_le (hE.high k hk) hg.size, fun x hx => ⟨ob hx (fun k hk => hav x hx k (.inl hk)) (hE.el x hx).a, ob hx (fun k hk => hav x hx k (.inr hk)) (hE.el x hx).d⟩, hE.nd, hE.ap⟩, hEk, fun x hx k hk hbk => ?_⟩
 rcases hat with e | e
 ·exact hav x hx k hk (by rw [e]; exact hbk)
 ·rw [e] at hbk
  have h4 : k < w.heap.size := hk.elim (fun e => (Ints_lt (hE.el x hx).a.ints k e).2) (fun e => (Ints_lt (hE.el x hx).d.ints k e).2)
  have := Option.some.inj hbk
  omega
theorem below_set3 {lo g k : Nat} {w w' : World} {s : Bool} {x y : Value} (h : Below lo w w') (hg : lo ≤ g) : Below lo w (set3 w' g k s x y) := by
 unfold set3
 exact ((h.setCell (p := ⟨g, k * 3, none⟩) hg _).setCell (p := ⟨g, k * 3 + 1, none⟩) hg _).setCell (p := ⟨g, k * 3 + 2, none⟩) hg _
theorem LocA.put3 {T : TypeId} {w : World} {b g k : Nat} {cs : Array Value} {s : Bool} {x y : Value} (h : LocA T w b cs) (hb : b ≠ g) : LocA T (set3 w g k s x y) b cs := (set3_other w g k s x y b hb).trans h
end Go.Proofs.YthkehmnodcmlcaaGreat
namespace Go.Proofs.YthkehmnodcmlcaaGreat
open Go.RowKit
open Go.Lib (hid)
theorem matOk_rv {W : Nat} {S : List (List Rat)} (h : Rows W S) (hn : S.length ≤ 40) (hW : W ≤ 40) : matOk (S.map rv) = true := by
 have hw : ∀ k (hk : k < (S.map rv).length), ((S.map rv)[k]).length = W ∧ oks (vals (S.map rv)[k]) = true := fun k hk => by
  rw [List.length_map] at hk
  have hx := h.at hk
  rw [List.getElem_map, rv_len]
  exact ⟨hx.1, oks_rv hx.2 (by omega)⟩
 refine matOk_yes (by rw [List.length_map]; exact hn) fun k hk => ⟨?_, (hw k hk).2⟩
 rw [(hw k hk).1, matW_at (by omega), (hw 0 (by omega)).1]
theorem af_some {X : List Rat} (h : AF X) : ∀ o ∈ X.map Option.some, fitO o := fun o ho => by
 obtain ⟨x, hx, rfl⟩ := List.mem_map.1 ho
 exact fun y e => by cases e; exact h x hx
theorem spR_fit (P : List (Option Rat)) (f : Option Rat) (X : List Rat) : ∀ o ∈ spR P f X, fitO o := fun o ho => by
 unfold spR at ho
 obtain ⟨k, hk, rfl⟩ := List.getElem_of_mem ho
 simp only [List.getElem_zipWith]
 exact fitO_bq fitO_sub _ _
theorem getD_row {S : List (List Rat)} {j : Nat} (h : j < S.length) : S.getD j [] = S[j] := by simp [h]
theorem map_fqo_some (X : List Rat) : (X.map Option.some).map fqo = rv X := by
 rw [List.map_map]; rfl
theorem range_rows {n : Nat} {S : List (List Rat)} (h : S.length = n) : (List.range n).map (fun j => rv (S.getD j [])) = S.map rv := by
 subst h
 apply List.ext_getElem
 ·simp
 ·intro k h1 h2
  simp at h2
  simp [h2]
end Go.Proofs.YthkehmnodcmlcaaGreat
