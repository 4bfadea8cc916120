/- The product of two matrices (the reference). -/
import Derived.Test.YtdffmeinofgdgaaGreatXj
namespace Go.Proofs.YtdffmeinofgdgaaGreat
open Go.RowKit
open Go.Lib (hid)
set_option linter.unusedVariables false

theorem map_snoc' {R : List Rw} {F : Nat → List Fq} {k : Nat} {r : Rw} (h : R.map Rw.K = (List.range k).map F) (hr : r.K = F k) : (R ++ [r]).map Rw.K = (List.range (k + 1)).map F := by
  rw [List.map_append, h, List.range_succ, List.map_append, List.map_cons, List.map_nil, List.map_cons, List.map_nil, hr]
theorem matOk_rows {n W : Nat} {F : Nat → List Fq} (hn : n ≤ 40) (hW : ∀ i, i < n → (F i).length = W) (ho : ∀ i, i < n → oks (vals (F i)) = true) : matOk ((List.range n).map F) = true := by
  refine matOk_yes (by simpa using hn) fun k hk => ?_
  have hk' : k < n := by simpa using hk
  have h0 : matW ((List.range n).map F) = W := by
    rw [matW_at (by simp; omega)]
    simp only [List.getElem_map, List.getElem_range]
    exact hW 0 (by omega)
  simp only [List.getElem_map, List.getElem_range, h0]
  exact ⟨hW k hk', ho k hk'⟩
set_option maxRecDepth 100000 in
set_option maxHeartbeats 12800000 in
theorem spec_MatMul {p q : Bool} {a b : Option Addr} {n c m d : Nat} {M J : List (List Fq)} {lo hi lo' hi' : Nat} (hM : Sm2 M) (hJ : Sm2 J) (w : World) (h : MK p w (.slice a n c) M lo hi) (h' : MK q w (.slice b m d) J lo' hi') :
    Calls Tryz.prog 29 #[.slice a n c, .slice b m d] w (MatS (matMul M J) w) := by
  have BW := hid (below_new' (w := w) (o := .cells #[] 25))
  have HS := hid (show (w.alloc (.cells #[] 25)).heap.size = w.heap.size + 1 by simp)
  have HL := hid (MR_lit0 false (w := w) (lo := w.heap.size) (Nat.le_refl _))
  have HV := hid h
  have HR := hid h'
  obtain rfl := h.num
  obtain rfl := h'.num
  have HM := hid (h.old BW.out)
  have HJ := hid (h'.old BW.out)
  clear h h'
  have hkl := hM.2
  have hjl := hJ.2
  obtain ⟨RS, hRS⟩ : ∃ RS, RS = matMul M J := ⟨_, rfl⟩
  rw [← hRS]
  have HRS := hid hRS
  clear hRS
  generalize hWW : w.alloc (.cells #[] 25) = W at BW HS HL HM HJ
  have HWW := hid hWW
  clear hWW
  have KO := hid (spec_MatOk hM W HM.out)
  have KJ := hid (fun (U : World) (hb : Below W.heap.size W U) => spec_MatOk hJ U (HJ.out.old hb))
  cases hok : matOk M with
  | false =>
    rw [hok] at KO
    have HR0 := hid (show RS = [] by rw [HRS.out]; unfold matMul; rw [if_neg (by rw [hok]; simp)])
    clear hok
    go_enter Tryz.func29, Tryz.ntmps29
    go_wp2_with fail
    rw [HWW.out]
    (with_reducible refine (KO.out).mono ?_)
    rintro e w2 ⟨rfl, hb⟩
    have R := hid (show MatS RS w (.returned (.slice none 0 0)) w2 by rw [HR0.out]; exact ⟨_, _, _, rfl, MW_nil _ _ _ _, BW.out.trans (hb.mono BW.out.size)⟩)
    clear hb
    go_wp2
    go_ret
    exact R.out
  | true =>
    rw [hok] at KO
    cases hoj : matOk J with
    | false =>
      rw [hoj] at KJ
      have HR0 := hid (show RS = [] by rw [HRS.out]; unfold matMul; rw [if_neg (by rw [hoj]; simp)])
      clear hok hoj
      go_enter Tryz.func29, Tryz.ntmps29
      go_wp2_with fail
      rw [HWW.out]
      (with_reducible refine (KO.out).mono ?_)
      rintro e w2 ⟨rfl, hb⟩
      have HB := hid hb
      clear hb
      go_wp2_with fail
      (with_reducible refine (KJ.out _ HB.out).mono ?_)
      rintro e w3 ⟨rfl, hb⟩
      have R := hid (show MatS RS w (.returned (.slice none 0 0)) w3 by rw [HR0.out]; exact ⟨_, _, _, rfl, MW_nil _ _ _ _, BW.out.trans ((HB.out.trans (hb.mono HB.out.size)).mono BW.out.size)⟩)
      clear hb
      go_wp2
      go_ret
      exact R.out
    | true =>
      rw [hoj] at KJ
      by_cases hm0 : M.length = 0
      · have hMn : M = [] := List.eq_nil_of_length_eq_zero hm0
        have HR0 := hid (show RS = [] by
          rw [HRS.out]; unfold matMul
          rw [if_neg (by rw [matW_nil hm0]; omega)])
        have KL := hid (fun (U : World) (hb : Below W.heap.size W U) => spec_l08Ok (p := false) (a := some ⟨w.heap.size, 0, none⟩) (n := 0) (c := 0) (M := []) (lo := w.heap.size) (hi := w.heap.size + 1) ⟨fun K hK => (by cases hK), Nat.zero_le _⟩ (by rfl) U (show MK false U _ _ _ _ from ⟨[], HL.out.old (hb.mono (Nat.le_refl _)), rfl⟩))
        have e0 : (M.length : Int) = 0 := by omega
        clear hok hoj
        subst hMn
        simp only [List.length_nil] at KO e0
        simp only [List.length_nil]
        clear hm0 e0
        go_enter Tryz.func29, Tryz.ntmps29
        go_wp2_with fail
        rw [HWW.out]
        (with_reducible refine (KO.out).mono ?_)
        rintro e w2 ⟨rfl, hb⟩
        have HB := hid hb
        clear hb
        go_wp2_with fail
        (with_reducible refine (KJ.out _ HB.out).mono ?_)
        rintro e w3 ⟨rfl, hb⟩
        have HB3 := hid (HB.out.trans (hb.mono HB.out.size))
        clear hb
        go_wp2
        go_loopw [5, 34] (fun v i wr => v = .slice (some ⟨w.heap.size, 0, none⟩) 0 0 ∧ i = .int .i64 0 ∧ wr = w3) (fun _ _ _ => 0)
        case atStart => exact ⟨rfl, rfl, rfl⟩
        case round =>
          obtain ⟨rfl, rfl, rfl⟩ := hrel
          go_wp2_with fail
          (with_reducible refine (KL.out _ HB3.out).mono ?_)
          rintro e w4 ⟨rfl, hb⟩
          have R := hid (show MatS RS w (.returned (.slice (some ⟨w.heap.size, 0, none⟩) 0 0)) w4 by rw [HR0.out]; exact ⟨_, _, _, rfl, MW_nil _ _ _ _, BW.out.trans ((HB3.out.trans (hb.mono HB3.out.size)).mono BW.out.size)⟩)
          clear hb
          go_wp2
          go_ret
          exact R.out
      · have HM0 := hid (show 0 < M.length by omega)
        have e0 : (0 : Int) < M.length := by omega
        obtain ⟨g0, b0, d0, l0, h0', rfl, hg0, q0, -⟩ := HV.out.at HM0.out
        rw [← matW_at HM0.out] at q0
        have hg0W : g0 < W.heap.size := by rw [HS.out]; omega
        have q0W := (BW.out.cell (p := ⟨g0, 0, none⟩) hg0).trans q0
        have Q0 := hid q0W
        have hg0h := hid hg0W
        clear q0 q0W hg0 hg0W hm0
        by_cases hl : matW M = J.length
        · obtain ⟨F, hF⟩ : ∃ F : Nat → List Fq, F = fun i => vecM (M.getD i []) J := ⟨_, rfl⟩
          have hn40 := matOk_n hok
          have hw40 := matOk_w hoj
          have HRS2 := hid (show RS = if 0 < J.length then bmF M.length (matW J) F else [] by
            rw [HRS.out, hF]; unfold matMul
            by_cases hp : 0 < J.length
            · rw [if_pos ⟨⟨hok, hoj⟩, hl, hp⟩, if_pos hp]
            · rw [if_neg (by omega), if_neg hp])
          have HF := hid (fun k (hk : k < M.length) => show F k = vecM M[k] J by rw [hF]; show vecM (M.getD k []) J = _; rw [getD_at hk])
          have HFo := hid (show ∀ i, oks (vals (F i)) = true by rw [hF]; exact fun i => vecM_ok _ _)
          have HFs := hid (show ∀ i, szK (F i) ≤ 1960 by rw [hF]; exact fun i => vecM_sz _ _)
          rw [hl] at Q0
          obtain ⟨Wj, hWj⟩ : ∃ Wj, matW J = Wj := ⟨_, rfl⟩
          rw [hWj] at HRS2 hw40
          have HWj := hid hWj
          clear hok hoj hF hl hWj
          have q0 := Q0.out
          go_enter Tryz.func29, Tryz.ntmps29
          go_wp2_with fail
          rw [HWW.out]
          (with_reducible refine (KO.out).mono ?_)
          rintro e w2 ⟨rfl, hb⟩
          have HB := hid hb
          clear hb q0
          go_wp2_with fail
          (with_reducible refine (KJ.out _ HB.out).mono ?_)
          rintro e w3 ⟨rfl, hb⟩
          have HB3 := hid (HB.out.trans (hb.mono HB.out.size))
          have q0 := (HB3.out.cell (p := ⟨g0, 0, none⟩) hg0h.out).trans Q0.out
          clear hb
          go_wp2
          clear q0
          go_loopw [5, 34] (fun v i wr => ∃ (k : Nat) (a' : Option Addr) (c' : Nat) (R : List Rw), k ≤ M.length ∧ i = .int .i64 k ∧ v = .slice a' k c' ∧ Hid (R.map Rw.K = (List.range k).map F) ∧ Hid (MR false wr (.slice a' k c') R w.heap.size wr.heap.size) ∧ Hid (∀ i, i < k → (F i).length = Wj ∧ 0 < J.length) ∧ Below w.heap.size w wr) (fun _ i _ => M.length - (intOf i).toNat)
          case atStart => exact ⟨0, some ⟨w.heap.size, 0, none⟩, 0, [], Nat.zero_le _, rfl, rfl, hid rfl, hid ((HL.out.old (HB3.out.mono (by rw [HS.out]; exact Nat.le_refl _))).wide (Nat.le_refl _) (by have := HB3.out.size; have := HS.out; omega)), hid (fun i hi => absurd hi (by omega)), BW.out.trans (HB3.out.mono BW.out.size)⟩
          case round =>
            obtain ⟨k, a', c', R, hk, rfl, rfl, hK, hR, hG, hbel⟩ := hrel
            have HBl := hid hbel
            have hz := hbel.size
            by_cases hlt : k < M.length
            · obtain ⟨g, b1, d1, l1, h1, e, hg, q1, X⟩ := (HV.out.old hbel).at hlt
              obtain ⟨rfl, -⟩ := addr_in e
              have hFk := HF.out k hlt
              have hSK := hM.at hlt
              obtain ⟨K, hKK⟩ : ∃ K, M[k]'(hlt) = K := ⟨_, rfl⟩
              simp only [hKK] at q1 X hSK hFk
              have KV := hid (spec_VecMat hSK hJ wr X (HR.out.old hbel))
              rw [← hFk] at KV
              have HRl := hid (show R.length = k by have := congrArg List.length hK.out; simpa using this)
              have a1' : (0 : Int) ≤ k := by omega
              have a2 : (k : Int) < M.length := by omega
              by_cases hj0 : J.length = 0
              · have ej : ((J.length : Int) == 0) = true := by simp [hj0]
                have HR0 := hid (show RS = [] by rw [HRS2.out, if_neg (by omega)])
                clear hbel hKK X hFk e hj0
                go_wp2_with fail
                (with_reducible refine (KV.out).mono ?_)
                rintro e w4 ⟨a5, n5, c5, rfl, hv5, hb5⟩
                have Rr := hid (show MatS RS w (.returned (.slice none 0 0)) w4 by rw [HR0.out]; exact ⟨_, _, _, rfl, MW_nil _ _ _ _, HBl.out.trans (hb5.mono hz)⟩)
                clear hv5 hb5 q1
                go_wp2
                go_ret
                exact Rr.out
              · have ej : ((J.length : Int) == 0) = false := beq_eq_false_iff_ne.2 (by omega)
                have HJ0 := hid (show 0 < J.length by omega)
                have ej2 : (0 : Int) < J.length := by omega
                obtain ⟨gj, bj, dj, lj, hj', rfl, hgj, qj, -⟩ := (HR.out.old hbel).at HJ0.out
                rw [← matW_at HJ0.out, HWj.out] at qj
                clear hbel hKK X hFk e hj0
                go_wp2_with fail
                (with_reducible refine (KV.out).mono ?_)
                rintro e w4 ⟨a5, n5, c5, rfl, hv5, hb5⟩
                have qj := (hb5.cell (p := ⟨gj, 0, none⟩) hgj).trans qj
                obtain rfl := hv5.num
                by_cases hlen : (F k).length = Wj
                · have HV5 := hid hv5
                  have hz5 := hb5.size
                  have HG2 := hid (show ∀ i, i < k + 1 → (F i).length = Wj ∧ 0 < J.length from fun i hi => by
                    rcases Nat.lt_or_eq_of_le (Nat.le_of_lt_succ hi) with hi' | rfl
                    · exact hG.out i hi'
                    · exact ⟨hlen, HJ0.out⟩)
                  rw [hlen] at HV5 ⊢
                  have HB6 := hid ((HBl.out.trans (hb5.mono hz)).alloc (Nat.le_trans hz hz5) (.cells #[.slice a5 Wj c5] 25))
                  have PM := hid ((hR.out.old hb5).old (below_new' (o := .cells #[.slice a5 Wj c5] 25)))
                  have PV := hid (HV5.out.old (below_new' (o := .cells #[.slice a5 Wj c5] 25)))
                  have PB := hid (heap_alloc_new w4 (.cells #[.slice a5 Wj c5] 25))
                  clear hv5 hb5 q1 hlen
                  go_wp2_with (at_builtin; refine wpList_pushM rfl _ _ rfl rfl PM.out PV.out (Nat.le_refl _) hz5 (by simp) hz rfl PB.out (by rw [HRl.out]; omega) (by simp; omega) (n := k + 1) (by rw [HRl.out]) ?_)
                  intro gp cp wp hvp hbp
                  have HB7 := hid (HB6.out.trans hbp)
                  have HV7 := hid hvp
                  clear hvp hbp qj
                  go_wp2
                  go_roundw
                  case rel => exact ⟨k + 1, some ⟨gp, 0, none⟩, cp, R ++ [⟨.slice a5 Wj c5, F k, wr.heap.size, w4.heap.size⟩], by omega, by go_num, rfl, hid (map_snoc' hK.out rfl), HV7, HG2, HB7.out⟩
                  case measure => simp [intOf]; omega
                · obtain ⟨e1, e2⟩ := ne_facts hlen
                  have HR0 := hid (show RS = [] by rw [HRS2.out, if_pos HJ0.out, bmF_no hlt hlen])
                  have Rr := hid (show MatS RS w (.returned (.slice none 0 0)) w4 by rw [HR0.out]; exact ⟨_, _, _, rfl, MW_nil _ _ _ _, HBl.out.trans (hb5.mono hz)⟩)
                  clear hv5 hb5 q1 hlen
                  go_wp2
                  go_ret
                  exact Rr.out
            · obtain rfl : k = M.length := by omega
              have hMS : matOk ((List.range M.length).map F) = true := matOk_rows hn40 (fun i hi => (hG.out i hi).1) (fun i _ => HFo.out i)
              have hSm : Sm2 ((List.range M.length).map F) := ⟨fun K hK => by
                obtain ⟨i, -, rfl⟩ := List.mem_map.1 hK
                exact Sm.of (by have := HFs.out i; omega), by simpa using hkl⟩
              have KL := hid (spec_l08Ok hSm hMS wr (show MK false wr (.slice a' M.length c') _ _ _ from ⟨R, hR.out, hK.out⟩))
              have HR0 := hid (show RS = R.map Rw.K by
                rw [HRS2.out, if_pos (hG.out 0 HM0.out).2, bmF_yes fun i hi => (hG.out i hi).1, hK.out])
              clear hbel hMS hSm
              go_wp2_with fail
              (with_reducible refine (KL.out).mono ?_)
              rintro e w4 ⟨rfl, hb⟩
              have Rr := hid (show MatS RS w (.returned (.slice a' M.length c')) w4 by
                rw [HR0.out]
                exact ⟨_, _, _, rfl, ((hR.out.old hb).mw).wide (Nat.le_refl _) hb.size, HBl.out.trans (hb.mono hz)⟩)
              clear hb
              go_wp2
              go_ret
              exact Rr.out
        · have HR0 := hid (show RS = [] by rw [HRS.out]; unfold matMul; rw [if_neg fun e => hl e.2.1])
          obtain ⟨e1, e2⟩ := ne_facts hl
          obtain ⟨Wm, hWm⟩ : ∃ Wm, matW M = Wm := ⟨_, rfl⟩
          rw [hWm] at Q0 e1 e2
          clear hok hoj hl hWm
          have q0 := Q0.out
          go_enter Tryz.func29, Tryz.ntmps29
          go_wp2_with fail
          rw [HWW.out]
          (with_reducible refine (KO.out).mono ?_)
          rintro e w2 ⟨rfl, hb⟩
          have HB := hid hb
          clear hb q0
          go_wp2_with fail
          (with_reducible refine (KJ.out _ HB.out).mono ?_)
          rintro e w3 ⟨rfl, hb⟩
          have HB3 := hid (HB.out.trans (hb.mono HB.out.size))
          have q0 := (HB3.out.cell (p := ⟨g0, 0, none⟩) hg0h.out).trans Q0.out
          have R := hid (show MatS RS w (.returned (.slice none 0 0)) w3 by rw [HR0.out]; exact ⟨_, _, _, rfl, MW_nil _ _ _ _, BW.out.trans (HB3.out.mono BW.out.size)⟩)
          clear hb
          go_wp2
          go_ret
          exact R.out
end Go.Proofs.YtdffmeinofgdgaaGreat
