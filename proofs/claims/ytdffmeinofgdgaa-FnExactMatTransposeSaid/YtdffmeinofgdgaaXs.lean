/- Matrices transposed; columns of a matrix (the reference). -/
import Derived.Test.YtdffmeinofgdgaaXf
import Derived.Test.YtdffmeinofgdgaaXo
import Derived.Test.YtdffmeinofgdgaaXh
import Derived.Test.YtdffmeinofgdgaaVy
namespace Go.Proofs.Ytdffmeinofgdgaa
open Go.RowKit
open Go.Lib (hid)
set_option linter.unusedVariables false

theorem selt_take {M : List (List Fq)} {F : List Fq → Fq} {k : Nat} (h : k < M.length) : (M.map F).take k ++ [F M[k]] = (M.map F).take (k + 1) := by
  rw [List.take_succ_eq_append_getElem (by simpa using h), List.getElem_map]
theorem spick_len (cs : List Int) (K : List Fq) : (pick cs K).length = cs.length := by simp [pick]
theorem spick_take {cs : List Int} {K : List Fq} {k : Nat} (h : k < cs.length) : (pick cs K).take k ++ [elt K cs[k].toNat] = (pick cs K).take (k + 1) := by
  unfold pick
  rw [List.take_succ_eq_append_getElem (by simpa using h), List.getElem_map]
theorem map_snoc {R : List Rw} {F : Nat → List Fq} {k : Nat} {r : Rw} (h : R.map Rw.K = (List.range k).map F) (hr : r.K = F k) : (R ++ [r]).map Rw.K = (List.range (k + 1)).map F := by
  rw [List.map_append, h, List.range_succ, List.map_append, List.map_cons, List.map_nil, List.map_cons, List.map_nil, hr]
set_option maxRecDepth 100000 in
set_option maxHeartbeats 12800000 in
theorem spec_MatTranspose {p : Bool} {a : Option Addr} {n c : Nat} {M : List (List Fq)} {lo hi : Nat} (hM : Sm2 M) (w : World) (h : MK p w (.slice a n c) M lo hi) :
    Calls Try.prog 20 #[.slice a n c] w (MatS (matT M) w) := by
  have BW := hid (below_new' (w := w) (o := .cells #[] 44))
  have HS := hid (show (w.alloc (.cells #[] 44)).heap.size = w.heap.size + 1 by simp)
  have HR := hid (MR_lit0 false (w := w) (lo := w.heap.size) (Nat.le_refl _))
  have HM := hid (h.old BW.out)
  have HMw := hid h.mw
  obtain rfl := h.num
  clear h
  have hkl := hM.2
  obtain ⟨RS, hRS⟩ : ∃ RS, RS = matT M := ⟨_, rfl⟩
  rw [← hRS]
  have HRS := hid hRS
  clear hRS
  generalize hWW : w.alloc (.cells #[] 44) = W at BW HS HR HM
  have HWW := hid hWW
  clear hWW
  have KO := hid (spec_MatOk hM W HM.out)
  cases hok : matOk M with
  | false =>
    rw [hok] at KO
    have HR0 := hid (show RS = [] by rw [HRS.out]; unfold matT; rw [hok, if_neg (by decide)])
    clear hok
    go_enter Try.func20, Try.ntmps20
    go_wp2_with fail
    rw [HWW.out]
    (with_reducible refine (KO.out).mono ?_)
    rintro e w2 ⟨rfl, hb⟩
    have R := hid (show MatS RS w (.returned (.slice none 0 0)) w2 by rw [HR0.out]; exact ⟨_, _, _, rfl, MW_nil _ _ _ _, BW.out.trans (hb.mono BW.out.size)⟩)
    clear hb
    go_wp2
    go_ret
    exact R.out
  | true =>
    rw [hok] at KO
    have hn40 := matOk_n hok
    have hw40 := matOk_w hok
    have HOK := hid hok
    have hRS2 := hid (show RS = (List.range (matW M)).map (fun i => M.map fun K => elt K i) by rw [HRS.out]; unfold matT; rw [if_pos hok])
    clear hok
    by_cases h0 : M.length = 0
    · have HR0 := hid (show RS = [] by rw [hRS2.out, matW_nil h0]; rfl)
      have e0 : ((M.length : Int) == 0) = true := by simp [h0]
      clear h0
      go_enter Try.func20, Try.ntmps20
      go_wp2_with fail
      rw [HWW.out]
      (with_reducible refine (KO.out).mono ?_)
      rintro e w2 ⟨rfl, hb⟩
      have R := hid (show MatS RS w (.returned (.slice none 0 0)) w2 by rw [HR0.out]; exact ⟨_, _, _, rfl, MW_nil _ _ _ _, BW.out.trans (hb.mono BW.out.size)⟩)
      clear hb
      go_wp2
      go_ret
      exact R.out
    · have e0 : ((M.length : Int) == 0) = false := beq_eq_false_iff_ne.2 (by omega)
      have a0 : (0 : Int) < M.length := by omega
      have hMl : 0 < M.length := by omega
      have HMl := hid hMl
      clear h0 hMl
      obtain ⟨Wd, hWd⟩ : ∃ Wd, matW M = Wd := ⟨_, rfl⟩
      rw [hWd] at hw40 hRS2
      have HWd := hid hWd
      clear hWd
      go_enter Try.func20, Try.ntmps20
      go_wp2_with fail
      rw [HWW.out]
      (with_reducible refine (KO.out).mono ?_)
      rintro e w2 ⟨rfl, hb⟩
      obtain ⟨g0, o0, b0, d0, rfl, hg0, q0, -⟩ := ((HM.out.mw).old hb).at HMl.out
      rw [Nat.add_zero, ← matW_at HMl.out, HWd.out] at q0
      have HB2 := hid hb
      clear hb
      go_wp2
      clear q0
      go_loopw [3, 20] (fun v i wr => ∃ (k : Nat) (a' : Option Addr) (c' : Nat) (R : List Rw), k ≤ Wd ∧ i = .int .i64 k ∧ v = .slice a' k c' ∧ Hid (R.map Rw.K = (List.range k).map (fun i => M.map fun K => elt K i)) ∧ Hid (MR false wr (.slice a' k c') R w.heap.size wr.heap.size) ∧ Below w.heap.size w wr) (fun _ i _ => Wd - (intOf i).toNat)
      case atStart => exact ⟨0, some ⟨w.heap.size, 0, none⟩, 0, [], Nat.zero_le _, rfl, rfl, hid rfl, hid ((HR.out.old (HB2.out.mono (by rw [HS.out]; exact Nat.le_refl _))).wide (Nat.le_refl _) (by have := HB2.out.size; have := HS.out; omega)), BW.out.trans (HB2.out.mono BW.out.size)⟩
      case round =>
        obtain ⟨k, a', c', R, hk, rfl, rfl, hK, hR, hbel⟩ := hrel
        obtain ⟨wo, rfl⟩ : ∃ wo, wo = wr := ⟨_, rfl⟩
        have HB := hid hbel
        have hz := hbel.size
        clear hbel
        by_cases hlt : k < Wd
        · have V0 := hid (VK_lit0 false (w := wo) (lo := wo.heap.size) (Nat.le_refl _))
          have B0 := hid (show Below wo.heap.size wo (wo.alloc (.cells #[] 55)) from below_new')
          have S0 := hid (show (wo.alloc (.cells #[] 55)).heap.size = wo.heap.size + 1 by simp)
          have a1' : (0 : Int) ≤ k := by omega
          have a2 : (k : Int) < Wd := by omega
          have HRl := hid (show R.length = k by have := congrArg List.length hK.out; simpa using this)
          obtain ⟨RR, hRR⟩ : ∃ RR, RR = M.map fun K => elt K k := ⟨_, rfl⟩
          have HRR := hid hRR
          have HRL := hid (show RR.length = M.length by rw [hRR, List.length_map])
          clear hRR
          go_wp2
          generalize wo.alloc (.cells #[] 55) = w1 at V0 B0 S0 ⊢
          go_loopw [5, 26] (fun v i wr => ∃ (j : Nat) (a'' : Option Addr) (c'' : Nat), j ≤ M.length ∧ i = .int .i64 j ∧ v = .slice a'' j c'' ∧ Hid (VK false wr (.slice a'' j c'') (RR.take j) wo.heap.size wr.heap.size) ∧ Below wo.heap.size wo wr) (fun _ i _ => M.length - (intOf i).toNat)
          case atStart => exact ⟨0, some ⟨wo.heap.size, 0, none⟩, 0, Nat.zero_le _, rfl, rfl, hid (V0.out.wide (Nat.le_refl _) (by rw [S0.out]; exact Nat.le_refl _)), B0.out⟩
          case round =>
            obtain ⟨j, a'', c'', hj, rfl, rfl, hV, hbi⟩ := hrel
            have HBi := hid hbi
            by_cases hjlt : j < M.length
            · obtain ⟨g, o, b, d, e, hg, q0, V⟩ := ((HMw.out.old HB.out).old hbi).at hjlt
              obtain ⟨rfl, rfl⟩ := addr_in e
              have hcl : k < (M[j]'hjlt).length := by have := (matOk_row HOK.out hjlt).1; have := HWd.out; omega
              have hel := elt_at hcl
              have hSK := hM.at hjlt
              have hsn := selt_take (F := fun K => elt K k) hjlt
              rw [← HRR.out] at hsn
              obtain ⟨K, hKK⟩ : ∃ K, M[j]'(hjlt) = K := ⟨_, rfl⟩
              simp only [hKK] at q0 V hcl hel hSK hsn
              obtain ⟨g1, p1, a3, n3, c3, b3, m3, d3, rfl, hg1, q1, q2, q3, Rl⟩ := V.at hSK hcl
              rw [hel] at hsn
              obtain ⟨⟨s, A, D⟩, hf⟩ : ∃ f, K[k]'hcl = f := ⟨_, rfl⟩
              simp only [hf] at q1 Rl hsn
              have HSN := hid hsn
              have KF := hid (scopy_f (s := s) Rl)
              have b1' : (0 : Int) ≤ j := by omega
              have b2 : (j : Int) < M.length := by omega
              have b4 : (k : Int) < K.length := by omega
              have hzi := hbi.size
              clear hbi hel hf hsn Rl V hKK e hcl
              go_wp2_with fail
              (with_reducible refine (KF.out).mono ?_)
              rintro e w2 ⟨x1, x2, x3, x4, rfl, hr, hb⟩
              have V2 := hid (hV.out.old hb)
              have R2 := hid hr
              have hz2 := hb.size
              have HBj := hid ((HBi.out.trans (hb.mono hzi)).alloc (Nat.le_trans hzi hz2) (.cells #[.bool s, .slice x1 A.length x2, .slice x3 D.length x4] 55))
              clear hr hb q0 q1 q2 q3
              have PV := hid (V2.out.old (below_new' (o := .cells #[.bool s, .slice x1 A.length x2, .slice x3 D.length x4] 55)))
              have PR := hid (R2.out.old (below_new' (o := .cells #[.bool s, .slice x1 A.length x2, .slice x3 D.length x4] 55)))
              have PB := hid (heap_alloc_new w2 (.cells #[.bool s, .slice x1 A.length x2, .slice x3 D.length x4] 55))
              have hln := hid (show (RR.take j).length = j by rw [List.length_take, HRL.out]; omega)
              go_wp2_with (at_builtin; refine wpList_pushF rfl _ _ rfl rfl PV.out (Nat.le_refl _) hzi PR.out rfl PB.out (by rw [hln.out]; omega) (by simp; omega) (n := j + 1) (by rw [hln.out]) ?_)
              intro gp cp wp hvp hbp
              rw [HSN.out] at hvp
              have HB3 := hid (HBj.out.trans hbp)
              have HV3 := hid hvp
              clear hvp hbp
              go_wp2
              go_roundw
              case rel => exact ⟨j + 1, some ⟨gp, 0, none⟩, cp, by omega, by go_num, rfl, HV3, HB3.out⟩
              case measure => simp [intOf]; omega
            · obtain rfl : j = M.length := by omega
              have HV5 := hid (show VK false wr (.slice a'' M.length c'') RR wo.heap.size wr.heap.size from by have h1 := hV.out; rwa [List.take_of_length_le (by rw [HRL.out]; exact Nat.le_refl _)] at h1)
              have hzi := hbi.size
              have HB5 := hid (HB.out.trans (hbi.mono hz))
              have HB6 := hid (HB5.out.alloc HB5.out.size (.cells #[.slice a'' M.length c''] 44))
              have PM := hid ((hR.out.old hbi).old (below_new' (o := .cells #[.slice a'' M.length c''] 44)))
              have PV := hid (HV5.out.old (below_new' (o := .cells #[.slice a'' M.length c''] 44)))
              have PB := hid (heap_alloc_new wr (.cells #[.slice a'' M.length c''] 44))
              clear hbi
              go_wp2_with (at_builtin; refine wpList_pushM rfl _ _ rfl rfl PM.out PV.out (Nat.le_refl _) hzi (by simp) hz rfl PB.out (by rw [HRl.out]; omega) (by simp; omega) (n := k + 1) (by rw [HRl.out]) ?_)
              intro gp cp wp hvp hbp
              have HB7 := hid (HB6.out.trans hbp)
              have HV7 := hid hvp
              clear hvp hbp
              go_wp2
              go_roundw
              case rel => exact ⟨k + 1, some ⟨gp, 0, none⟩, cp, R ++ [⟨.slice a'' M.length c'', RR, wo.heap.size, wr.heap.size⟩], by omega, by go_num, rfl, hid (map_snoc hK.out HRR.out), HV7, HB7.out⟩
              case measure => simp [intOf]; omega
        · obtain rfl : k = Wd := by omega
          have Rr := hid (show MatS RS w (.returned (.slice a' k c')) wo from ⟨_, _, _, rfl, by rw [hRS2.out, ← hK.out]; exact hR.out.mw, HB.out⟩)
          go_wp2
          go_ret
          exact Rr.out
set_option maxRecDepth 100000 in
set_option maxHeartbeats 12800000 in
theorem spec_MatCols {p : Bool} {a b : Option Addr} {n c m d : Nat} {M : List (List Fq)} {cs : List Int} {lo hi : Nat} (hM : Sm2 M) (hcs : cs.length ≤ 1048576) (w : World) (h : MK p w (.slice a n c) M lo hi) (h' : RowI w b m cs) :
    Calls Try.prog 22 #[.slice a n c, .slice b m d] w (MatS (matC M cs) w) := by
  have BW := hid (below_new' (w := w) (o := .cells #[] 44))
  have HS := hid (show (w.alloc (.cells #[] 44)).heap.size = w.heap.size + 1 by simp)
  have HR := hid (MR_lit0 false (w := w) (lo := w.heap.size) (Nat.le_refl _))
  have HM := hid (h.old BW.out)
  have HMw := hid h.mw
  have HC := hid h'
  obtain rfl := h.num
  obtain rfl := h'.1
  clear h h'
  have hkl := hM.2
  obtain ⟨RS, hRS⟩ : ∃ RS, RS = matC M cs := ⟨_, rfl⟩
  rw [← hRS]
  have HRS := hid hRS
  clear hRS
  generalize hWW : w.alloc (.cells #[] 44) = W at BW HS HR HM
  have HWW := hid hWW
  clear hWW
  have KO := hid (spec_MatOk hM W HM.out)
  cases hok : matOk M with
  | false =>
    rw [hok] at KO
    have HR0 := hid (show RS = [] by rw [HRS.out]; unfold matC; rw [hok, if_neg (by simp)])
    clear hok
    go_enter Try.func22, Try.ntmps22
    go_wp2_with fail
    rw [HWW.out]
    (with_reducible refine (KO.out).mono ?_)
    rintro e w2 ⟨rfl, hb⟩
    have R := hid (show MatS RS w (.returned (.slice none 0 0)) w2 by rw [HR0.out]; exact ⟨_, _, _, rfl, MW_nil _ _ _ _, BW.out.trans (hb.mono BW.out.size)⟩)
    clear hb
    go_wp2
    go_ret
    exact R.out
  | true =>
    rw [hok] at KO
    have hn40 := matOk_n hok
    have hw40 := matOk_w hok
    have HOK := hid hok
    clear hok
    by_cases hl : cs.length ≤ 40
    · have h4 : ¬ (40 : Int) < cs.length := by omega
      have hRS2 := hid (show RS = if colsIn cs (matW M) = true then M.map (pick cs) else [] by
        rw [HRS.out]
        unfold matC
        by_cases hc : colsIn cs (matW M) = true
        · rw [if_pos ⟨⟨HOK.out, hl⟩, hc⟩, if_pos hc]
        · rw [if_neg fun e => hc e.2, if_neg hc])
      obtain ⟨Wd, hWd⟩ : ∃ Wd, matW M = Wd := ⟨_, rfl⟩
      rw [hWd] at hw40 hRS2
      have HWd := hid hWd
      clear hWd
      go_enter Try.func22, Try.ntmps22
      go_wp2_with fail
      rw [HWW.out]
      (with_reducible refine (KO.out).mono ?_)
      rintro e w2 ⟨rfl, hb⟩
      have HB2 := hid hb
      clear hb
      go_wp2
      go_loopw [5, 22] (fun v i wr => ∃ (k : Nat) (a' : Option Addr) (c' : Nat) (R : List Rw), k ≤ M.length ∧ i = .int .i64 k ∧ v = .slice a' k c' ∧ Hid (R.map Rw.K = (List.range k).map (fun i => pick cs (M.getD i []))) ∧ Hid (MR false wr (.slice a' k c') R w.heap.size wr.heap.size) ∧ Hid (0 < k → colsIn cs Wd = true) ∧ Below w.heap.size w wr) (fun _ i _ => M.length - (intOf i).toNat)
      case atStart => exact ⟨0, some ⟨w.heap.size, 0, none⟩, 0, [], Nat.zero_le _, rfl, rfl, hid rfl, hid ((HR.out.old (HB2.out.mono (by rw [HS.out]; exact Nat.le_refl _))).wide (Nat.le_refl _) (by have := HB2.out.size; have := HS.out; omega)), hid (fun h => absurd h (by omega)), BW.out.trans (HB2.out.mono BW.out.size)⟩
      case round =>
        obtain ⟨k, a', c', R, hk, rfl, rfl, hK, hR, hCo, hbel⟩ := hrel
        obtain ⟨wo, rfl⟩ : ∃ wo, wo = wr := ⟨_, rfl⟩
        have HB := hid hbel
        have hz := hbel.size
        by_cases hlt : k < M.length
        · obtain ⟨g, o, b1, d1, rfl, hg, q0, V⟩ := (HMw.out.old hbel).at hlt
          have hSK := hM.at hlt
          have hKW := (matOk_row HOK.out hlt).1
          rw [HWd.out] at hKW
          obtain ⟨K, hKK⟩ : ∃ K, M[k]'(hlt) = K := ⟨_, rfl⟩
          simp only [hKK] at q0 V hSK hKW
          have HKG := hid (show M.getD k [] = K by rw [← hKK]; simp [hlt])
          have HV := hid V
          have HKW := hid hKW
          have hbo := hid hbel
          have V0 := hid (VK_lit0 false (w := wo) (lo := wo.heap.size) (Nat.le_refl _))
          have B0 := hid (show Below wo.heap.size wo (wo.alloc (.cells #[] 55)) from below_new')
          have S0 := hid (show (wo.alloc (.cells #[] 55)).heap.size = wo.heap.size + 1 by simp)
          have a1' : (0 : Int) ≤ k := by omega
          have a2 : (k : Int) < M.length := by omega
          have HRl := hid (show R.length = k by have := congrArg List.length hK.out; simpa using this)
          obtain ⟨RR, hRR⟩ : ∃ RR, RR = pick cs K := ⟨_, rfl⟩
          have HRR := hid hRR
          have HRL := hid (show RR.length = cs.length by rw [hRR, spick_len])
          clear hRR hKK V hKW hbel
          go_wp2
          generalize wo.alloc (.cells #[] 55) = w1 at V0 B0 S0 ⊢
          clear q0
          go_loopw [8, 29] (fun v i wr => ∃ (j : Nat) (a'' : Option Addr) (c'' : Nat), j ≤ cs.length ∧ i = .int .i64 j ∧ v = .slice a'' j c'' ∧ Hid (∀ j' (h : j' < cs.length), j' < j → 0 ≤ cs[j'] ∧ cs[j'] < (Wd : Int)) ∧ Hid (VK false wr (.slice a'' j c'') (RR.take j) wo.heap.size wr.heap.size) ∧ Below wo.heap.size wo wr) (fun _ i _ => cs.length - (intOf i).toNat)
          case atStart => exact ⟨0, some ⟨wo.heap.size, 0, none⟩, 0, Nat.zero_le _, rfl, rfl, hid (fun j h hj => absurd hj (by omega)), hid (V0.out.wide (Nat.le_refl _) (by rw [S0.out]; exact Nat.le_refl _)), B0.out⟩
          case round =>
            obtain ⟨j, a'', c'', hj, rfl, rfl, hA, hV, hbi⟩ := hrel
            have HBi := hid hbi
            by_cases hjlt : j < cs.length
            · obtain ⟨g2, o2, rfl, hg2, hcell⟩ := (RowI_old (RowI_old HC.out hbo.out) hbi).2 (by omega)
              have q0 := hcell j hjlt
              have hsn := spick_take (K := K) hjlt
              rw [← HRR.out] at hsn
              have hA2 := hid (fun (z : Int) (hz : cs[j] = z) (h1 : 0 ≤ z) (h2 : z < (Wd : Int)) (j' : Nat) (h : j' < cs.length) (hj : j' < j + 1) => show 0 ≤ cs[j'] ∧ cs[j'] < (Wd : Int) from by
                rcases Nat.lt_or_eq_of_le (Nat.le_of_lt_succ hj) with hj' | rfl
                · exact hA.out j' h hj'
                · omega)
              have hno := hid (fun (h : cs[j] < 0 ∨ (Wd : Int) ≤ cs[j]) => colsIn_no hjlt h)
              obtain ⟨z, hz0⟩ : ∃ z, cs[j]'(hjlt) = z := ⟨_, rfl⟩
              have HZ0 := hid hz0
              simp only [hz0] at q0 hsn hno
              have b1' : (0 : Int) ≤ j := by omega
              have b2 : (j : Int) < cs.length := by omega
              have hkw := HKW.out
              have hkk := hSK.2
              clear hcell hz0
              by_cases hbad : z < 0 ∨ (Wd : Int) ≤ z
              · have KL := hid (fun W => l01In_n z 0 ((K.length : Int) - 1) (by omega) W)
                have Rr := hid (show MatS RS w (.returned (.slice none 0 0)) wr by
                  rw [hRS2.out, if_neg (by rw [hno.out hbad]; simp)]
                  exact ⟨_, _, _, rfl, MW_nil _ _ _ _, HB.out.trans (hbi.mono hz)⟩)
                clear hbi hbad hkw
                go_wp2_with fail
                (with_reducible refine (KL.out _).mono ?_)
                rintro e w3 ⟨rfl, rfl⟩
                clear q0
                go_wp2
                go_ret
                exact Rr.out
              · obtain ⟨col, rfl⟩ : ∃ col : Nat, z = col := ⟨z.toNat, by omega⟩
                have hcl' : col < K.length := by omega
                have KL := hid (fun W => l01In_y (col : Int) 0 ((K.length : Int) - 1) (by omega) (by omega) W)
                have HA3 := hid (hA2.out (col : Int) HZ0.out (by omega) (by omega))
                have hel := elt_at hcl'
                rw [Int.toNat_natCast] at hsn
                obtain ⟨g1, p1, a3, n3, c3, b3, m3, d3, rfl, hg1, q1, q2, q3, Rl⟩ := (HV.out.old hbi).at hSK hcl'
                rw [hel] at hsn
                obtain ⟨⟨s, A, D⟩, hf⟩ : ∃ f, K[col]'hcl' = f := ⟨_, rfl⟩
                simp only [hf] at q1 Rl hsn
                have HSN := hid hsn
                have KF := hid (scopy_f (s := s) Rl)
                have b3' : (0 : Int) ≤ col := by omega
                have b4 : (col : Int) < K.length := by omega
                have hzi := hbi.size
                clear hbi hel hf hsn Rl hbad hkw hcl'
                go_wp2_with fail
                (with_reducible refine (KL.out _).mono ?_)
                rintro e w3 ⟨rfl, rfl⟩
                go_wp2_with fail
                (with_reducible refine (KF.out).mono ?_)
                rintro e w2 ⟨x1, x2, x3, x4, rfl, hr, hb⟩
                have V2 := hid (hV.out.old hb)
                have R2 := hid hr
                have hz2 := hb.size
                have HBj := hid ((HBi.out.trans (hb.mono hzi)).alloc (Nat.le_trans hzi hz2) (.cells #[.bool s, .slice x1 A.length x2, .slice x3 D.length x4] 55))
                clear hr hb q0 q1 q2 q3
                have PV := hid (V2.out.old (below_new' (o := .cells #[.bool s, .slice x1 A.length x2, .slice x3 D.length x4] 55)))
                have PR := hid (R2.out.old (below_new' (o := .cells #[.bool s, .slice x1 A.length x2, .slice x3 D.length x4] 55)))
                have PB := hid (heap_alloc_new w2 (.cells #[.bool s, .slice x1 A.length x2, .slice x3 D.length x4] 55))
                have hln := hid (show (RR.take j).length = j by rw [List.length_take, HRL.out]; omega)
                go_wp2_with (at_builtin; refine wpList_pushF rfl _ _ rfl rfl PV.out (Nat.le_refl _) hzi PR.out rfl PB.out (by rw [hln.out]; omega) (by simp; omega) (n := j + 1) (by rw [hln.out]) ?_)
                intro gp cp wp hvp hbp
                rw [HSN.out] at hvp
                have HB3 := hid (HBj.out.trans hbp)
                have HV3 := hid hvp
                clear hvp hbp
                go_wp2
                go_roundw
                case rel => exact ⟨j + 1, some ⟨gp, 0, none⟩, cp, by omega, by go_num, rfl, HA3, HV3, HB3.out⟩
                case measure => simp [intOf]; omega
            · obtain rfl : j = cs.length := by omega
              have HCI := hid (show colsIn cs Wd = true from colsIn_yes fun j h => hA.out j h h)
              have HV5 := hid (show VK false wr (.slice a'' cs.length c'') RR wo.heap.size wr.heap.size from by have h1 := hV.out; rwa [List.take_of_length_le (by rw [HRL.out]; exact Nat.le_refl _)] at h1)
              have hzi := hbi.size
              have HB5 := hid (HB.out.trans (hbi.mono hz))
              have HB6 := hid (HB5.out.alloc HB5.out.size (.cells #[.slice a'' cs.length c''] 44))
              have PM := hid ((hR.out.old hbi).old (below_new' (o := .cells #[.slice a'' cs.length c''] 44)))
              have PV := hid (HV5.out.old (below_new' (o := .cells #[.slice a'' cs.length c''] 44)))
              have PB := hid (heap_alloc_new wr (.cells #[.slice a'' cs.length c''] 44))
              clear hbi
              go_wp2_with (at_builtin; refine wpList_pushM rfl _ _ rfl rfl PM.out PV.out (Nat.le_refl _) hzi (by simp) hz rfl PB.out (by rw [HRl.out]; omega) (by simp; omega) (n := k + 1) (by rw [HRl.out]) ?_)
              intro gp cp wp hvp hbp
              have HB7 := hid (HB6.out.trans hbp)
              have HV7 := hid hvp
              clear hvp hbp
              go_wp2
              go_roundw
              case rel => exact ⟨k + 1, some ⟨gp, 0, none⟩, cp, R ++ [⟨.slice a'' cs.length c'', RR, wo.heap.size, wr.heap.size⟩], by omega, by go_num, rfl, hid (map_snoc hK.out (by rw [HKG.out]; exact HRR.out)), HV7, hid (fun _ => HCI.out), HB7.out⟩
              case measure => simp [intOf]; omega
        · obtain rfl : k = M.length := by omega
          have Rr := hid (show MatS RS w (.returned (.slice a' M.length c')) wo from by
            refine ⟨_, _, _, rfl, ?_, HB.out⟩
            have e : RS = R.map Rw.K := by
              rw [hK.out, hRS2.out]
              by_cases h0 : 0 < M.length
              · rw [if_pos (hCo.out h0)]
                apply List.ext_getElem?
                intro j
                by_cases hj : j < M.length
                · simp [hj]
                · simp [hj]
              · have hM0 : M = [] := List.eq_nil_of_length_eq_zero (by omega)
                subst hM0
                simp
            rw [e]
            exact hR.out.mw)
          clear hbel
          go_wp2
          go_ret
          exact Rr.out
    · have h4 : (40 : Int) < cs.length := by omega
      have HR0 := hid (show RS = [] by rw [HRS.out]; unfold matC; rw [if_neg (by omega)])
      clear hl
      go_enter Try.func22, Try.ntmps22
      go_wp2_with fail
      rw [HWW.out]
      (with_reducible refine (KO.out).mono ?_)
      rintro e w2 ⟨rfl, hb⟩
      have R := hid (show MatS RS w (.returned (.slice none 0 0)) w2 by rw [HR0.out]; exact ⟨_, _, _, rfl, MW_nil _ _ _ _, BW.out.trans (hb.mono BW.out.size)⟩)
      clear hb
      go_wp2
      go_ret
      exact R.out
end Go.Proofs.Ytdffmeinofgdgaa
