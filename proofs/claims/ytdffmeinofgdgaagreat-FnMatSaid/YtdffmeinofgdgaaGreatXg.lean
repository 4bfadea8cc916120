/- Columns of a matrix (the program). -/
import Derived.Test.YtdffmeinofgdgaaGreatXe
namespace Go.Proofs.YtdffmeinofgdgaaGreat
open Go.RowKit
open Go.Lib (hid)
set_option linter.unusedVariables false

theorem pick_len (cs : List Int) (K : List Fq) : (pick cs K).length = cs.length := by simp [pick]
theorem pick_take {cs : List Int} {K : List Fq} {k : Nat} (h : k < cs.length) : (pick cs K).take k ++ [elt K cs[k].toNat] = (pick cs K).take (k + 1) := by
  unfold pick
  rw [List.take_succ_eq_append_getElem (by simpa using h), List.getElem_map]
set_option maxRecDepth 100000 in
set_option maxHeartbeats 6400000 in
theorem copyElements_any {a b : Option Addr} {n c m d : Nat} {K : List Fq} {cs : List Int} {lo hi : Nat} (hK : Sm K) (hcs : cs.length ≤ 1048576) (w : World) (h : VW w a n K lo hi) (h' : RowI w b m cs) (hc : ∀ k (hk : k < cs.length), 0 ≤ cs[k] ∧ cs[k] < (K.length : Int)) :
    Calls Tryz.prog 49 #[.slice a n c, .slice b m d] w (VecR true (pick cs K) w) := by
  have HV := hid h
  have HR := hid h'
  have HCo := hid hc
  obtain rfl := h.num
  obtain rfl := h'.1
  clear h h' hc
  have hkl := hK.2
  obtain ⟨RS, hRS⟩ : ∃ RS, RS = pick cs K := ⟨_, rfl⟩
  rw [← hRS]
  have HRS := hid hRS
  have HRL := hid (show RS.length = cs.length by rw [hRS, pick_len])
  clear hRS
  go_enter Tryz.func49, Tryz.ntmps49
  go_wp2
  go_loopw [5, 10] (fun v i wr => ∃ (k : Nat) (a' : Option Addr) (c' : Nat), k ≤ cs.length ∧ i = .int .i64 k ∧ v = .slice a' k c' ∧ Hid (VK true wr (.slice a' k c') (RS.take k) w.heap.size wr.heap.size) ∧ Below w.heap.size w wr) (fun _ i _ => cs.length - (intOf i).toNat)
  case atStart => exact ⟨0, none, 0, Nat.zero_le _, rfl, rfl, hid (VK_nil _ _ _ _), Below.refl _ _⟩
  case round =>
    obtain ⟨k, a', c', hk, rfl, rfl, hV, hbel⟩ := hrel
    have HB := hid hbel
    by_cases hlt : k < cs.length
    · obtain ⟨g, o, rfl, hg, hcell⟩ := (RowI_old HR.out hbel).2 (by omega)
      have q0 := hcell k hlt
      have hcl := HCo.out k hlt
      have hsn := pick_take (K := K) hlt
      rw [← HRS.out] at hsn
      obtain ⟨z, hz0⟩ : ∃ z, cs[k]'(hlt) = z := ⟨_, rfl⟩
      simp only [hz0] at q0 hcl hsn
      obtain ⟨col, rfl⟩ : ∃ col : Nat, z = col := ⟨z.toNat, by omega⟩
      have hcl' : col < K.length := by omega
      have hel := elt_at hcl'
      rw [Int.toNat_natCast] at hsn
      obtain ⟨g1, p1, a3, n3, c3, b3, m3, d3, rfl, hg1, q1, q2, q3, R⟩ := (HV.out.old hbel).at hK hcl'
      rw [hel] at hsn
      obtain ⟨⟨s, A, D⟩, hf⟩ : ∃ f, K[col]'hcl' = f := ⟨_, rfl⟩
      simp only [hf] at q1 R hsn
      have HSN := hid hsn
      have KF := hid (copy_f (s := s) R)
      have a1' : (0 : Int) ≤ k := by omega
      have a2 : (k : Int) < cs.length := by omega
      have a3' : (0 : Int) ≤ col := by omega
      have a4 : (col : Int) < K.length := by omega
      have hz := hbel.size
      clear hbel hel hf hsn R hcell hz0 hcl
      go_wp2_with fail
      (with_reducible refine (KF.out).mono ?_)
      rintro e w2 ⟨x1, x2, x3, x4, rfl, hr, hb⟩
      have V2 := hid (hV.out.old hb)
      have R2 := hid hr
      have hz2 := hb.size
      have HB2 := hid ((HB.out.trans (hb.mono hz)).alloc (Nat.le_trans hz hz2) (.cells #[.bool s, .slice x1 A.length x2, .slice x3 D.length x4] 65))
      clear hr hb q0 q1 q2 q3
      have PV := hid (V2.out.old (below_new' (o := .cells #[.bool s, .slice x1 A.length x2, .slice x3 D.length x4] 65)))
      have PR := hid (R2.out.old (below_new' (o := .cells #[.bool s, .slice x1 A.length x2, .slice x3 D.length x4] 65)))
      have PB := hid (heap_alloc_new w2 (.cells #[.bool s, .slice x1 A.length x2, .slice x3 D.length x4] 65))
      have hln := hid (show (RS.take k).length = k by rw [List.length_take, HRL.out]; omega)
      go_wp2_with (at_builtin; refine wpList_pushF rfl _ _ rfl rfl PV.out (Nat.le_refl _) hz PR.out rfl PB.out (by rw [hln.out]; omega) (by simp; omega) (n := k + 1) (by rw [hln.out]) ?_)
      intro gp cp wp hvp hbp
      rw [HSN.out] at hvp
      have HB3 := hid (HB2.out.trans hbp)
      have HV3 := hid hvp
      clear hvp hbp
      go_wp2
      go_roundw
      case rel => exact ⟨k + 1, some ⟨gp, 0, none⟩, cp, by omega, by go_num, rfl, HV3, HB3.out⟩
      case measure => simp [intOf]; omega
    · obtain rfl : k = cs.length := by omega
      have R := hid (show VecR true RS w (.returned (.slice a' cs.length c')) wr from ⟨_, _, _, rfl, by have h1 := hV.out; rwa [List.take_of_length_le (by rw [HRL.out]; exact Nat.le_refl _)] at h1, HB.out⟩)
      clear hbel
      go_wp2
      go_ret
      exact R.out
set_option maxRecDepth 100000 in
set_option maxHeartbeats 6400000 in
theorem cols_row {B B' : Nat} {a b : Option Addr} {n c m d : Nat} {M : List (List Fq)} {cs : List Int} {lo hi i : Nat} (hM : Sm2 M) (hcs : cs.length ≤ 1048576) (W : World) (hB : W.cell? ⟨B, 0, none⟩ = some (.slice a n c)) (hB' : W.cell? ⟨B', 0, none⟩ = some (.slice b m d)) (hBl : B < W.heap.size) (hBl' : B' < W.heap.size)
    (h : MW W a n M lo hi) (h' : RowI W b m cs) (hi : i < M.length) (hc : ∀ k (hk : k < cs.length), 0 ≤ cs[k] ∧ cs[k] < (M[i].length : Int)) :
    Calls Tryz.prog 48 #[.int .i64 (i : Int), .pointer (some ⟨B, 0, none⟩), .pointer (some ⟨B', 0, none⟩)] W (VecR true (pick cs M[i]) W) := by
  obtain rfl := h.num
  have hkl := hM.2
  obtain ⟨g, o, b1, d1, rfl, hg, q0, V⟩ := h.at hi
  have hSK := hM.at hi
  have KE := hid (fun (U : World) (hb : Below W.heap.size W U) => copyElements_any (c := d1) (d := d) hSK hcs U (V.old hb) (RowI_old h' hb) hc)
  generalize M[i] = K at q0 KE ⊢
  generalize pick cs K = RS at KE ⊢
  have a1' : (0 : Int) ≤ i := by omega
  have a2 : (i : Int) < M.length := by omega
  clear h h' hc V
  have hz : W.heap.size ≤ W.heap.size := Nat.le_refl _
  go_enter Tryz.func48, Tryz.ntmps48
  go_wp2_with fail
  go_region_held3 (fun w' => w'.cell? ⟨B, 0, none⟩ = some (.slice (some ⟨g, o, none⟩) M.length c) ∧ w'.cell? ⟨B', 0, none⟩ = some (.slice b m d) ∧ w'.cell? ⟨g, o + i, none⟩ = some (.slice b1 K.length d1)) (first | with_reducible exact ⟨hB, hB', q0⟩ | go_keep)
    (first
      | (go_at_call 49; (with_reducible refine (KE.out _ (Below_drew1 (Below.refl _ _))).mono ?_); rintro e w3 ⟨a5, n5, c5, rfl, hv, hb⟩
         have R := hid (show VecR true RS W (.returned (.slice a5 n5 c5)) w3 from ⟨_, _, _, rfl, hv, (Below_drew1 (Below.refl _ _)).trans hb⟩)
         have hB := (hb.cell (p := ⟨B, 0, none⟩) hBl).trans hB
         have hB' := (hb.cell (p := ⟨B', 0, none⟩) hBl').trans hB'
         have q0 := (hb.cell (p := ⟨g, o + i, none⟩) hg).trans q0
         clear hv hb))
  all_goals
    clear hB hB' q0
    go_wp2
    go_ret
    exact R.out
set_option maxRecDepth 100000 in
set_option maxHeartbeats 6400000 in
theorem impl_MatCols {a b : Option Addr} {n c m d : Nat} {M : List (List Fq)} {cs : List Int} {lo hi : Nat} (hM : Sm2 M) (hcs : cs.length ≤ 1048576) (w : World) (h : MW w a n M lo hi) (h' : RowI w b m cs) :
    Calls Tryz.prog 17 #[.slice a n c, .slice b m d] w (MatG (matC M cs) w) := by
  have BW := hid (below_new2 (w := w) (o := .cells #[.slice a n c] 23) (o' := .cells #[.slice b m d] 36))
  have HBc := hid (show ((w.alloc (.cells #[.slice a n c] 23)).alloc (.cells #[.slice b m d] 36)).cell? ⟨w.heap.size, 0, none⟩ = some (.slice a n c) by
    refine ((below_new' (w := w.alloc (.cells #[.slice a n c] 23)) (o := .cells #[.slice b m d] 36)).cell (p := ⟨w.heap.size, 0, none⟩) (by simp)).trans ?_
    simp)
  have HBd := hid (show ((w.alloc (.cells #[.slice a n c] 23)).alloc (.cells #[.slice b m d] 36)).cell? ⟨w.heap.size + 1, 0, none⟩ = some (.slice b m d) by simp)
  have HS := hid (show ((w.alloc (.cells #[.slice a n c] 23)).alloc (.cells #[.slice b m d] 36)).heap.size = w.heap.size + 2 by simp)
  have HV := hid (h.old BW.out)
  have HR := hid (RowI_old h' BW.out)
  obtain rfl := h.num
  obtain rfl := h'.1
  clear h h'
  have hkl := hM.2
  generalize hWW : (w.alloc (.cells #[.slice a M.length c] 23)).alloc (.cells #[.slice b cs.length d] 36) = W at BW HBc HBd HS HV HR
  have HWW := hid hWW
  clear hWW
  have KO := hid (impl_MatOk (c := c) hM W HV.out)
  have q0 := HBc.out
  have q1 := HBd.out
  obtain ⟨RS, hRS⟩ : ∃ RS, RS = matC M cs := ⟨_, rfl⟩
  rw [← hRS]
  have HRS := hid hRS
  clear hRS
  cases hok : matOk M with
  | false =>
    rw [hok] at KO
    have HR0 := hid (show RS = [] by rw [HRS.out]; unfold matC; rw [hok, if_neg (by simp)])
    clear hok
    go_enter Tryz.func17, Tryz.ntmps17
    go_wp2_with fail
    rw [HWW.out]
    (with_reducible refine (KO.out).mono ?_)
    rintro e w2 ⟨rfl, hb⟩
    have R := hid (show MatG RS w (.returned (.slice none 0 0)) w2 by rw [HR0.out]; exact MatG_nil w (BW.out.trans (hb.mono BW.out.size)))
    clear hb q0 q1
    go_wp2
    go_ret
    exact R.out
  | true =>
    rw [hok] at KO
    have hn40 := matOk_n hok
    have hw40 := matOk_w hok
    have HOK := hid hok
    clear hok
    by_cases hl : cs.length ≤ 40
    · have KW := hid (fun (U : World) (hb : Below W.heap.size W U) => impl_matWidth (c := c) hM U (HV.out.old hb))
      obtain ⟨Wd, hWd⟩ : ∃ Wd, matW M = Wd := ⟨_, rfl⟩
      rw [hWd] at KW hw40
      have HWd := hid hWd
      clear hWd
      have h4 : ¬ (40 : Int) < cs.length := by omega
      go_enter Tryz.func17, Tryz.ntmps17
      go_wp2_with fail
      rw [HWW.out]
      (with_reducible refine (KO.out).mono ?_)
      rintro e w2 ⟨rfl, hb⟩
      have HB2 := hid hb
      have q0 := (hb.cell (p := ⟨w.heap.size, 0, none⟩) (by rw [HS.out]; simp)).trans q0
      have q1 := (hb.cell (p := ⟨w.heap.size + 1, 0, none⟩) (by rw [HS.out]; simp)).trans q1
      clear hb
      go_wp2
      go_loopw [17] (fun i wr => ∃ k : Nat, k ≤ cs.length ∧ i = .int .i64 k ∧ Hid (∀ j (h : j < cs.length), j < k → 0 ≤ cs[j] ∧ cs[j] < (Wd : Int)) ∧ Below W.heap.size W wr) (fun i _ => cs.length - (intOf i).toNat)
      case atStart => exact ⟨0, Nat.zero_le _, rfl, hid (fun j h hj => absurd hj (by omega)), HB2.out⟩
      case round =>
        obtain ⟨k, hk, rfl, hA, hbel⟩ := hrel
        have HB3 := hid (BW.out.trans (hbel.mono BW.out.size))
        have q0 := (hbel.cell (p := ⟨w.heap.size, 0, none⟩) (by rw [HS.out]; simp)).trans HBc.out
        have q1 := (hbel.cell (p := ⟨w.heap.size + 1, 0, none⟩) (by rw [HS.out]; simp)).trans HBd.out
        have KW2 := hid (KW.out wr hbel)
        by_cases hlt : k < cs.length
        · obtain ⟨g, o, rfl, hg, hcell⟩ := (RowI_old HR.out hbel).2 (by omega)
          have q2 := hcell k hlt
          have a1' : (0 : Int) ≤ k := by omega
          have a2 : (k : Int) < cs.length := by omega
          have HBL := hid hbel
          clear hcell hbel
          by_cases hr : cs[k] < 0 ∨ (Wd : Int) ≤ cs[k]
          · have R := hid (show MatG RS w (.returned (.slice none 0 0)) wr by
              have hno : ¬ ((matOk M = true ∧ cs.length ≤ 40) ∧ colsIn cs (matW M) = true) := by
                rw [HWd.out, colsIn_no hlt hr]; simp
              rw [HRS.out]; unfold matC; rw [if_neg hno]; exact MatG_nil w HB3.out)
            rcases hr with hr | hr
            · go_wp2
              go_ret
              exact R.out
            · have hr2 : ¬ cs[k] < 0 := by omega
              go_wp2_with fail
              (with_reducible refine (KW2.out).mono ?_)
              rintro e w3 ⟨rfl, rfl⟩
              go_wp2
              go_ret
              exact R.out
          · have hr1 : ¬ cs[k] < 0 := by omega
            have hr2 : ¬ (Wd : Int) ≤ cs[k] := by omega
            have hr3 : cs[k] < (Wd : Int) := by omega
            have HA2 := hid (fun (j : Nat) (h : j < cs.length) (hj : j < k + 1) => show 0 ≤ cs[j] ∧ cs[j] < (Wd : Int) from by
              rcases Nat.lt_or_eq_of_le (Nat.le_of_lt_succ hj) with hj' | rfl
              · exact hA.out j h hj'
              · exact ⟨by omega, hr3⟩)
            clear hr
            go_wp2_with fail
            (with_reducible refine (KW2.out).mono ?_)
            rintro e w3 ⟨rfl, rfl⟩
            clear q0 q1 q2
            go_wp2
            go_roundw
            case rel => exact ⟨k + 1, by omega, by go_num, HA2, HBL.out⟩
            case measure => simp [intOf]; omega
        · obtain rfl : k = cs.length := by omega
          have HCI := hid (show colsIn cs Wd = true from colsIn_yes fun j h => hA.out j h h)
          have HRS2 := hid (show RS = bmF M.length cs.length (fun i => pick cs (M.getD i [])) by
            rw [HRS.out]
            unfold matC
            rw [HWd.out, if_pos ⟨⟨HOK.out, hl⟩, HCI.out⟩, bmF_yes fun i _ => pick_len _ _]
            apply List.ext_getElem?
            intro j
            by_cases hj : j < M.length
            · simp [hj]
            · simp [hj])
          have KB := hid (buildMat_any hn40 hl 48 #[.pointer (some ⟨w.heap.size, 0, none⟩), .pointer (some ⟨w.heap.size + 1, 0, none⟩)] (fun i => pick cs (M.getD i [])) wr (fun args W => enter_of Tryz.func48 (by kernel_rfl) rfl args W)
            (fun i hi V hv => by
              have hb := hbel.trans (hv.mono hbel.size)
              have e : M.getD i [] = M[i] := by simp [hi]
              rw [e]
              exact cols_row (c := c) (d := d) hM (by omega) V ((hb.cell (p := ⟨w.heap.size, 0, none⟩) (by rw [HS.out]; simp)).trans HBc.out) ((hb.cell (p := ⟨w.heap.size + 1, 0, none⟩) (by rw [HS.out]; simp)).trans HBd.out)
                (by have := hb.size; have := HS.out; omega) (by have := hb.size; have := HS.out; omega) (HV.out.old hb) (RowI_old HR.out hb) hi (fun k hk => by have h1 := colsIn_at HCI.out hk; have h2 := (matOk_row HOK.out hi).1; rw [HWd.out] at h2; rw [h2]; exact h1)))
          rw [← HRS2.out] at KB
          have HZ := hid (show w.heap.size ≤ wr.heap.size from HB3.out.size)
          clear hbel
          go_wp2_with fail
          (with_reducible refine (KB.out).mono ?_)
          rintro e w3 ⟨a5, n5, c5, rfl, hv, hb⟩
          have R := hid (show MatG RS w (.returned (.slice a5 n5 c5)) w3 from ⟨_, _, _, rfl, hv.wide HZ.out (Nat.le_refl _), HB3.out.trans (hb.mono HZ.out)⟩)
          clear hv hb q0 q1
          go_wp2
          go_ret
          exact R.out
    · have h4 : (40 : Int) < cs.length := by omega
      have HR0 := hid (show RS = [] by rw [HRS.out]; unfold matC; rw [if_neg (by omega)])
      clear hl
      go_enter Tryz.func17, Tryz.ntmps17
      go_wp2_with fail
      rw [HWW.out]
      (with_reducible refine (KO.out).mono ?_)
      rintro e w2 ⟨rfl, hb⟩
      have q1 := (hb.cell (p := ⟨w.heap.size + 1, 0, none⟩) (by rw [HS.out]; simp)).trans q1
      have R := hid (show MatG RS w (.returned (.slice none 0 0)) w2 by rw [HR0.out]; exact MatG_nil w (BW.out.trans (hb.mono BW.out.size)))
      clear hb q0
      go_wp2
      go_ret
      exact R.out
end Go.Proofs.YtdffmeinofgdgaaGreat
