/- Matrices transposed; columns of a matrix (the program). -/
import Derived.Test.YtdffmeinofgdgaaGreatXd
import Derived.StillTailTactics
namespace Go.Proofs.YtdffmeinofgdgaaGreat
open Go.RowKit
open Go.Lib (hid)
set_option linter.unusedVariables false

theorem elt_take {M : List (List Fq)} {F : List Fq → Fq} {k : Nat} (h : k < M.length) : (M.map F).take k ++ [F M[k]] = (M.map F).take (k + 1) := by
  rw [List.take_succ_eq_append_getElem (by simpa using h), List.getElem_map]
set_option maxRecDepth 100000 in
set_option maxHeartbeats 6400000 in
theorem copyCol_any {a : Option Addr} {n c : Nat} {M : List (List Fq)} {lo hi col : Nat} (hM : Sm2 M) (hcol : col ≤ 1048576) (w : World) (h : MW w a n M lo hi) (hc : ∀ k (hk : k < M.length), col < M[k].length) :
    Calls Tryz.prog 41 #[.slice a n c, .int .i64 (col : Int)] w (VecR true (M.map fun K => elt K col) w) := by
  have HV := hid h
  have HCo := hid hc
  obtain rfl := h.num
  clear h hc
  have hkl := hM.2
  obtain ⟨RS, hRS⟩ : ∃ RS, RS = M.map fun K => elt K col := ⟨_, rfl⟩
  rw [← hRS]
  have HRS := hid hRS
  have HRL := hid (show RS.length = M.length by rw [hRS, List.length_map])
  clear hRS
  go_enter Tryz.func41, Tryz.ntmps41
  go_wp2
  go_loopw [5, 10] (fun v i wr => ∃ (k : Nat) (a' : Option Addr) (c' : Nat), k ≤ M.length ∧ i = .int .i64 k ∧ v = .slice a' k c' ∧ Hid (VK true wr (.slice a' k c') (RS.take k) w.heap.size wr.heap.size) ∧ Below w.heap.size w wr) (fun _ i _ => M.length - (intOf i).toNat)
  case atStart => exact ⟨0, none, 0, Nat.zero_le _, rfl, rfl, hid (VK_nil _ _ _ _), Below.refl _ _⟩
  case round =>
    obtain ⟨k, a', c', hk, rfl, rfl, hV, hbel⟩ := hrel
    have HB := hid hbel
    by_cases hlt : k < M.length
    · obtain ⟨g, o, b, d, rfl, hg, q0, V⟩ := (HV.out.old hbel).at hlt
      have hcl := HCo.out k hlt
      have hel := elt_at hcl
      have hSK := hM.at hlt
      have hsn := elt_take (F := fun K => elt K col) hlt
      rw [← HRS.out] at hsn
      obtain ⟨K, hKK⟩ : ∃ K, M[k]'(hlt) = K := ⟨_, rfl⟩
      simp only [hKK] at q0 V hcl hel hSK hsn
      obtain ⟨g1, p1, a3, n3, c3, b3, m3, d3, rfl, hg1, q1, q2, q3, R⟩ := V.at hSK hcl
      rw [hel] at hsn
      obtain ⟨⟨s, A, D⟩, hf⟩ : ∃ f, K[col]'hcl = f := ⟨_, rfl⟩
      simp only [hf] at q1 R hsn
      have HSN := hid hsn
      have KF := hid (copy_f (s := s) R)
      have a1' : (0 : Int) ≤ k := by omega
      have a2 : (k : Int) < M.length := by omega
      have a3' : (0 : Int) ≤ col := by omega
      have a4 : (col : Int) < K.length := by omega
      have hz := hbel.size
      have hkM := hid hlt
      clear hbel hel hf hsn R V hKK
      go_wp2_with fail
      (with_reducible refine (KF.out).mono ?_)
      rintro e w2 ⟨x1, x2, x3, x4, rfl, hr, hb⟩
      have V2 := hid (hV.out.old hb)
      have R2 := hid hr
      have hz2 := hb.size
      have HB2 := hid ((HB.out.trans (hb.mono hz)).alloc (Nat.le_trans hz hz2) (.cells #[.bool s, .slice x1 A.length x2, .slice x3 D.length x4] 65))
      clear hr hb q0 q1 q2 q3
      have PV := hid (V2.out.old (below_new' (o := .cells #[.bool s, .slice x1 A.length x2, .slice x3 D.length x4] 65)))
      have PR := hid (R2.out.old (below_new' (o := .cells #[.bool s, .slice x1 A.length x2, .slice x3 D.length x4] 65)))
      have PB := hid (heap_alloc_new w2 (.cells #[.bool s, .slice x1 A.length x2, .slice x3 D.length x4] 65))
      have hln := hid (show (RS.take k).length = k by rw [List.length_take, HRL.out]; omega)
      go_wp2_with (at_builtin; refine wpList_pushF rfl _ _ rfl rfl PV.out (Nat.le_refl _) hz PR.out rfl PB.out (by rw [hln.out]; omega) (by simp; omega) (n := k + 1) (by rw [hln.out]) ?_)
      intro gp cp wp hvp hbp
      rw [HSN.out] at hvp
      have HB3 := hid (HB2.out.trans hbp)
      have HV3 := hid hvp
      clear hvp hbp
      go_wp2
      go_roundw
      case rel => exact ⟨k + 1, some ⟨gp, 0, none⟩, cp, by omega, by go_num, rfl, HV3, HB3.out⟩
      case measure => simp [intOf]; omega
    · obtain rfl : k = M.length := by omega
      have R := hid (show VecR true RS w (.returned (.slice a' M.length c')) wr from ⟨_, _, _, rfl, by have h1 := hV.out; rwa [List.take_of_length_le (by rw [HRL.out]; exact Nat.le_refl _)] at h1, HB.out⟩)
      clear hbel
      go_wp2
      go_ret
      exact R.out
theorem col_row {B : Nat} {a : Option Addr} {n c : Nat} {M : List (List Fq)} {lo hi : Nat} {i : Nat} (hM : Sm2 M) (hi' : i ≤ 1048576) (W : World) (hB : W.cell? ⟨B, 0, none⟩ = some (.slice a n c)) (h : MW W a n M lo hi) (hc : ∀ k (hk : k < M.length), i < M[k].length) :
    Calls Tryz.prog 40 #[.int .i64 (i : Int), .pointer (some ⟨B, 0, none⟩)] W (VecR true (M.map fun K => elt K i) W) := by
  have KE := hid (copyCol_any (c := c) hM hi' W h hc)
  clear h hc
  go_enter Tryz.func40, Tryz.ntmps40
  go_wp2_with fail
  (with_reducible refine (KE.out).mono ?_)
  rintro e w2 ⟨a5, n5, c5, rfl, hv, hb⟩
  have R := hid (show VecR true (M.map fun K => elt K i) W (.returned (.slice a5 n5 c5)) w2 from ⟨_, _, _, rfl, hv, hb⟩)
  clear hv hb
  go_wp2
  go_ret
  exact R.out
set_option maxRecDepth 100000 in
set_option maxHeartbeats 6400000 in
theorem impl_MatTranspose {a : Option Addr} {n c : Nat} {M : List (List Fq)} {lo hi : Nat} (hM : Sm2 M) (w : World) (h : MW w a n M lo hi) :
    Calls Tryz.prog 12 #[.slice a n c] w (MatG (matT M) w) := by
  have BW := hid (below_new' (w := w) (o := .cells #[.slice a n c] 23))
  have HBc := hid (show (w.alloc (.cells #[.slice a n c] 23)).cell? ⟨w.heap.size, 0, none⟩ = some (.slice a n c) by simp)
  have HS := hid (show (w.alloc (.cells #[.slice a n c] 23)).heap.size = w.heap.size + 1 by simp)
  have HV := hid (h.old BW.out)
  obtain rfl := h.num
  clear h
  have hkl := hM.2
  generalize hWW : w.alloc (.cells #[.slice a M.length c] 23) = W at BW HBc HS HV
  have HWW := hid hWW
  clear hWW
  have KO := hid (impl_MatOk (c := c) hM W HV.out)
  have q0 := HBc.out
  cases hok : matOk M with
  | false =>
    rw [hok] at KO
    have HR := hid (show matT M = [] by unfold matT; rw [hok, if_neg (by decide)])
    rw [HR.out]
    clear hok HR
    go_enter Tryz.func12, Tryz.ntmps12
    go_wp2_with fail
    rw [HWW.out]
    (with_reducible refine (KO.out).mono ?_)
    rintro e w2 ⟨rfl, hb⟩
    have R := hid (MatG_nil w (BW.out.trans (hb.mono BW.out.size)))
    clear hb q0
    go_wp2
    go_ret
    exact R.out
  | true =>
    rw [hok] at KO
    have hn40 := matOk_n hok
    have hw40 := matOk_w hok
    have HR := hid (show matT M = bmF (matW M) M.length (fun i => M.map fun K => elt K i) by
      unfold matT
      rw [if_pos hok, bmF_yes fun i _ => by rw [List.length_map]])
    rw [HR.out]
    clear HR
    have KB := hid (fun (U : World) (hb : Below W.heap.size W U) => buildMat_any hw40 hn40 40 #[.pointer (some ⟨w.heap.size, 0, none⟩)] (fun i => M.map fun K => elt K i) U (fun args W => enter_of Tryz.func40 (by kernel_rfl) rfl args W)
      (fun i hi V hv => col_row hM (by omega) V (((hb.trans (hv.mono hb.size)).cell (p := ⟨w.heap.size, 0, none⟩) (by rw [HS.out]; simp)).trans HBc.out) (HV.out.old (hb.trans (hv.mono hb.size))) (fun k hk => by have := matOk_row hok hk; omega)))
    have KW := hid (fun (U : World) (hb : Below W.heap.size W U) => impl_matWidth (c := c) hM U (HV.out.old hb))
    generalize matW M = Wd at KB KW hw40 ⊢
    generalize bmF Wd M.length (fun i => M.map fun K => elt K i) = RS at KB ⊢
    clear hok
    go_enter Tryz.func12, Tryz.ntmps12
    go_wp2_with fail
    rw [HWW.out]
    (with_reducible refine (KO.out).mono ?_)
    rintro e w2 ⟨rfl, hb⟩
    have HB2 := hid hb
    have q0 := (hb.cell (p := ⟨w.heap.size, 0, none⟩) (by rw [HS.out]; simp)).trans q0
    have HB3 := hid (BW.out.trans (hb.mono BW.out.size))
    have HS3 := hid (show w.heap.size ≤ w2.heap.size from HB3.out.size)
    have HS4 := hid (show w.heap.size < w2.heap.size by have := hb.size; have := HS.out; omega)
    clear hb
    go_wp2_with fail
    go_region_held3 (fun w' => w'.cell? ⟨w.heap.size, 0, none⟩ = some (.slice a M.length c)) (first | with_reducible exact q0 | go_keep)
      (first
        | (go_at_call 34; (with_reducible refine (KW.out _ (Below_drew1 HB2.out)).mono ?_); rintro e w3 ⟨rfl, rfl⟩)
        | (go_at_call 35; (with_reducible refine (KB.out _ (Below_drew1 HB2.out)).mono ?_); rintro e w3 ⟨a5, n5, c5, rfl, hv, hb⟩
           have R := hid (show MatG RS w (.returned (.slice a5 n5 c5)) w3 from ⟨_, _, _, rfl, hv.wide HS3.out (Nat.le_refl _), (Below_drew1 HB3.out).trans (hb.mono HS3.out)⟩)
           have q0 := (hb.cell (p := ⟨w.heap.size, 0, none⟩) HS4.out).trans q0
           clear hv hb))
    all_goals
      clear q0
      go_wp2
      go_ret
      exact R.out
end Go.Proofs.YtdffmeinofgdgaaGreat
