/- Products of matrices and vectors (the reference). -/
import Derived.Test.YtdffmeinofgdgaaGreatXw
import Derived.Test.YtdffmeinofgdgaaGreatXo
import Derived.Test.YtdffmeinofgdgaaGreatVdv
import Derived.Deep.RegionHeld3
import Derived.Deep.RegionLaw
import Derived.Deep.DeepCutAuto
namespace Go.Proofs.YtdffmeinofgdgaaGreat
open Go.RowKit
open Go.Lib (hid)
set_option linter.unusedVariables false

set_option maxRecDepth 100000 in
set_option maxHeartbeats 6400000 in
theorem spec_MatVec {p q : Bool} {a b : Option Addr} {n c m d : Nat} {M : List (List Fq)} {V : List Fq} {lo hi lo' hi' : Nat} (hM : Sm2 M) (hV : Sm V) (w : World) (h : MK p w (.slice a n c) M lo hi) (h' : VK q w (.slice b m d) V lo' hi') :
    Calls Tryz.prog 20 #[.slice a n c, .slice b m d] w (VecR false (matV M V) w) := by
  have BW := hid (below_new' (w := w) (o := .cells #[] 65))
  have HS := hid (show (w.alloc (.cells #[] 65)).heap.size = w.heap.size + 1 by simp)
  have HL := hid (VK_lit0 false (w := w) (lo := w.heap.size) (Nat.le_refl _))
  have HM := hid (h.old BW.out)
  have HV := hid h
  have HW := hid h'
  obtain rfl := h.num
  obtain rfl := h'.num
  clear h h'
  have hkl := hM.2
  have hvl := hV.2
  obtain ⟨RS, hRS⟩ : ∃ RS, RS = matV M V := ⟨_, rfl⟩
  rw [← hRS]
  have HRS := hid hRS
  clear hRS
  generalize hWW : w.alloc (.cells #[] 65) = W at BW HS HL HM
  have HWW := hid hWW
  clear hWW
  have KO := hid (spec_MatOk hM W HM.out)
  cases hok : matOk M with
  | false =>
    rw [hok] at KO
    have HR0 := hid (show RS = [] by rw [HRS.out]; unfold matV; rw [hok, if_neg (by decide)])
    clear hok
    go_enter Tryz.func20, Tryz.ntmps20
    go_wp2_with fail
    rw [HWW.out]
    (with_reducible refine (KO.out).mono ?_)
    rintro e w2 ⟨rfl, hb⟩
    have R := hid (show VecR false RS w (.returned (.slice none 0 0)) w2 by rw [HR0.out]; exact ⟨_, _, _, rfl, VK_nil _ _ _ _, BW.out.trans (hb.mono BW.out.size)⟩)
    clear hb
    go_wp2
    go_ret
    exact R.out
  | true =>
    rw [hok] at KO
    obtain ⟨os, hos⟩ : ∃ os, os = M.map fun K => dotO K V := ⟨_, rfl⟩
    have HFit := hid (show ∀ o ∈ os, fitO o by rw [hos]; exact dots_fit M V)
    have HOL := hid (show os.length = M.length by rw [hos, List.length_map])
    have HOA := hid (fun k (h : k < M.length) (h' : k < os.length) => show os[k] = dotO M[k] V by simp [hos])
    have HR1 := hid (show RS = vres os by rw [HRS.out]; unfold matV; rw [if_pos hok, hos])
    clear hok hos
    go_enter Tryz.func20, Tryz.ntmps20
    go_wp2_with fail
    rw [HWW.out]
    (with_reducible refine (KO.out).mono ?_)
    rintro e w2 ⟨rfl, hb⟩
    have HB2 := hid hb
    clear hb
    go_wp2
    go_loopw [5, 14] (fun v i wr => ∃ (k : Nat) (a' : Option Addr) (c' : Nat), k ≤ M.length ∧ i = .int .i64 k ∧ v = .slice a' k c' ∧ Hid (VK false wr (.slice a' k c') ((os.take k).map fqo) w.heap.size wr.heap.size) ∧ Below w.heap.size w wr) (fun _ i _ => M.length - (intOf i).toNat)
    case atStart => exact ⟨0, some ⟨w.heap.size, 0, none⟩, 0, Nat.zero_le _, rfl, rfl, hid ((HL.out.old (HB2.out.mono (by rw [HS.out]; exact Nat.le_refl _))).wide (Nat.le_refl _) (by have := HB2.out.size; have := HS.out; omega)), BW.out.trans (HB2.out.mono BW.out.size)⟩
    case round =>
      obtain ⟨k, a', c', hk, rfl, rfl, hA, hbel⟩ := hrel
      have HB := hid hbel
      have hz := hbel.size
      by_cases hlt : k < M.length
      · obtain ⟨g, b1, d1, l1, h1, rfl, hg, q0, X⟩ := (HV.out.old hbel).at hlt
        have hSK := hM.at hlt
        have hko : k < os.length := by rw [HOL.out]; exact hlt
        have hoo := HOA.out k hlt hko
        obtain ⟨K, hKK⟩ : ∃ K, M[k]'(hlt) = K := ⟨_, rfl⟩
        simp only [hKK] at q0 X hSK hoo
        have KF := hid (spec_VecDot hSK hV wr X (HW.out.old hbel))
        generalize dotO K V = oo at KF hoo
        have HTM := hid (take_map hko hoo)
        have hln := hid (show ((os.take k).map fqo).length = k by rw [List.length_map, List.length_take, HOL.out]; omega)
        have a1' : (0 : Int) ≤ k := by omega
        have a2 : (k : Int) < M.length := by omega
        clear hbel hKK X hoo
        go_wp2_with fail
        (with_reducible refine (KF.out).mono ?_)
        rintro e w2 ⟨s4, a4, n4, c4, b4, m4, d4, rfl, hr, hb⟩
        have V2 := hid (hA.out.old hb)
        have R2 := hid hr
        have hz2 := hb.size
        have HB2 := hid ((HB.out.trans (hb.mono hz)).alloc (Nat.le_trans hz hz2) (.cells #[.bool s4, .slice a4 n4 c4, .slice b4 m4 d4] 65))
        clear hr hb q0
        have PV := hid (V2.out.old (below_new' (o := .cells #[.bool s4, .slice a4 n4 c4, .slice b4 m4 d4] 65)))
        have PR := hid (R2.out.old (below_new' (o := .cells #[.bool s4, .slice a4 n4 c4, .slice b4 m4 d4] 65)))
        have PB := hid (heap_alloc_new w2 (.cells #[.bool s4, .slice a4 n4 c4, .slice b4 m4 d4] 65))
        go_wp2_with (at_builtin; refine wpList_pushN rfl _ _ rfl rfl PV.out (Nat.le_refl _) hz PR.out rfl PB.out (by rw [hln.out]; omega) (by simp; omega) (n := k + 1) (by rw [hln.out]) ?_)
        intro gp cp wp hvp hbp
        rw [← List.map_take, HTM.out] at hvp
        have HB3 := hid (HB2.out.trans hbp)
        have HV3 := hid hvp
        clear hvp hbp
        go_wp2
        go_roundw
        case rel => exact ⟨k + 1, some ⟨gp, 0, none⟩, cp, by omega, by go_num, rfl, HV3, HB3.out⟩
        case measure => simp [intOf]; omega
      · obtain rfl : k = M.length := by omega
        have KZ := hid (l06Ok_R (w := w) (wr := wr) HFit.out (by rw [HOL.out]; exact hkl) (by have h1 := hA.out; rwa [List.take_of_length_le (by rw [HOL.out]; exact Nat.le_refl _)] at h1) HB.out)
        rw [← HR1.out] at KZ
        clear hbel
        go_wp2_with fail
        (with_reducible refine (KZ.out).mono ?_)
        rintro e w3 ⟨a5, n5, c5, rfl, hv5, hb5⟩
        have R := hid (show VecR false RS w (.returned (.slice a5 n5 c5)) w3 from ⟨_, _, _, rfl, hv5, hb5⟩)
        clear hv5 hb5
        go_wp2
        go_ret
        exact R.out
theorem spec_l08Ok {p : Bool} {a : Option Addr} {n c : Nat} {M : List (List Fq)} {lo hi : Nat} (hM : Sm2 M) (hok : matOk M = true) (w : World) (h : MK p w (.slice a n c) M lo hi) :
    Calls Tryz.prog 62 #[.slice a n c] w (RetB (.slice a n c) w) := by
  have KO := hid (spec_MatOk hM w h)
  rw [hok] at KO
  clear h hok
  go_enter Tryz.func62, Tryz.ntmps62
  go_wp2_with fail
  (with_reducible refine (KO.out).mono ?_)
  rintro e w2 ⟨rfl, hb⟩
  have HB := hid hb
  clear hb
  go_wp2
  go_ret
  exact ⟨rfl, HB.out⟩
theorem mulF_comm (x y : Rat) : mulF x y = mulF y x := by rw [mulF, mulF, Rat.mul_comm]
theorem bq_comm {f : Rat → Rat → Option Rat} (h : ∀ x y, f x y = f y x) : ∀ (a b : Option Rat), bq f a b = bq f b a
  | none, none => rfl
  | none, some _ => rfl
  | some _, none => rfl
  | some x, some y => h x y
theorem bq_mul_comm (a b : Option Rat) : bq mulF a b = bq mulF b a := bq_comm mulF_comm a b
/-- The first j elements of the one list, the others of the other. -/
def mixL {α : Type} (S S' : List α) (j : Nat) : List α := S'.take j ++ S.drop j
theorem mixL_zero {α : Type} (S S' : List α) : mixL S S' 0 = S := by simp [mixL]
theorem mixL_all {α : Type} {S S' : List α} {W : Nat} (h : S.length = W) (h' : S'.length = W) : mixL S S' W = S' := by
  simp only [mixL]
  rw [List.take_of_length_le (by omega), List.drop_eq_nil_of_le (by omega), List.append_nil]
theorem mixL_len {α : Type} {S S' : List α} {W j : Nat} (h : S.length = W) (h' : S'.length = W) (hj : j ≤ W) : (mixL S S' j).length = W := by simp [mixL]; omega
theorem mixL_at {α : Type} {S S' : List α} {W j : Nat} (h : S.length = W) (h' : S'.length = W) (hj : j < W) : (mixL S S' j)[j]'(by rw [mixL_len h h' (by omega)]; exact hj) = S[j] := by
  have hl : (S'.take j).length = j := by rw [List.length_take]; omega
  simp only [mixL]
  rw [List.getElem_append_right (by omega)]
  simp [hl]
theorem mixL_set {α : Type} {S S' : List α} {W j : Nat} (h : S.length = W) (h' : S'.length = W) (hj : j < W) : (mixL S S' j).set j S'[j] = mixL S S' (j + 1) := by
  have hl : (S'.take j).length = j := by rw [List.length_take]; omega
  simp only [mixL]
  rw [List.set_append_right j _ (by omega), hl, Nat.sub_self, List.drop_eq_getElem_cons (by omega), List.set_cons_zero, List.take_succ_eq_append_getElem (by omega), List.append_assoc]
  rfl
theorem mixL_fit {S S' : List (Option Rat)} {j : Nat} (h : ∀ o ∈ S, fitO o) (h' : ∀ o ∈ S', fitO o) : ∀ o ∈ mixL S S' j, fitO o := fun o ho => by
  rcases List.mem_append.1 ho with ho | ho
  · exact h' o (List.mem_of_mem_take ho)
  · exact h o (List.mem_of_mem_drop ho)
theorem colS_at {W : Nat} {M : List (List Fq)} {V : List Fq} (h : ∀ k (hk : k < M.length), M[k].length = W) {k j : Nat} (hk : k < M.length) (hj : j < W) (hs : j < (colS W M V k).length) (hs' : j < (colS W M V (k + 1)).length) (hr : j < M[k].length) :
    (colS W M V (k + 1))[j] = bq addF ((colS W M V k)[j]) (bq mulF (elt V k).o (elt M[k] j).o) := by
  rw [elt_at hr]
  simp only [colS, List.getElem_zipWith, smO, List.getElem_map, getD_at hk]
  rw [bq_mul_comm]
set_option maxRecDepth 100000 in
set_option maxHeartbeats 25600000 in
theorem spec_VecMat {p q : Bool} {a b : Option Addr} {n c m d : Nat} {M : List (List Fq)} {V : List Fq} {lo hi lo' hi' : Nat} (hV : Sm V) (hM : Sm2 M) (w : World) (h : VK q w (.slice b m d) V lo' hi') (h' : MK p w (.slice a n c) M lo hi) :
    Calls Tryz.prog 28 #[.slice b m d, .slice a n c] w (VecR false (vecM V M) w) := by
  have HV := hid h
  have HW := hid h'
  obtain rfl := h.num
  obtain rfl := h'.num
  clear h h'
  have hkl := hM.2
  have hvl := hV.2
  have KV := hid (fun (U : World) (hb : Below w.heap.size w U) => spec_VecOk hV U (HV.out.old hb))
  have KO := hid (spec_MatOk hM w HW.out)
  obtain ⟨RS, hRS⟩ : ∃ RS, RS = vecM V M := ⟨_, rfl⟩
  rw [← hRS]
  have HRS := hid hRS
  clear hRS
  cases hok : matOk M with
  | false =>
    rw [hok] at KO
    have HR0 := hid (show RS = [] by rw [HRS.out]; unfold vecM; rw [hok, if_neg (by simp)])
    clear hok
    go_enter Tryz.func28, Tryz.ntmps28
    go_wp2_with fail
    (with_reducible refine (KO.out).mono ?_)
    rintro e w2 ⟨rfl, hb⟩
    have R := hid (show VecR false RS w (.returned (.slice none 0 0)) w2 by rw [HR0.out]; exact ⟨_, _, _, rfl, VK_nil _ _ _ _, hb⟩)
    clear hb
    go_wp2
    go_ret
    exact R.out
  | true =>
    rw [hok] at KO
    cases hov : oks (vals V) with
    | false =>
      rw [hov] at KV
      have HR0 := hid (show RS = [] by rw [HRS.out]; unfold vecM; rw [hov, if_neg (by simp)])
      clear hok hov
      go_enter Tryz.func28, Tryz.ntmps28
      go_wp2_with fail
      (with_reducible refine (KO.out).mono ?_)
      rintro e w2 ⟨rfl, hb⟩
      have HB := hid hb
      clear hb
      go_wp2_with fail
      (with_reducible refine (KV.out _ HB.out).mono ?_)
      rintro e w3 ⟨rfl, hb⟩
      have R := hid (show VecR false RS w (.returned (.slice none 0 0)) w3 by rw [HR0.out]; exact ⟨_, _, _, rfl, VK_nil _ _ _ _, HB.out.trans (hb.mono HB.out.size)⟩)
      clear hb
      go_wp2
      go_ret
      exact R.out
    | true =>
      rw [hov] at KV
      by_cases hl : V.length = M.length
      · have HR0 := hid (show RS = vres (colS (matW M) M V M.length) by rw [HRS.out]; unfold vecM; rw [if_pos ⟨⟨hok, hov⟩, hl⟩])
        by_cases h0 : M.length = 0
        · have HR1 := hid (show RS = [] by rw [HR0.out, matW_nil h0, h0]; rfl)
          have e0 : ((M.length : Int) == 0) = true := by simp [h0]
          rw [hl] at KV HV
          rw [hl]
          clear hok hov hl h0
          go_enter Tryz.func28, Tryz.ntmps28
          go_wp2_with fail
          (with_reducible refine (KO.out).mono ?_)
          rintro e w2 ⟨rfl, hb⟩
          have HB := hid hb
          clear hb
          go_wp2_with fail
          (with_reducible refine (KV.out _ HB.out).mono ?_)
          rintro e w3 ⟨rfl, hb⟩
          have R := hid (show VecR false RS w (.returned (.slice none 0 0)) w3 by rw [HR1.out]; exact ⟨_, _, _, rfl, VK_nil _ _ _ _, HB.out.trans (hb.mono HB.out.size)⟩)
          clear hb
          go_wp2
          go_ret
          exact R.out
        · have e0 : ((M.length : Int) == 0) = false := beq_eq_false_iff_ne.2 (by omega)
          have HM0 := hid (show 0 < M.length by omega)
          have hw40 := matOk_w hok
          have HRow := hid (fun k (hk : k < M.length) => (matOk_row hok hk).1)
          obtain ⟨Wd, hWd⟩ : ∃ Wd, matW M = Wd := ⟨_, rfl⟩
          rw [hWd] at hw40 HR0
          have HRowW := hid (show ∀ k (hk : k < M.length), M[k].length = Wd from fun k hk => by rw [HRow.out k hk, hWd])
          obtain ⟨g0, b0, d0, l0, h0', rfl, hg0, q0, -⟩ := HW.out.at HM0.out
          rw [← matW_at HM0.out, hWd] at q0
          have Q0 := hid q0
          have KZ := hid (fun W => spec_VecZero (Wd : Int) (by omega) (by omega) W)
          have HZ := hid (show zeroK (Wd : Int) = (colS Wd M V 0).map fqo by rw [zeroK_yes hw40]; simp [colS])
          have HCf := hid (colS_fit Wd M V)
          have HCl := hid (colS_len (W := Wd) V HRowW.out)
          have HCa := hid (fun k j (hk : k < M.length) (hj : j < Wd) (hs : j < (colS Wd M V k).length) (hs' : j < (colS Wd M V (k + 1)).length) (hr : j < M[k].length) => colS_at (V := V) HRowW.out hk hj hs hs' hr)
          obtain ⟨S, hS⟩ : ∃ S : Nat → List (Option Rat), S = colS Wd M V := ⟨_, rfl⟩
          rw [← hS] at HR0 HZ HCf HCl HCa
          have HVl := hid hl
          have a0 : (0 : Int) < M.length := by have := HM0.out; omega
          have hg0h := hid hg0
          rw [hl] at KV HV
          rw [hl]
          clear hok hov hl h0 hS hWd q0
          go_enter Tryz.func28, Tryz.ntmps28
          go_wp2_with fail
          (with_reducible refine (KO.out).mono ?_)
          rintro e w2 ⟨rfl, hb⟩
          have HB := hid hb
          clear hb
          go_wp2_with fail
          (with_reducible refine (KV.out _ HB.out).mono ?_)
          rintro e w3 ⟨rfl, hb⟩
          have HB3 := hid (HB.out.trans (hb.mono HB.out.size))
          have q0 := (HB3.out.cell (p := ⟨g0, 0, none⟩) hg0h.out).trans Q0.out
          clear hb
          go_wp2_with fail
          (with_reducible refine (KZ.out _).mono ?_)
          rintro e w4 ⟨av, nv, cv, rfl, hv, hb⟩
          rw [HZ.out] at hv
          obtain rfl : Wd = nv := by have := hv.num; rw [List.length_map, HCl.out 0 (Nat.zero_le _)] at this; exact this.symm
          have HV4 := hid (hv.wide (lo' := w.heap.size) HB3.out.size (Nat.le_refl _))
          have HB4 := hid (HB3.out.trans (hb.mono HB3.out.size))
          clear hv hb q0
          go_wp2
          go_loopw [37] (fun i wr => ∃ k : Nat, k ≤ M.length ∧ i = .int .i64 k ∧ Hid (VK false wr (.slice av Wd cv) ((S k).map fqo) w.heap.size wr.heap.size) ∧ Below w.heap.size w wr) (fun i _ => M.length - (intOf i).toNat)
          case atStart => exact ⟨0, Nat.zero_le _, rfl, HV4, HB4.out⟩
          case round =>
            obtain ⟨k, hk, rfl, hA, hbel⟩ := hrel
            obtain ⟨wo, rfl⟩ : ∃ wo, wo = wr := ⟨_, rfl⟩
            have HBo := hid hbel
            by_cases hlt : k < M.length
            · obtain ⟨g, b1, d1, l1, h1, e, hg, q0, X⟩ := HW.out.at hlt
              obtain ⟨rfl, -⟩ := addr_in e
              have q0 := (hbel.cell (p := ⟨g0, k, none⟩) hg).trans q0
              have hSK := hM.at hlt
              have hKl := HRowW.out k hlt
              have hSl := HCl.out k (by omega)
              have hSl' := HCl.out (k + 1) (by omega)
              have HSl := hid hSl
              have HSl' := hid hSl'
              have hCa : ∀ j (hj : j < Wd), (S (k + 1))[j]'(by rw [HSl'.out]; exact hj) = bq addF ((S k)[j]'(by rw [HSl.out]; exact hj)) (bq mulF (elt V k).o (elt (M[k]'hlt) j).o) := fun j hj => HCa.out k j hlt hj (by rw [hSl]; exact hj) (by rw [hSl']; exact hj) (by rw [hKl]; exact hj)
              have hkv : k < V.length := by have := HVl.out; omega
              have hev := elt_at hkv
              obtain ⟨K, hKK⟩ : ∃ K, M[k]'(hlt) = K := ⟨_, rfl⟩
              simp only [hKK, hev] at q0 X hSK hKl hCa
              obtain ⟨⟨sv, Av, Dv⟩, hfv⟩ : ∃ f, V[k]'(hkv) = f := ⟨_, rfl⟩
              obtain ⟨ov, hov⟩ : ∃ o, Fq.o ⟨sv, Av, Dv⟩ = o := ⟨_, rfl⟩
              simp only [hfv, hov] at hCa
              have HCA := hid hCa
              have HX := hid X
              have HFV := hid hfv
              have HOV := hid hov
              rw [hKl] at q0 HX
              have HKl := hid hKl
              have a1' : (0 : Int) ≤ k := by omega
              have a2 : (k : Int) < M.length := by omega
              clear hbel hKK X hfv hov hev hCa hSl hSl' hKl e
              go_wp2
              clear q0
              go_loopw [44] (fun i wr => ∃ j : Nat, j ≤ Wd ∧ i = .int .i64 j ∧ Hid (VK false wr (.slice av Wd cv) ((mixL (S k) (S (k + 1)) j).map fqo) w.heap.size wr.heap.size) ∧ Below w.heap.size w wr) (fun i _ => Wd - (intOf i).toNat)
              case atStart => exact ⟨0, Nat.zero_le _, rfl, hid (by rw [mixL_zero]; exact hA.out), HBo.out⟩
              case round =>
                obtain ⟨j, hj, rfl, hT, hbi⟩ := hrel
                by_cases hjlt : j < Wd
                · have hkv : k < V.length := by have := HVl.out; omega
                  have hTl := hid (show ((mixL (S k) (S (k + 1)) j).map fqo).length = Wd by rw [List.length_map]; exact mixL_len HSl.out HSl'.out (by omega))
                  have hSmT := hid (Sm.map (mixL_fit (j := j) (HCf.out k) (HCf.out (k + 1))) (by rw [mixL_len HSl.out HSl'.out (by omega)]; omega))
                  have hjT : j < ((mixL (S k) (S (k + 1)) j).map fqo).length := by rw [hTl.out]; exact hjlt
                  obtain ⟨gv, a1, n1, c1, b1', m1, d1', eav, hgv, p0, p1, p2, R1⟩ := hT.out.at hSmT.out hjT
                  have hTm := mixL_at HSl.out HSl'.out hjlt
                  have hTs := mixL_set HSl.out HSl'.out hjlt
                  have hCa := HCA.out j hjlt
                  obtain ⟨o1, ho1⟩ : ∃ o, (S k)[j]'(by rw [HSl.out]; exact hjlt) = o := ⟨_, rfl⟩
                  have hft1 : fitO o1 := by rw [← ho1]; exact HCf.out k _ (List.getElem_mem _)
                  have hf1 : ((mixL (S k) (S (k + 1)) j).map fqo)[j] = fqo o1 := by rw [List.getElem_map, hTm, ho1]
                  simp only [hf1] at p0 R1
                  rw [ho1] at hCa
                  have RA1 := hid (show RA wr (fqo o1).s (.slice a1 n1 c1) (.slice b1' m1 d1') o1 from ⟨_, _, R1, fqo_o hft1⟩)
                  obtain ⟨g2, a2', n2, c2, b2, m2, d2, rfl, hg2, x0, x1, x2, R2⟩ := (HV.out.old hbi).at hV hkv
                  simp only [HFV.out] at x0 R2
                  have RA2 := hid (show RA wr sv (.slice a2' n2 c2) (.slice b2 m2 d2) ov from ⟨_, _, R2, HOV.out⟩)
                  have hjK : j < K.length := by rw [HKl.out]; exact hjlt
                  obtain ⟨g3, a3, n3, c3, b3, m3, d3, rfl, hg3, z0, z1, z2, R3⟩ := (HX.out.old hbi).at hSK hjK
                  obtain ⟨⟨s3, A3, D3⟩, hf3⟩ : ∃ f, K[j]'hjK = f := ⟨_, rfl⟩
                  obtain ⟨o3, ho3⟩ : ∃ o, Fq.o ⟨s3, A3, D3⟩ = o := ⟨_, rfl⟩
                  rw [elt_at hjK] at hCa
                  simp only [hf3, ho3] at z0 R3 hCa
                  have RA3 := hid (show RA wr s3 (.slice a3 n3 c3) (.slice b3 m3 d3) o3 from ⟨_, _, R3, ho3⟩)
                  rw [hCa] at hTs
                  have HTS := hid hTs
                  obtain ⟨ob, hob⟩ : ∃ ob, ob = (Go.Obj.cells #[.bool s3, .slice a3 n3 c3, .slice b3 m3 d3] 65) := ⟨_, rfl⟩
                  have hBW := hid (show Below wr.heap.size wr (wr.alloc ob).drew from Below_drew1 below_new')
                  have hBZ := hid (show (wr.alloc ob).drew.heap.size = wr.heap.size + 1 by show (wr.alloc ob).heap.size = _; simp)
                  have LT := hid (show LocA 65 (wr.alloc ob).drew wr.heap.size #[.bool s3, .slice a3 n3 c3, .slice b3 m3 d3] by rw [hob]; exact LocA.new)
                  have KM := hid (smul_o (w := (wr.alloc ob).drew) (RA2.out.old hBW.out) (RA3.out.old hBW.out))
                  have VD := hid (hT.out.old hBW.out)
                  have HBD := hid (hbi.trans (hBW.out.mono hbi.size))
                  have hzo := hid hbi.size
                  subst eav
                  have hgvh := hid (show gv < (wr.alloc ob).drew.heap.size by rw [hBZ.out]; omega)
                  have hg2h := hid (show g2 < (wr.alloc ob).drew.heap.size by rw [hBZ.out]; omega)
                  have y0 := LT.out.c 0 rfl
                  have y1 := LT.out.c 1 rfl
                  have y2 := LT.out.c 2 rfl
                  have P0 := hid ((hBW.out.cell (p := ⟨gv, j * 3, none⟩) hgv).trans p0)
                  have P1 := hid ((hBW.out.cell (p := ⟨gv, j * 3 + 1, none⟩) hgv).trans p1)
                  have P2 := hid ((hBW.out.cell (p := ⟨gv, j * 3 + 2, none⟩) hgv).trans p2)
                  have X0 := hid ((hBW.out.cell (p := ⟨g2, k * 3, none⟩) hg2).trans x0)
                  have X1 := hid ((hBW.out.cell (p := ⟨g2, k * 3 + 1, none⟩) hg2).trans x1)
                  have X2 := hid ((hBW.out.cell (p := ⟨g2, k * 3 + 2, none⟩) hg2).trans x2)
                  have a1'' : (0 : Int) ≤ j := by omega
                  have a2'' : (j : Int) < Wd := by omega
                  have hlo : w.heap.size ≤ gv := by obtain ⟨E, hE, -⟩ := hT.out; exact (hE.lt gv rfl).1
                  have HLO := hid hlo
                  have HOB := hid hob
                  clear hob hCa hTs hTm hf1 hf3 ho3 ho1 R1 R2 R3 hbi hlo
                  go_wp2_with fail
                  rw [← HOB.out]
                  clear p0 p1 p2 x0 x1 x2 z0 z1 z2
                  have p0 := P0.out
                  have p1 := P1.out
                  have p2 := P2.out
                  have x0 := X0.out
                  have x1 := X1.out
                  have x2 := X2.out
                  go_region_law (first
                    | (go_simp; go_at_call 61; (with_reducible refine (KM.out).mono ?_); rintro e w5 ⟨s5, a5, n5, c5, b5, m5, d5, rfl, hr, hb⟩
                       have KA := hid (sadd_o (w := w5) ((RA1.out.old hBW.out).old hb) hr.ra)
                       have VE := hid (VD.out.old hb)
                       have HBE := hid (HBD.out.trans (hb.mono HBD.out.size))
                       have hz5 := hid hb.size
                       have p0 := (hb.cell (p := ⟨gv, j * 3, none⟩) hgvh.out).trans P0.out
                       have p1 := (hb.cell (p := ⟨gv, j * 3 + 1, none⟩) hgvh.out).trans P1.out
                       have p2 := (hb.cell (p := ⟨gv, j * 3 + 2, none⟩) hgvh.out).trans P2.out
                       clear hr hb)
                    | (go_simp; go_at_call 60; (with_reducible refine (KA.out).mono ?_); rintro e w6 ⟨s6, a6, n6, c6, b6, m6, d6, rfl, hr, hb⟩
                       have VF := hid (VE.out.old hb)
                       have HBG := hid (HBE.out.trans (hb.mono HBE.out.size))
                       have hgv5 : gv < w5.heap.size := Nat.lt_of_lt_of_le hgvh.out hz5.out
                       have p0 := (hb.cell (p := ⟨gv, j * 3, none⟩) hgv5).trans p0
                       have p1 := (hb.cell (p := ⟨gv, j * 3 + 1, none⟩) hgv5).trans p1
                       have p2 := (hb.cell (p := ⟨gv, j * 3 + 2, none⟩) hgv5).trans p2
                       have f0 := VF.out.free (j * 3)
                       have f1 := VF.out.free (j * 3 + 1)
                       have f2 := VF.out.free (j * 3 + 2)
                       have hz6 := hb.size
                       have HP := hid (VF.out.put hjT hr (by have := hz5.out; have := hBZ.out; omega) (by have := hzo.out; have := hz5.out; have := hBZ.out; omega) (by have := hz5.out; have := hBZ.out; omega))
                       have HBN := hid (((HBG.out.setCell (p := ⟨gv, j * 3, none⟩) HLO.out (.bool s6)).setCell (p := ⟨gv, j * 3 + 1, none⟩) HLO.out (.slice a6 n6 c6)).setCell (p := ⟨gv, j * 3 + 2, none⟩) HLO.out (.slice b6 m6 d6))
                       clear hr hb hz6))
                  all_goals
                    go_wp2
                    go_roundw
                    case rel => exact ⟨j + 1, by omega, by go_num, hid (by rw [← HTS.out, List.map_set]; simpa [size_set] using HP.out), HBN.out⟩
                    case measure => simp [intOf]; omega
                · obtain rfl : j = Wd := by omega
                  have HT := hid (show VK false wr (.slice av j cv) ((S (k + 1)).map fqo) w.heap.size wr.heap.size by have := hT.out; rwa [mixL_all HSl.out HSl'.out] at this)
                  have HB5 := hid hbi
                  clear hbi
                  go_wp2
                  go_roundw
                  case rel => exact ⟨k + 1, by omega, by go_num, HT, HB5.out⟩
                  case measure => simp [intOf]; omega
            · obtain rfl : k = M.length := by omega
              have KL := hid (l06Ok_R (w := w) (wr := wo) (HCf.out M.length) (by rw [HCl.out _ (Nat.le_refl _)]; omega) hA.out hbel)
              rw [← HR0.out] at KL
              clear hbel
              go_wp2_with fail
              (with_reducible refine (KL.out).mono ?_)
              rintro e w5 ⟨a5, n5, c5, rfl, hv5, hb5⟩
              have R := hid (show VecR false RS w (.returned (.slice a5 n5 c5)) w5 from ⟨_, _, _, rfl, hv5, hb5⟩)
              clear hv5 hb5
              go_wp2
              go_ret
              exact R.out
      · have HR0 := hid (show RS = [] by rw [HRS.out]; unfold vecM; rw [if_neg fun e => hl e.2])
        obtain ⟨e1, e2⟩ := ne_facts hl
        clear hok hov hl
        go_enter Tryz.func28, Tryz.ntmps28
        go_wp2_with fail
        (with_reducible refine (KO.out).mono ?_)
        rintro e w2 ⟨rfl, hb⟩
        have HB := hid hb
        clear hb
        go_wp2_with fail
        (with_reducible refine (KV.out _ HB.out).mono ?_)
        rintro e w3 ⟨rfl, hb⟩
        have R := hid (show VecR false RS w (.returned (.slice none 0 0)) w3 by rw [HR0.out]; exact ⟨_, _, _, rfl, VK_nil _ _ _ _, HB.out.trans (hb.mono HB.out.size)⟩)
        clear hb
        go_wp2
        go_ret
        exact R.out
end Go.Proofs.YtdffmeinofgdgaaGreat
