import Derived.Test.YthkehmnodcmlcaaGreatTsmP
import Derived.Test.YthkehmnodcmlcaaGreatTosP
import Derived.Deep.RegionLaw
import Derived.Deep.RegionHeld3
import Derived.Deep.DeepCutAuto
set_option maxRecDepth 100000
set_option maxHeartbeats 25600000
set_option linter.unusedVariables false
set_option linter.unusedSimpArgs false
namespace Go.Proofs.YthkehmnodcmlcaaGreat
open Go.RowKit
open Go.Lib (hid)
theorem l07Ok_k {p : Bool} {a : Option Addr} {n c : Nat} {K : List Tq} {lo hi : Nat} (hK : SmT K) (w : World) (h : TK p w (.slice a n c) K lo hi) :
  Calls Tryz.prog 133 #[.slice a n c] w (RetB (if tok K 40 = true then .slice a n c else .slice none 0 0) w) := by
 have KO := hid (spec_TermsOk hK 40 (by decide) (by decide) w h)
 cases hb : tok K 40 with
 |true =>
  rw [hb] at KO
  clear hb
  go_enter Tryz.func133, Tryz.ntmps133
  go_wp2_with fail
  (with_reducible refine (KO.out).mono ?_)
  rintro e w1 ⟨rfl, hb⟩
  have HB := hid hb
  clear hb
  go_wp2
  go_ret
  exact ⟨rfl, HB.out⟩
 |false =>
  rw [hb] at KO
  clear hb
  go_enter Tryz.func133, Tryz.ntmps133
  go_wp2_with fail
  (with_reducible refine (KO.out).mono ?_)
  rintro e w1 ⟨rfl, hb⟩
  have HB := hid hb
  clear hb
  go_wp2
  go_ret
  exact ⟨rfl, HB.out⟩
theorem spec_TermsScale {p : Bool} {a : Option Addr} {n c : Nat} {K : List Tq} {lo hi : Nat} {s : Bool} {a1 : Option Addr} {n1 c1 : Nat} {b1 : Option Addr} {m1 d1 : Nat} {o : Option Rat} (hK : SmT K) (w : World) (h : TK p w (.slice a n c) K lo hi) (hr : RA w s (.slice a1 n1 c1) (.slice b1 m1 d1) o) :
    Calls Tryz.prog 79 #[.slice a n c, .agg #[.bool s, .slice a1 n1 c1, .slice b1 m1 d1]] w (TerR false (scaleT K o) w) := by
  have HV := hid h
  have HX := hid hr
  obtain rfl := h.num
  clear h hr
  have hkl := hK.2
  have BW := hid (below_new2 (w := w) (o := .cells #[.bool s, .slice a1 n1 c1, .slice b1 m1 d1] 37) (o' := .cells #[] 123))
  have LX := hid ((LocA.new (w := w) (T := 37) (cs := #[.bool s, .slice a1 n1 c1, .slice b1 m1 d1])).new1 (o := .cells #[] 123))
  have HS := hid (show ((w.alloc (.cells #[.bool s, .slice a1 n1 c1, .slice b1 m1 d1] 37)).alloc (.cells #[] 123)).heap.size = w.heap.size + 2 by simp)
  have V0 := hid (show TK false ((w.alloc (.cells #[.bool s, .slice a1 n1 c1, .slice b1 m1 d1] 37)).alloc (.cells #[] 123)) (.slice (some ⟨w.heap.size + 1, 0, none⟩) 0 0) [] (w.heap.size + 1) (w.heap.size + 2) by
    have := TK_lit0 false (w := w.alloc (.cells #[.bool s, .slice a1 n1 c1, .slice b1 m1 d1] 37)) (lo := w.heap.size + 1) (by simp)
    rw [show (w.alloc (.cells #[.bool s, .slice a1 n1 c1, .slice b1 m1 d1] 37)).heap.size = w.heap.size + 1 by simp] at this
    exact this)
  have KO := hid (spec_TermsOk hK 40 (by decide) (by decide) ((w.alloc (.cells #[.bool s, .slice a1 n1 c1, .slice b1 m1 d1] 37)).alloc (.cells #[] 123)) (HV.out.old BW.out))
  obtain ⟨RR, hRR⟩ : ∃ RR, RR = scaleT K o := ⟨_, rfl⟩
  rw [← hRR]
  have HRR := hid hRR
  clear hRR
  generalize hW : (w.alloc (.cells #[.bool s, .slice a1 n1 c1, .slice b1 m1 d1] 37)).alloc (.cells #[] 123) = W at BW LX HS V0 KO
  have HW := hid hW
  clear hW
  cases hk : tok K 40 with
  | false =>
    rw [hk] at KO
    have HN := hid (show RR = [] by rw [HRR.out, scaleT_no hk])
    rw [HN.out]
    clear hk
    go_enter Tryz.func79, Tryz.ntmps79
    go_wp2_with fail
    rw [HW.out]
    (with_reducible refine (KO.out).mono ?_)
    rintro e w1 ⟨rfl, hb⟩
    have HB := hid (BW.out.trans (hb.mono BW.out.size))
    have LX := hid (LX.out.old hb)
    have V0 := hid (V0.out.old hb)
    have hw1 := hid hb.size
    have p0 := LX.out.c 0 rfl
    have p1 := LX.out.c 1 rfl
    have p2 := LX.out.c 2 rfl
    clear hb
    go_wp2
    go_ret
    exact ⟨none, 0, 0, rfl, TK_nil _ _ _ _, HB.out⟩
  | true =>
    rw [hk] at KO
    have HTK := hid (fun k (h : k < K.length) => tok_at hk h)
    have HK40 := hid hk
    clear hk
    cases o with
    | none =>
      have HN := hid (show RR = [] by rw [HRR.out, scaleT_nz nz_none])
      rw [HN.out]
      go_enter Tryz.func79, Tryz.ntmps79
      go_wp2_with fail
      rw [HW.out]
      (with_reducible refine (KO.out).mono ?_)
      rintro e w1 ⟨rfl, hb⟩
      have HB := hid (BW.out.trans (hb.mono BW.out.size))
      have LX := hid (LX.out.old hb)
      have V0 := hid (V0.out.old hb)
      have hw1 := hid hb.size
      have p0 := LX.out.c 0 rfl
      have p1 := LX.out.c 1 rfl
      have p2 := LX.out.c 2 rfl
      clear hb
      go_wp2_with fail
      (with_reducible refine (sok_o (HX.out.old HB.out)).mono ?_)
      rintro e w2 ⟨rfl, hb⟩
      have LX := hid (LX.out.old hb)
      have V0 := hid (V0.out.old hb)
      have hw2 := hid hb.size
      have HB := hid (HB.out.trans (hb.mono HB.out.size))
      have p0 := LX.out.c 0 rfl
      have p1 := LX.out.c 1 rfl
      have p2 := LX.out.c 2 rfl
      clear hb
      go_wp2
      go_ret
      exact ⟨none, 0, 0, rfl, TK_nil _ _ _ _, HB.out⟩
    | some y =>
      obtain ⟨A0, D0, hrl, hrv⟩ := HX.out
      have hmg := tq_mag (x := 0) (s := s) (A := A0) (D := D0) (o := some y) hrv rfl
      have hn1 := hrl.nums.1
      rw [← hn1] at hmg
      clear hrl hrv hn1
      by_cases h0 : n1 = 0
      · have HN := hid (show RR = [] by rw [HRR.out, scaleT_nz (hmg.1 h0)])
        rw [HN.out]
        clear hmg
        subst h0
        go_enter Tryz.func79, Tryz.ntmps79
        go_wp2_with fail
        rw [HW.out]
        (with_reducible refine (KO.out).mono ?_)
        rintro e w1 ⟨rfl, hb⟩
        have HB := hid (BW.out.trans (hb.mono BW.out.size))
        have LX := hid (LX.out.old hb)
        have V0 := hid (V0.out.old hb)
        have hw1 := hid hb.size
        have p0 := LX.out.c 0 rfl
        have p1 := LX.out.c 1 rfl
        have p2 := LX.out.c 2 rfl
        clear hb
        go_wp2_with fail
        (with_reducible refine (sok_o (HX.out.old HB.out)).mono ?_)
        rintro e w2 ⟨rfl, hb⟩
        have LX := hid (LX.out.old hb)
        have V0 := hid (V0.out.old hb)
        have hw2 := hid hb.size
        have HB := hid (HB.out.trans (hb.mono HB.out.size))
        have p0 := LX.out.c 0 rfl
        have p1 := LX.out.c 1 rfl
        have p2 := LX.out.c 2 rfl
        clear hb
        go_wp2
        go_ret
        exact ⟨none, 0, 0, rfl, TK_nil _ _ _ _, HB.out⟩
      · have hnz : nz (some y) = true := by
          cases e : nz (some y) with
          | true => rfl
          | false => exact absurd (hmg.2 e) h0
        have hpos : (n1 : Int) ≠ 0 := by omega
        have hb0 : ((n1 : Int) == 0) = false := by simp; omega
        obtain ⟨P, hP⟩ : ∃ P, P = scP (some y) := ⟨_, rfl⟩
        have HN := hid (show RR = if tok (outT P K) 40 = true then outT P K else [] by rw [HRR.out, scaleT_yes HK40.out hnz, hP])
        have HPF := hid (show ∀ t, fitO (P t) by rw [hP]; exact scP_fit (some y))
        have HPA := hid (show ∀ t, P t = bq mulF t.o (some y) by rw [hP]; exact fun t => rfl)
        clear hP hmg hnz
        go_enter Tryz.func79, Tryz.ntmps79
        go_wp2_with fail
        rw [HW.out]
        (with_reducible refine (KO.out).mono ?_)
        rintro e w1 ⟨rfl, hb⟩
        have HB := hid (BW.out.trans (hb.mono BW.out.size))
        have LX := hid (LX.out.old hb)
        have V0 := hid (V0.out.old hb)
        have hw1 := hid hb.size
        have p0 := LX.out.c 0 rfl
        have p1 := LX.out.c 1 rfl
        have p2 := LX.out.c 2 rfl
        clear hb
        go_wp2_with fail
        (with_reducible refine (sok_o (HX.out.old HB.out)).mono ?_)
        rintro e w2 ⟨rfl, hb⟩
        have LX := hid (LX.out.old hb)
        have V0 := hid (V0.out.old hb)
        have hw2 := hid hb.size
        have HB := hid (HB.out.trans (hb.mono HB.out.size))
        have p0 := LX.out.c 0 rfl
        have p1 := LX.out.c 1 rfl
        have p2 := LX.out.c 2 rfl
        clear hb
        go_wp2
        clear p0 p1 p2
        go_loopw [5, 26] (fun v i wr => ∃ (k : Nat) (a' : Option Addr) (c' : Nat), k ≤ K.length ∧ i = .int .i64 k ∧ v = .slice a' k c' ∧ Hid (TK false wr (.slice a' k c') (outT P (K.take k)) (w.heap.size + 1) wr.heap.size) ∧ Hid (LocA 37 wr w.heap.size #[.bool s, .slice a1 n1 c1, .slice b1 m1 d1]) ∧ Hid (w.heap.size + 2 ≤ wr.heap.size) ∧ Hid (Below w.heap.size w wr)) (fun _ i _ => K.length - (intOf i).toNat)
        case atStart => exact ⟨0, _, 0, Nat.zero_le _, rfl, rfl, hid (V0.out.wide (Nat.le_refl _) (by have h1 := HS.out; have h2 := hw1.out; have h3 := hw2.out; omega)), LX, hid (by have h1 := HS.out; have h2 := hw1.out; have h3 := hw2.out; omega), HB⟩
        case round =>
          obtain ⟨k, a', c', hk, rfl, rfl, hV, hL, hZ, HB⟩ := hrel
          by_cases hlt : k < K.length
          · have X := hid (HV.out.old HB.out)
            obtain ⟨g1, a31, n31, c31, b31, m31, d31, rfl, hg1, qc1, q01, q11, q21, R1⟩ := X.out.at hK hlt
            obtain ⟨⟨x1, s1, A1, D1⟩, hf1⟩ : ∃ f, K[k]'(hlt) = f := ⟨_, rfl⟩
            simp only [hf1] at qc1 q01 R1
            have HF1 := hid hf1
            clear hf1
            obtain ⟨o1, ho1⟩ : ∃ o, Tq.o ⟨x1, s1, A1, D1⟩ = o := ⟨_, rfl⟩
            have HO1 := hid (show (K[k]'(hlt)).o = o1 by rw [HF1.out, ho1])
            have HX1 := hid (show (K[k]'(hlt)).c = x1 by rw [HF1.out])
            have RX1 := hid (show RA wr s1 (.slice a31 n31 c31) (.slice b31 m31 d31) o1 from ⟨A1, D1, R1, ho1⟩)
            have RLX1 := hid R1
            have RN1 := hid R1.nums
            clear ho1 R1
            obtain ⟨-, -, hx⟩ := HTK.out k hlt
            obtain ⟨x, hxe, -⟩ := hx
            rw [HO1.out] at hxe
            subst hxe
            have HOO := hid (show P K[k] = bq mulF (some x) (some y) by rw [HPA.out, HO1.out])
            have hln := hid (show (outT P (K.take k)).length = k by rw [outT_len, List.length_take]; omega)
            obtain ⟨ob, hob⟩ : ∃ ob, ob = (Go.Obj.cells #[.int .i64 x1, .bool s1, .slice a31 n31 c31, .slice b31 m31 d31] 123) := ⟨_, rfl⟩
            have hBW := hid (show Below wr.heap.size wr (wr.alloc ob).drew from Below_drew1 below_new')
            have hBZ := hid (show (wr.alloc ob).drew.heap.size = wr.heap.size + 1 by show (wr.alloc ob).heap.size = _; simp)
            have KF := hid (smul_t (w := (wr.alloc ob).drew) (RX1.out.old hBW.out) ((HX.out.old HB.out).old hBW.out))
            have LT := hid (show LocA 123 (wr.alloc ob).drew wr.heap.size #[.int .i64 x1, .bool s1, .slice a31 n31 c31, .slice b31 m31 d31] by rw [hob]; exact LocA.new)
            have LR := hid (hL.out.old hBW.out)
            have VD := hid (hV.out.old hBW.out)
            have HBD := hid (HB.out.trans (hBW.out.mono HB.out.size))
            have hwz := HB.out.size
            have hzz := hZ.out
            have hl1 : w.heap.size + 1 ≤ wr.heap.size := by omega
            have a1' : (0 : Int) ≤ k := by omega
            have a2 : (k : Int) < K.length := by omega
            have HOB := hid hob
            clear hob
            have y0 := LT.out.c 0 rfl
            have y1 := LT.out.c 1 rfl
            have y2 := LT.out.c 2 rfl
            have y3 := LT.out.c 3 rfl
            have r0 := LR.out.c 0 rfl
            have r1 := LR.out.c 1 rfl
            have r2 := LR.out.c 2 rfl
            go_wp2_with fail
            rw [← HOB.out]
            clear qc1 q01 q11 q21
            go_region_held3 (fun w' => w'.cell? ⟨wr.heap.size, 0, none⟩ = some (.int .i64 x1) ∧ w'.cell? ⟨wr.heap.size, 1, none⟩ = some (.bool s1) ∧ w'.cell? ⟨wr.heap.size, 2, none⟩ = some (.slice a31 n31 c31) ∧ w'.cell? ⟨wr.heap.size, 3, none⟩ = some (.slice b31 m31 d31) ∧ w'.cell? ⟨w.heap.size, 0, none⟩ = some (.bool s) ∧ w'.cell? ⟨w.heap.size, 1, none⟩ = some (.slice a1 n1 c1) ∧ w'.cell? ⟨w.heap.size, 2, none⟩ = some (.slice b1 m1 d1)) (first | with_reducible exact ⟨y0, y1, y2, y3, r0, r1, r2⟩ | exact ⟨y0, y1, y2, y3, r0, r1, r2⟩ | go_keep)
              (first
                | (go_at_call 132; (with_reducible refine (KF.out).mono ?_); rintro e w5 ⟨s4, a4, n4, c4, b4, m4, d4, rfl, hr, hb⟩
                   have LT5 := hid (LT.out.old hb)
                   have LR5 := hid (LR.out.old hb)
                   have y0 := LT5.out.c 0 rfl
                   have y1 := LT5.out.c 1 rfl
                   have y2 := LT5.out.c 2 rfl
                   have y3 := LT5.out.c 3 rfl
                   have r0 := LR5.out.c 0 rfl
                   have r1 := LR5.out.c 1 rfl
                   have r2 := LR5.out.c 2 rfl
                   have hz2 := hb.size
                   have PV := hid ((VD.out.old hb).old (below_new' (o := .cells #[.int .i64 x1, .bool s4, .slice a4 n4 c4, .slice b4 m4 d4] 123)))
                   have PR := hid (hr.old (below_new' (o := .cells #[.int .i64 x1, .bool s4, .slice a4 n4 c4, .slice b4 m4 d4] 123)))
                   have PB := hid (heap_alloc_new w5 (.cells #[.int .i64 x1, .bool s4, .slice a4 n4 c4, .slice b4 m4 d4] 123))
                   have HB2 := hid ((HBD.out.trans (hb.mono HBD.out.size)).alloc (Nat.le_trans HBD.out.size hb.size) (.cells #[.int .i64 x1, .bool s4, .slice a4 n4 c4, .slice b4 m4 d4] 123))
                   have LT6 := hid (LT5.out.new1 (o := .cells #[.int .i64 x1, .bool s4, .slice a4 n4 c4, .slice b4 m4 d4] 123))
                   have LR6 := hid (LR5.out.new1 (o := .cells #[.int .i64 x1, .bool s4, .slice a4 n4 c4, .slice b4 m4 d4] 123))
                   clear hr hb)
                | ((refine step_pushT rfl _ _ rfl (by rfl) PV.out (by rw [hBZ.out]; omega) (by rw [hBZ.out]; omega) PR.out (by rfl) PB.out (by rw [hln.out]; omega) (by have h1 := hz2; rw [hBZ.out] at h1; simp; omega) ?_)
                   intro gp cp wp hvp hbp hcp
                   have HB3 := hid (HB2.out.trans (hbp.mono (Nat.le_succ _)))
                   have HV3 := hid hvp
                   have LTM := hid (show LocA 123 wp wr.heap.size #[.int .i64 x1, .bool s1, .slice a31 n31 c31, .slice b31 m31 d31] from (hcp _ LT6.out.lt (fun e => by have := PV.out.own _ e.symm; omega)).trans LT6.out)
                   have LRM := hid (show LocA 37 wp w.heap.size #[.bool s, .slice a1 n1 c1, .slice b1 m1 d1] from (hcp _ LR6.out.lt (fun e => by have := PV.out.own _ e.symm; omega)).trans LR6.out)
                   have hzp := hid (show w.heap.size + 2 ≤ wp.heap.size by have h1 := hz2; rw [hBZ.out] at h1; have h2 := hbp.size; simp at h2; omega)
                   have y0 := LTM.out.c 0 rfl
                   have y1 := LTM.out.c 1 rfl
                   have y2 := LTM.out.c 2 rfl
                   have y3 := LTM.out.c 3 rfl
                   have r0 := LRM.out.c 0 rfl
                   have r1 := LRM.out.c 1 rfl
                   have r2 := LRM.out.c 2 rfl
                   clear hvp hbp hcp))
            clear y0 y1 y2 y3 r0 r1 r2
            go_wp2
            go_roundw
            case rel => exact ⟨k + 1, some ⟨gp, 0, none⟩, cp, by omega, by go_num, by rw [hln.out], hid (by
              have h1 := HV3.out
              rw [hln.out] at h1
              rw [outT_take hlt, HX1.out, HOO.out]
              exact h1), LRM, hzp, HB3⟩
            case measure => simp [intOf]; omega
          · obtain rfl : k = K.length := by omega
            have hV' := hV.out
            rw [List.take_length] at hV'
            have HVV := hid hV'
            have KZ := hid (l07Ok_k (SmT.ofT (Nat.le_trans (outT_sz HPF.out K) (by have := tok_len HK40.out; omega))) wr hV')
            have hwz := HB.out.size
            clear hV'
            cases hz : tok (outT P K) 40 with
            | true =>
              rw [hz] at KZ
              have HE := hid (show RR = outT P K by rw [HN.out, hz]; rfl)
              clear hz
              go_wp2_with fail
              (with_reducible refine (KZ.out).mono ?_)
              rintro e w2 ⟨rfl, hb⟩
              have R := hid (show TerR false RR w (.returned (.slice a' K.length c')) w2 from ⟨_, _, _, rfl, by rw [HE.out]; exact (HVV.out.old hb).wide (Nat.le_succ _) hb.size, HB.out.trans (hb.mono hwz)⟩)
              clear hb
              go_wp2
              go_ret
              exact R.out
            | false =>
              rw [hz] at KZ
              have HE := hid (show RR = [] by rw [HN.out, hz]; rfl)
              clear hz
              go_wp2_with fail
              (with_reducible refine (KZ.out).mono ?_)
              rintro e w2 ⟨rfl, hb⟩
              have R := hid (show TerR false RR w (.returned (.slice none 0 0)) w2 from ⟨_, _, _, rfl, by rw [HE.out]; exact TK_nil _ _ _ _, HB.out.trans (hb.mono hwz)⟩)
              clear hb
              go_wp2
              go_ret
              exact R.out
end Go.Proofs.YthkehmnodcmlcaaGreat
