/- Scalar products (the reference). -/
import Derived.Test.YtdffmeinofgdgaaGreatVdt
import Derived.Deep.RegionHeld3
import Derived.Deep.DeepCutAuto
namespace Go.Proofs.YtdffmeinofgdgaaGreat
open Go.RowKit
open Go.Lib (hid)
set_option linter.unusedVariables false

set_option maxRecDepth 100000 in
set_option maxHeartbeats 6400000 in
theorem spec_VecDot {p q : Bool} {a : Option Addr} {n c : Nat} {b : Option Addr} {m d : Nat} {K L : List Fq} {lo hi lo' hi' : Nat} (hK : Sm K) (hL : Sm L) (w : World) (h : VK p w (.slice a n c) K lo hi) (h' : VK q w (.slice b m d) L lo' hi') :
    Calls Tryz.prog 52 #[.slice a n c, .slice b m d] w (RatO false (dotO K L) w) := by
  have HV := hid h
  have HW := hid h'
  obtain rfl := h.num
  obtain rfl := h'.num
  clear h h'
  have BW := hid (below_new' (w := w) (o := .cells #[.bool false, .slice none 0 0, .slice none 0 0] 65))
  have L4 := hid (LocA.at (T := 65) (w := w) (b := w.heap.size) (cs := #[.bool false, .slice none 0 0, .slice none 0 0]) rfl)
  have HS := hid (show (w.alloc (.cells #[.bool false, .slice none 0 0, .slice none 0 0] 65)).heap.size = w.heap.size + 1 by simp)
  have hkl := hK.2
  have hll := hL.2
  obtain ⟨D0, hD0⟩ : ∃ D, D = dotO K L := ⟨_, rfl⟩
  rw [← hD0]
  have HD0 := hid hD0
  clear hD0
  generalize hW : w.alloc (.cells #[.bool false, .slice none 0 0, .slice none 0 0] 65) = W at BW L4 HS
  have HWW := hid hW
  clear hW
  -- the sum's first value is laid
  have first : ∀ (w2 : World) (s4 : Bool) (a4 : Option Addr) (n4 c4 : Nat) (b4 : Option Addr) (m4 d4 : Nat), RO false w2 W.heap.size s4 (.slice a4 n4 c4) (.slice b4 m4 d4) (some ((0 : Int) : Rat)) → Below W.heap.size W w2 →
      Hid (Below w.heap.size w (w2.alloc (.cells #[.bool s4, .slice a4 n4 c4, .slice b4 m4 d4] 65)) ∧ LocA 65 (w2.alloc (.cells #[.bool s4, .slice a4 n4 c4, .slice b4 m4 d4] 65)) w.heap.size #[.bool false, .slice none 0 0, .slice none 0 0] ∧ LocA 65 (w2.alloc (.cells #[.bool s4, .slice a4 n4 c4, .slice b4 m4 d4] 65)) w2.heap.size #[.bool s4, .slice a4 n4 c4, .slice b4 m4 d4] ∧
        RO false (w2.alloc (.cells #[.bool s4, .slice a4 n4 c4, .slice b4 m4 d4] 65)) w.heap.size s4 (.slice a4 n4 c4) (.slice b4 m4 d4) (some ((0 : Int) : Rat)) ∧ w.heap.size + 1 ≤ w2.heap.size) := fun w2 s4 a4 n4 c4 b4 m4 d4 hr hb => by
    have hz := hb.size
    have hs := HS.out
    have hB := BW.out.trans (hb.mono BW.out.size)
    exact ⟨hB.alloc hB.size _, (L4.out.old hb).new1, LocA.new, (hr.base BW.out.size).old below_new', by omega⟩
  have FIRST := hid first
  clear first
  by_cases hne : K.length = L.length
  · cases hk : oks (vals K) with
    | false =>
      have HN := hid (HD0.out.trans (dot_no hne (.inl hk)))
      rw [HN.out]
      have KO := hid (fun (U : World) (hb : Below w.heap.size w U) => (by have h := spec_VecOk hK U (HV.out.old hb); rw [hk] at h; exact h : Calls Tryz.prog 58 #[.slice a K.length c] U (RetB (.bool false) U)))
      have e0 : ((K.length : Int) != (L.length : Int)) = false := by simp [hne]
      rw [← hne] at e0 HW ⊢
      clear hne hk e0
      go_enter Tryz.func52, Tryz.ntmps52
      go_wp2_with fail
      rw [HWW.out]
      (with_reducible refine (sint_o 0 (by decide) (by decide) _).mono ?_)
      rintro e w2 ⟨s4, a4, n4, c4, b4, m4, d4, rfl, hr, hb⟩
      have FX := FIRST.out w2 s4 a4 n4 c4 b4 m4 d4 hr hb
      clear hr hb
      go_wp2_with fail
      (with_reducible refine (KO.out _ FX.out.1).mono ?_)
      rintro e w3 ⟨rfl, hb⟩
      have L5 := hid (FX.out.2.1.old hb)
      have HB := hid (FX.out.1.trans (hb.mono FX.out.1.size))
      clear hb
      have f0 := L5.out.f 0
      have f1 := L5.out.f 1
      have f2 := L5.out.f 2
      have p0 := L5.out.c 0 rfl
      have p1 := L5.out.c 1 rfl
      have p2 := L5.out.c 2 rfl
      have R := hid (RO.out (p := false) (o := none) (w := w) (N := w.heap.size) (RO_none (lo := w.heap.size)) (Nat.le_refl _) (Nat.le_refl _) L5.out (by decide) HB.out)
      go_wp2
      exact bodyPost_ret (v := .agg #[.bool false, .slice none 0 0, .slice none 0 0]) (by simp [results, Tryz.results52, go_sem, p0, p1, p2]) rfl R.out
    | true =>
      cases hl : oks (vals L) with
      | false =>
        have HN := hid (HD0.out.trans (dot_no hne (.inr hl)))
        rw [HN.out]
        have KO := hid (fun (U : World) (hb : Below w.heap.size w U) => (by have h := spec_VecOk hK U (HV.out.old hb); rw [hk] at h; exact h : Calls Tryz.prog 58 #[.slice a K.length c] U (RetB (.bool true) U)))
        have KP := hid (fun (U : World) (hb : Below w.heap.size w U) => (by have h := spec_VecOk hL U (HW.out.old hb); rw [hl] at h; exact h : Calls Tryz.prog 58 #[.slice b L.length d] U (RetB (.bool false) U)))
        have e0 : ((K.length : Int) != (L.length : Int)) = false := by simp [hne]
        clear hne hk hl
        go_enter Tryz.func52, Tryz.ntmps52
        go_wp2_with fail
        rw [HWW.out]
        (with_reducible refine (sint_o 0 (by decide) (by decide) _).mono ?_)
        rintro e w2 ⟨s4, a4, n4, c4, b4, m4, d4, rfl, hr, hb⟩
        have FX := FIRST.out w2 s4 a4 n4 c4 b4 m4 d4 hr hb
        clear hr hb
        go_wp2_with fail
        (with_reducible refine (KO.out _ FX.out.1).mono ?_)
        rintro e w3 ⟨rfl, hb⟩
        have L5 := hid (FX.out.2.1.old hb)
        have HB := hid (FX.out.1.trans (hb.mono FX.out.1.size))
        clear hb
        go_wp2_with fail
        (with_reducible refine (KP.out _ HB.out).mono ?_)
        rintro e w3 ⟨rfl, hb⟩
        have L5 := hid (L5.out.old hb)
        have HB := hid (HB.out.trans (hb.mono HB.out.size))
        clear hb
        have f0 := L5.out.f 0
        have f1 := L5.out.f 1
        have f2 := L5.out.f 2
        have p0 := L5.out.c 0 rfl
        have p1 := L5.out.c 1 rfl
        have p2 := L5.out.c 2 rfl
        have R := hid (RO.out (p := false) (o := none) (w := w) (N := w.heap.size) (RO_none (lo := w.heap.size)) (Nat.le_refl _) (Nat.le_refl _) L5.out (by decide) HB.out)
        go_wp2
        exact bodyPost_ret (v := .agg #[.bool false, .slice none 0 0, .slice none 0 0]) (by simp [results, Tryz.results52, go_sem, p0, p1, p2]) rfl R.out
      | true =>
        have h40 : K.length ≤ 40 := by
          simp only [oks, Bool.and_eq_true, decide_eq_true_eq] at hk
          have := hk.1
          rwa [vals_len] at this
        have HZ := hid (zw_len (f := mulF) hne)
        have HA := hid (fun k (h : k < K.length) (h' : k < L.length) (hz : k < (zw mulF K L).length) => zw_at (f := mulF) h h' hz)
        have HD := hid (show D0 = dacc (zw mulF K L) by rw [HD0.out]; unfold dotO; rw [if_pos ⟨hne, h40⟩])
        rw [HD.out]
        clear HD
        have KO := hid (fun (U : World) (hb : Below w.heap.size w U) => (by have h := spec_VecOk hK U (HV.out.old hb); rw [hk] at h; exact h : Calls Tryz.prog 58 #[.slice a K.length c] U (RetB (.bool true) U)))
        have KP := hid (fun (U : World) (hb : Below w.heap.size w U) => (by have h := spec_VecOk hL U (HW.out.old hb); rw [hl, ← hne] at h; exact h : Calls Tryz.prog 58 #[.slice b K.length d] U (RetB (.bool true) U)))
        generalize zw mulF K L = os at HZ HA ⊢
        have HN := hid hne
        rw [← hne] at HW ⊢
        clear hne hk hl h40
        go_enter Tryz.func52, Tryz.ntmps52
        go_wp2_with fail
        rw [HWW.out]
        (with_reducible refine (sint_o 0 (by decide) (by decide) _).mono ?_)
        rintro e w2 ⟨s4, a4, n4, c4, b4, m4, d4, rfl, hr, hb⟩
        have FX := FIRST.out w2 s4 a4 n4 c4 b4 m4 d4 hr hb
        clear hr hb
        go_wp2_with fail
        (with_reducible refine (KO.out _ FX.out.1).mono ?_)
        rintro e w3 ⟨rfl, hb⟩
        have L5 := hid (FX.out.2.1.old hb)
        have L6 := hid (FX.out.2.2.1.old hb)
        have R6 := hid (FX.out.2.2.2.1.old hb)
        have HN6 := hid FX.out.2.2.2.2
        have HB := hid (FX.out.1.trans (hb.mono FX.out.1.size))
        clear hb
        go_wp2_with fail
        (with_reducible refine (KP.out _ HB.out).mono ?_)
        rintro e w3 ⟨rfl, hb⟩
        have L5 := hid (L5.out.old hb)
        have L6 := hid (L6.out.old hb)
        have R6 := hid (R6.out.old hb)
        have HB := hid (HB.out.trans (hb.mono HB.out.size))
        clear hb
        go_wp2
        obtain ⟨N6, hN6⟩ : ∃ N, N = w2.heap.size := ⟨_, rfl⟩
        rw [← hN6] at L6 HN6 ⊢
        clear hN6
        go_loopw [26] (fun i wr => ∃ (k : Nat) (sa : Bool) (aa : Option Addr) (na ca : Nat) (ba : Option Addr) (ma da : Nat), k ≤ K.length ∧ i = .int .i64 k ∧ Hid (LocA 65 wr N6 #[.bool sa, .slice aa na ca, .slice ba ma da]) ∧ Hid (LocA 65 wr w.heap.size #[.bool false, .slice none 0 0, .slice none 0 0]) ∧ Hid (RO false wr w.heap.size sa (.slice aa na ca) (.slice ba ma da) (dacc (os.take k))) ∧ Hid (Below w.heap.size w wr)) (fun i _ => K.length - (intOf i).toNat)
        case atStart => exact ⟨0, s4, a4, n4, c4, b4, m4, d4, Nat.zero_le _, rfl, L6, L5, R6, HB⟩
        case round =>
          obtain ⟨k, sa, aa, na, ca, ba, ma, da, hk, rfl, hL6, hL8, hR, HB⟩ := hrel
          by_cases hlt : k < K.length
          · have hlt2 : k < L.length := by rw [← HN.out]; exact hlt
            have X := hid (HV.out.old HB.out)
            have Y := hid (HW.out.old HB.out)
            obtain ⟨g1, a31, n31, c31, b31, m31, d31, rfl, hg1, q01, q11, q21, R1⟩ := X.out.at hK hlt
            obtain ⟨⟨s1, A1, D1⟩, hf1⟩ : ∃ f, K[k]'(hlt) = f := ⟨_, rfl⟩
            simp only [hf1] at q01 R1
            have HF1 := hid hf1
            clear hf1
            obtain ⟨o1, ho1⟩ : ∃ o, Fq.o ⟨s1, A1, D1⟩ = o := ⟨_, rfl⟩
            have HO1 := hid (show (K[k]'(hlt)).o = o1 by rw [HF1.out, ho1])
            have RX1 := hid (show RA wr s1 (.slice a31 n31 c31) (.slice b31 m31 d31) o1 from ⟨A1, D1, R1, ho1⟩)
            clear ho1 R1
            obtain ⟨g2, a32, n32, c32, b32, m32, d32, rfl, hg2, q02, q12, q22, R2⟩ := Y.out.at hL hlt2
            obtain ⟨⟨s2, A2, D2⟩, hf2⟩ : ∃ f, L[k]'(hlt2) = f := ⟨_, rfl⟩
            simp only [hf2] at q02 R2
            have HF2 := hid hf2
            clear hf2
            obtain ⟨o2, ho2⟩ : ∃ o, Fq.o ⟨s2, A2, D2⟩ = o := ⟨_, rfl⟩
            have HO2 := hid (show (L[k]'(hlt2)).o = o2 by rw [HF2.out, ho2])
            have RX2 := hid (show RA wr s2 (.slice a32 n32 c32) (.slice b32 m32 d32) o2 from ⟨A2, D2, R2, ho2⟩)
            clear ho2 R2
            have HOO := hid (show os[k]'(by rw [HZ.out]; exact hlt) = bq mulF o1 o2 by rw [HA.out k hlt hlt2 (by rw [HZ.out]; exact hlt), HO1.out, HO2.out])
            have HDK := hid (show dacc (os.take (k + 1)) = bq addF (dacc (os.take k)) (bq mulF o1 o2) by rw [dacc_take (by rw [HZ.out]; exact hlt), HOO.out])
            have KF := hid (smul_o (w := wr.drew) (RX1.out.old (Below_drew1 (Below.refl _ _))) (RX2.out.old (Below_drew1 (Below.refl _ _))))
            have RD := hid (hR.out.old (Below_drew1 (Below.refl _ _)))
            have L6D := hid (hL6.out.old (Below_drew1 (Below.refl _ _)))
            have L8D := hid (hL8.out.old (Below_drew1 (Below.refl _ _)))
            have HBD := hid (Below_drew1 HB.out)
            have x0 := hL6.out.c 0 (v := .bool sa) rfl
            have x1 := hL6.out.c 1 (v := .slice aa na ca) rfl
            have x2 := hL6.out.c 2 (v := .slice ba ma da) rfl
            have a1' : (0 : Int) ≤ k := by omega
            have a2 : (k : Int) < K.length := by omega
            go_wp2_with fail
            have y0' := (show wr.drew.cell? ⟨N6, 0, none⟩ = some (.bool sa) from x0)
            have y1' := (show wr.drew.cell? ⟨N6, 1, none⟩ = some (.slice aa na ca) from x1)
            have y2' := (show wr.drew.cell? ⟨N6, 2, none⟩ = some (.slice ba ma da) from x2)
            go_region_law (first
              | (go_simp; go_at_call 61; (with_reducible refine (KF.out).mono ?_); rintro e w5 ⟨s5, a5, n5, c5, b5, m5, d5, rfl, hr, hb⟩
                 have L6D := hid (L6D.out.old hb)
                 have L8D := hid (L8D.out.old hb)
                 have HBD2 := hid (HBD.out.trans (hb.mono HBD.out.size))
                 have KA := hid (sadd_o (w := w5) (RD.out.ra.old hb) hr.ra)
                 have x0 := L6D.out.c 0 (v := .bool sa) rfl
                 have x1 := L6D.out.c 1 (v := .slice aa na ca) rfl
                 have x2 := L6D.out.c 2 (v := .slice ba ma da) rfl
                 clear hr hb)
              | (go_simp; go_at_call 60; (with_reducible refine (KA.out).mono ?_); rintro e w6 ⟨s4, a4, n4, c4, b4, m4, d4, rfl, hr, hb⟩
                 have L6E := hid (L6D.out.old hb)
                 have x0 := L6E.out.c 0 (v := .bool sa) rfl
                 have x1 := L6E.out.c 1 (v := .slice aa na ca) rfl
                 have x2 := L6E.out.c 2 (v := .slice ba ma da) rfl
                 have f0 := L6E.out.f 0
                 have f1 := L6E.out.f 1
                 have f2 := L6E.out.f 2
                 have L8E := hid (L8D.out.old hb)
                 have HBE := hid (HBD2.out.trans (hb.mono HBD2.out.size))
                 have hbd := hid HBD2.out.size
                 have RR6 := hid (hr.base (Nat.le_refl _))
                 clear hr hb))
            all_goals
              have hn6 := HN6.out
              have hbz := hbd.out
              have LN := hid (((L6E.out.set (i := 0) (x := .bool s4)).set (i := 1) (x := .slice a4 n4 c4)).set (i := 2) (x := .slice b4 m4 d4))
              have L8N := hid (((L8E.out.setne (N := N6) (i := 0) (x := .bool s4) (by omega)).setne (N := N6) (i := 1) (x := .slice a4 n4 c4) (by omega)).setne (N := N6) (i := 2) (x := .slice b4 m4 d4) (by omega))
              have RN := hid ((((RR6.out.base hbz).set L6E.out (by decide) (i := 0) (y := .bool s4)).set (L6E.out.set (i := 0) (x := .bool s4)) (by decide) (i := 1) (y := .slice a4 n4 c4)).set ((L6E.out.set (i := 0) (x := .bool s4)).set (i := 1) (x := .slice a4 n4 c4)) (by decide) (i := 2) (y := .slice b4 m4 d4))
              have HBN := hid (((HBE.out.setCell (p := ⟨N6, 0, none⟩) (by simp; omega) (.bool s4)).setCell (p := ⟨N6, 1, none⟩) (by simp; omega) (.slice a4 n4 c4)).setCell (p := ⟨N6, 2, none⟩) (by simp; omega) (.slice b4 m4 d4))
              clear hbz hn6
              go_wp2
              go_roundw
              case rel => exact ⟨k + 1, s4, a4, n4, c4, b4, m4, d4, by omega, by go_num, LN, L8N, hid (by rw [HDK.out]; exact RN.out), HBN⟩
              case measure => simp [intOf]; omega
          · obtain rfl : k = K.length := by omega
            have x0 := hL6.out.c 0 (v := .bool sa) rfl
            have x1 := hL6.out.c 1 (v := .slice aa na ca) rfl
            have x2 := hL6.out.c 2 (v := .slice ba ma da) rfl
            have f0 := hL8.out.f 0
            have f1 := hL8.out.f 1
            have f2 := hL8.out.f 2
            have p0 := hL8.out.c 0 rfl
            have p1 := hL8.out.c 1 rfl
            have p2 := hL8.out.c 2 rfl
            have HE := hid (show dacc (os.take K.length) = dacc os by rw [List.take_of_length_le (by rw [HZ.out]; exact Nat.le_refl _)])
            have R0 := hR.out
            rw [HE.out] at R0
            have R := hid (RO.out (w := w) (N := w.heap.size) R0 (Nat.le_refl _) (Nat.le_refl _) hL8.out (by decide) HB.out)
            clear R0
            go_wp2
            exact bodyPost_ret (v := .agg #[.bool sa, .slice aa na ca, .slice ba ma da]) (by simp [results, Tryz.results52, go_sem, p0, p1, p2]) rfl R.out
  · have HN := hid (show D0 = none by rw [HD0.out]; unfold dotO; rw [if_neg (by omega)])
    obtain ⟨e1, e2⟩ := ne_facts hne
    rw [HN.out]
    clear hne
    go_enter Tryz.func52, Tryz.ntmps52
    go_wp2_with fail
    rw [HWW.out]
    (with_reducible refine (sint_o 0 (by decide) (by decide) _).mono ?_)
    rintro e w2 ⟨s4, a4, n4, c4, b4, m4, d4, rfl, hr, hb⟩
    have FX := FIRST.out w2 s4 a4 n4 c4 b4 m4 d4 hr hb
    have L5 := hid FX.out.2.1
    have HB := hid FX.out.1
    clear hr hb
    have f0 := L5.out.f 0
    have f1 := L5.out.f 1
    have f2 := L5.out.f 2
    have p0 := L5.out.c 0 rfl
    have p1 := L5.out.c 1 rfl
    have p2 := L5.out.c 2 rfl
    have R := hid (RO.out (p := false) (o := none) (w := w) (N := w.heap.size) (RO_none (lo := w.heap.size)) (Nat.le_refl _) (Nat.le_refl _) L5.out (by decide) HB.out)
    go_wp2
    exact bodyPost_ret (v := .agg #[.bool false, .slice none 0 0, .slice none 0 0]) (by simp [results, Tryz.results52, go_sem, p0, p1, p2]) rfl R.out
end Go.Proofs.YtdffmeinofgdgaaGreat
