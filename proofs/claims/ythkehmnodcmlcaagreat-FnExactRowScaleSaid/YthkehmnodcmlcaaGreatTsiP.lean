import Derived.Test.YthkehmnodcmlcaaGreatTsmP
import Derived.Deep.RegionLaw
import Derived.Deep.RegionHeld3
import Derived.Deep.DeepCutAuto
set_option maxRecDepth 100000
set_option maxHeartbeats 25600000
set_option linter.unusedVariables false
set_option linter.unusedSimpArgs false
namespace Go.Proofs.YthkehmnodcmlcaaGreat
open Go.RowKit
open Go.Lib (hid)
theorem impl_TermsScale {p : Bool} {a : Option Addr} {n c : Nat} {K : List Tq} {lo hi : Nat} {s : Bool} {a1 : Option Addr} {n1 c1 : Nat} {b1 : Option Addr} {m1 d1 : Nat} {o : Option Rat} (hK : SmT K) (w : World) (h : TK p w (.slice a n c) K lo hi) (hr : RA w s (.slice a1 n1 c1) (.slice b1 m1 d1) o) :
  Calls Tryz.prog 84 #[.slice a n c, .agg #[.bool s, .slice a1 n1 c1, .slice b1 m1 d1]] w (TerR true (scaleT K o) w) := by
 have HV := hid h
 have HX := hid hr
 obtain rfl := h.num
 clear h hr
 have hkl := hK.2
 have BW := hid (below_new' (w := w) (o := .cells #[.bool s, .slice a1 n1 c1, .slice b1 m1 d1] 37))
 have LX := hid (LocA.new (w := w) (T := 37) (cs := #[.bool s, .slice a1 n1 c1, .slice b1 m1 d1]))
 have HS := hid (show (w.alloc (.cells #[.bool s, .slice a1 n1 c1, .slice b1 m1 d1] 37)).heap.size = w.heap.size + 1 by simp)
 have KO := hid (impl_TermsOk hK 40 (by decide) (by decide) (w.alloc (.cells #[.bool s, .slice a1 n1 c1, .slice b1 m1 d1] 37)) (HV.out.old BW.out))
 obtain ⟨RR, hRR⟩ : ∃ RR, RR = scaleT K o := ⟨_, rfl⟩
 rw [← hRR]
 have HRR := hid hRR
 clear hRR
 have hmm := @run_makeMap Tryz.prog
 generalize hW : w.alloc (.cells #[.bool s, .slice a1 n1 c1, .slice b1 m1 d1] 37) = W at BW LX HS KO
 have HW := hid hW
 clear hW
 cases hk : tok K 40 with
 |false =>
  rw [hk] at KO
  have HN := hid (show RR = [] by rw [HRR.out, scaleT_no hk])
  rw [HN.out]
  clear hk hmm
  go_enter Tryz.func84, Tryz.ntmps84
  go_wp2_with fail
  rw [HW.out]
  (with_reducible refine (KO.out).mono ?_)
  rintro e w1 ⟨rfl, hb⟩
  have HB := hid (BW.out.trans (hb.mono BW.out.size))
  clear hb
  go_wp2
  go_ret
  exact ⟨none, 0, 0, rfl, TK_nil _ _ _ _, HB.out⟩
 |true =>
  rw [hk] at KO
  have HC := hid (fun L (hl : ColsOf (layG (scF o) K G0) L) => (by rw [hl.eq (cols_lay hk), coll_scale hk, HRR.out] : collG L (layG (scF o) K G0) = RR))
  have HTK := hid (fun k (h : k < K.length) => tok_at hk h)
  clear hk
  go_enter Tryz.func84, Tryz.ntmps84
  go_wp2_with fail
  rw [HW.out]
  (with_reducible refine (KO.out).mono ?_)
  rintro e w1 ⟨rfl, hb1⟩
  have HB1 := hid (BW.out.trans (hb1.mono BW.out.size))
  have LX1 := hid (LX.out.old hb1)
  have HM0 := hid (CO_made w1 (lo := w.heap.size) HB1.out.size)
  have HB2 := hid (show Below w.heap.size w (w1.alloc (.map #[] 0)) from HB1.out.alloc HB1.out.size _)
  have LX2 := hid (LX1.out.new1 (o := .map #[] 0))
  have hz := hb1.size
  have HZ2 := hid (show (w1.alloc (.map #[] 0)).heap.size = w1.heap.size + 1 by simp)
  clear hb1
  go_wp2
  clear hmm
  obtain ⟨b, hb⟩ : ∃ b, b = w1.heap.size := ⟨_, rfl⟩
  have hbw : w.heap.size < b := by rw [hb]; have := HS.out; omega
  rw [← hb] at HM0 HZ2 ⊢
  clear hb
  generalize w1.alloc (.map #[] 0) = w2 at HM0 HB2 HZ2 LX2 ⊢
  go_loopw [14] (fun i wr => ∃ (k : Nat), k ≤ K.length ∧ i = .int .i64 k ∧ Hid (∃ E, CO wr b k E w.heap.size wr.heap.size ∧ ∀ x, (E x).map El.q = layG (scF o) (K.take k) G0 x) ∧ Hid (LocA 37 wr w.heap.size #[.bool s, .slice a1 n1 c1, .slice b1 m1 d1]) ∧ Hid (Below w.heap.size w wr)) (fun i _ => K.length - (intOf i).toNat)
  case atStart => exact ⟨0, Nat.zero_le _, rfl, hid ⟨_, HM0.out.wide (by rw [HZ2.out]; exact Nat.le_refl _), fun x => rfl⟩, LX2, HB2⟩
  case round =>
   obtain ⟨k, hk, rfl, hE, hL, hB⟩ := hrel
   by_cases hlt : k < K.length
   ·have X := hid (HV.out.old hB.out)
    obtain ⟨g1, a31, n31, c31, b31, m31, d31, rfl, hg1, qc1, q01, q11, q21, R1⟩ := X.out.at hK hlt
    obtain ⟨⟨x1, s1, A1, D1⟩, hf1⟩ : ∃ f, K[k]'(hlt) = f := ⟨_, rfl⟩
    simp only [hf1] at qc1 q01 R1
    have HF1 := hid hf1
    clear hf1
    obtain ⟨o1, ho1⟩ : ∃ o, Tq.o ⟨x1, s1, A1, D1⟩ = o := ⟨_, rfl⟩
    have HO1 := hid (show (K[k]'(hlt)).o = o1 by rw [HF1.out, ho1])
    have HX1 := hid (show (K[k]'(hlt)).c = x1 by rw [HF1.out])
    have RX1 := hid (show RA wr s1 (.slice a31 n31 c31) (.slice b31 m31 d31) o1 from ⟨A1, D1, R1, ho1⟩)
    have RLX1 := hid R1
    have RN1 := hid R1.nums
    clear ho1 R1
    have hx := HTK.out k hlt
    rw [HX1.out] at hx
    have HI64 := hid (show I64 x1 from ⟨by omega, by omega⟩)
    clear hx
    obtain ⟨ob, hob⟩ : ∃ ob, ob = (Go.Obj.cells #[.int .i64 x1, .bool s1, .slice a31 n31 c31, .slice b31 m31 d31] 123) := ⟨_, rfl⟩
    have hBW := hid (show Below wr.heap.size wr (wr.alloc ob).drew from Below_drew1 below_new')
    have hBZ := hid (show (wr.alloc ob).drew.heap.size = wr.heap.size + 1 by show (wr.alloc ob).heap.size = _; simp)
    have KF := hid (mul_t (w := (wr.alloc ob).drew) (RX1.out.old hBW.out) ((HX.out.old hB.out).old hBW.out))
    have LT := hid (show LocA 123 (wr.alloc ob).drew wr.heap.size #[.int .i64 x1, .bool s1, .slice a31 n31 c31, .slice b31 m31 d31] by rw [hob]; exact LocA.new)
    have LR := hid (hL.out.old hBW.out)
    obtain ⟨E, hco, hq⟩ := hE.out
    have hbl := hco.mi.lt
    have HCO := hid (hco.old hBW.out)
    have HQ := hid hq
    have HBD := hid (hB.out.trans (hBW.out.mono hB.out.size))
    have hwz := hB.out.size
    have a1' : (0 : Int) ≤ k := by omega
    have a2 : (k : Int) < K.length := by omega
    have HOB := hid hob
    clear hob hco hq
    have y0 := LT.out.c 0 rfl
    have y1 := LT.out.c 1 rfl
    have y2 := LT.out.c 2 rfl
    have y3 := LT.out.c 3 rfl
    have r0 := LR.out.c 0 rfl
    have r1 := LR.out.c 1 rfl
    have r2 := LR.out.c 2 rfl
    go_wp2_with fail
    rw [← HOB.out]
    clear qc1 q01 q11 q21
    refine wp_region_held_drew (S := (fun w' => w'.cell? ⟨wr.heap.size, 0, none⟩ = some (.int .i64 x1) ∧ w'.cell? ⟨wr.heap.size, 1, none⟩ = some (.bool s1) ∧ w'.cell? ⟨wr.heap.size, 2, none⟩ = some (.slice a31 n31 c31) ∧ w'.cell? ⟨wr.heap.size, 3, none⟩ = some (.slice b31 m31 d31) ∧ w'.cell? ⟨w.heap.size, 0, none⟩ = some (.bool s) ∧ w'.cell? ⟨w.heap.size, 1, none⟩ = some (.slice a1 n1 c1) ∧ w'.cell? ⟨w.heap.size, 2, none⟩ = some (.slice b1 m1 d1))) (by kernel_rfl) (by first | (first | with_reducible exact ⟨y0, y1, y2, y3, r0, r1, r2⟩ | exact ⟨y0, y1, y2, y3, r0, r1, r2⟩) | ((try dsimp only); first | with_reducible exact ⟨y0, y1, y2, y3, r0, r1, r2⟩ | exact ⟨y0, y1, y2, y3, r0, r1, r2⟩)) (fun hHeld => ?_)
    refine tk (i := 0) (v := ?_) rfl (by kernel_rfl) (fun _ _ _ h => h) (Or.inl ⟨by rfl, ?_⟩) (by assumption) ?_
    rotate_left
    ·(intro w hSw; (try dsimp only at hSw); go_simp; try (with_reducible rfl))
    try simp only [Act.put, ka1, ka2, ka3, ka4, ka5]
    refine tk (i := 1) (v := ?_) rfl (by kernel_rfl) (fun _ _ _ h => h) (Or.inl ⟨by rfl, ?_⟩) (by assumption) ?_
    rotate_left
    ·(intro w hSw; (try dsimp only at hSw); go_simp; try (with_reducible rfl))
    try simp only [Act.put, ka1, ka2, ka3, ka4, ka5, ka6]
    refine tk (i := 2) (v := ?_) rfl (by kernel_rfl) (fun _ _ _ h => h) (Or.inl ⟨by rfl, ?_⟩) (by assumption) ?_
    rotate_left
    ·(intro w hSw; (try dsimp only at hSw); go_simp; try (with_reducible rfl))
    try simp only [Act.put, ka1, ka2, ka3, ka4, ka5, ka6]
    refine tk (i := 3) (v := ?_) rfl (by kernel_rfl) (fun _ _ _ h => h) (Or.inl ⟨by rfl, ?_⟩) (by assumption) ?_
    rotate_left
    ·(intro w hSw; (try dsimp only at hSw); go_simp; try (with_reducible rfl))
    try simp only [Act.put, ka1, ka2, ka3, ka4, ka5, ka6]
    refine tk (i := 4) (v := ?_) rfl (by kernel_rfl) (fun _ _ _ h => h) (Or.inl ⟨by rfl, ?_⟩) (by assumption) ?_
    rotate_left
    ·(intro w hSw; (try dsimp only at hSw); go_simp; try (with_reducible rfl))
    try simp only [Act.put, ka1, ka2, ka3, ka4, ka5, ka6]
    refine tk (i := 5) (v := ?_) rfl (by kernel_rfl) (fun _ _ _ h => h) (Or.inl ⟨by rfl, ?_⟩) (by assumption) ?_
    rotate_left
    ·(intro w hSw; (try dsimp only at hSw); go_simp; try (with_reducible rfl))
    try simp only [Act.put, ka1, ka2, ka3, ka4, ka5, ka6]
    refine wpAnyH_ready (rs := [6]) (by kernel_rfl) (by simp) ?_
    refine AllReadyH.cons (o := _) rfl (fun K hK => ?_) AllReadyH.nil
    go_simp
    (with_reducible refine (KF.out).mono ?_)
    rintro e w5 ⟨s5, a5, n5, c5, b5, m5, d5, rfl, hr, hb⟩
    have LT := hid (LT.out.old hb)
    have LR := hid (LR.out.old hb)
    have y0 := LT.out.c 0 rfl
    have y1 := LT.out.c 1 rfl
    have y2 := LT.out.c 2 rfl
    have y3 := LT.out.c 3 rfl
    have r0 := LR.out.c 0 rfl
    have r1 := LR.out.c 1 rfl
    have r2 := LR.out.c 2 rfl
    have HCO := hid (HCO.out.old hb)
    have HBE := hid (HBD.out.trans (hb.mono HBD.out.size))
    have HMI := hid HCO.out.mi
    have hz5 := hid hb.size
    obtain ⟨⟨s6, A6, D6⟩, hfq⟩ : ∃ fq, fqo (bq mulF o1 o) = fq := ⟨_, rfl⟩
    have hrf := hr.rf
    have hsg : s5 = s6 := hr.sg.trans (congrArg Fq.s hfq)
    rw [hfq] at hrf
    subst hsg
    have HRF := hid hrf
    have HFQ := hid hfq
    clear hr hb hrf hfq
    go_wp2_with fail
    refine hK.out _ _ ?_ (fun hHeld => ?_)
    ·first | (first | with_reducible exact ⟨y0, y1, y2, y3, r0, r1, r2⟩ | exact ⟨y0, y1, y2, y3, r0, r1, r2⟩) | ((try dsimp only); first | with_reducible exact ⟨y0, y1, y2, y3, r0, r1, r2⟩ | exact ⟨y0, y1, y2, y3, r0, r1, r2⟩)
    refine wpAnyH_ready (rs := [7]) (by kernel_rfl) (by simp) ?_
    refine AllReadyH.cons (o := _) rfl (fun K hK => ?_) AllReadyH.nil
    refine step_storeM rfl _ _ _ rfl (by rfl) HMI.out (by omega) x1 HI64.out (by rfl) ⟨⟨s5, A6, D6⟩, .slice a5 n5 c5, .slice b5 m5 d5⟩ s5 a5 n5 c5 b5 m5 d5 rfl (by rfl) ?_
    intro wm hmm2 hgm
    have HCM := hid (HCO.out.put (w'' := w) HRF.out (by have := hBZ.out; omega) (by have := hBZ.out; omega) hmm2 hgm)
    have HBM := hid (HBE.out.grown hgm HBE.out.size fun j hj => by cases hj; exact HCO.out.low)
    have LTM := hid (show LocA 123 wm wr.heap.size #[.int .i64 x1, .bool s1, .slice a31 n31 c31, .slice b31 m31 d31] from (hgm.block _ LT.out.lt (fun e => by have := Option.some.inj e; omega)).trans LT.out)
    have LRM := hid (show LocA 37 wm w.heap.size #[.bool s, .slice a1 n1 c1, .slice b1 m1 d1] from (hgm.block _ LR.out.lt (fun e => by have := Option.some.inj e; omega)).trans LR.out)
    have y0 := LTM.out.c 0 rfl
    have y1 := LTM.out.c 1 rfl
    have y2 := LTM.out.c 2 rfl
    have y3 := LTM.out.c 3 rfl
    have r0 := LRM.out.c 0 rfl
    have r1 := LRM.out.c 1 rfl
    have r2 := LRM.out.c 2 rfl
    clear hmm2 hgm
    refine hK.out _ _ ?_ (fun hHeld => ?_)
    ·first | (first | with_reducible exact ⟨y0, y1, y2, y3, r0, r1, r2⟩ | exact ⟨y0, y1, y2, y3, r0, r1, r2⟩) | ((try dsimp only); first | with_reducible exact ⟨y0, y1, y2, y3, r0, r1, r2⟩ | exact ⟨y0, y1, y2, y3, r0, r1, r2⟩)
    refine wpAnyH_done (by kernel_rfl) ?_ _
    clear y0 y1 y2 y3 r0 r1 r2
    go_wp2
    go_roundw
    case rel => exact ⟨k + 1, by omega, by go_num, hid ⟨_, HCM.out, fun x => by rw [updG_of HQ.out, layG_take _ hlt, HX1.out, HO1.out, scF_at, HFQ.out]⟩, LRM, HBM⟩
    case measure => simp [intOf]; omega
   ·obtain rfl : k = K.length := by omega
    obtain ⟨E, hco, hq⟩ := hE.out
    rw [List.take_length] at hq
    have KT := hid (impl_terms (by omega) wr hco hq (Nat.le_refl _) hB.out.size)
    clear hco hq
    go_wp2_with fail
    (with_reducible refine (KT.out).mono ?_)
    rintro e w3 ⟨L, hcl, a4, m4, c4, rfl, htk, hb⟩
    have HTL := hid htk
    have HE := hid (HC.out L hcl)
    have HB := hid (hB.out.trans (hb.mono hB.out.size))
    clear htk hb hcl
    go_wp2
    go_ret
    exact ⟨_, _, _, rfl, by have := HTL.out; rwa [HE.out] at this, HB.out⟩
end Go.Proofs.YthkehmnodcmlcaaGreat
