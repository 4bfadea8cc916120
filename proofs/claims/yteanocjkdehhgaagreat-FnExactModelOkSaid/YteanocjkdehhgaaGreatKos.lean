import Derived.Test.YteanocjkdehhgaaGreatKo
import Derived.Deep.RegionHeld3
set_option maxRecDepth 100000
set_option maxHeartbeats 6400000
set_option linter.unusedVariables false
set_option linter.unusedSimpArgs false
namespace Go.Proofs.YteanocjkdehhgaaGreat
open Go.RowKit
open Go.Lib (hid)
theorem spec_l01In (x : Int) (w : World) : Calls Tryz.prog 74 #[.int .i64 x, .int .i64 1, .int .i64 8] w (RetB (.bool (decide ((1 : Int) ≤ x) && decide (x ≤ 8))) w) := by
 by_cases h0 : (1 : Int) ≤ x
 ·rw [decide_eq_true h0, Bool.true_and]
  by_cases h1 : x ≤ 8
  ·rw [decide_eq_true h1]
   go_enter Tryz.func74, Tryz.ntmps74
   go_wp2
   go_ret
   exact ⟨rfl, Below.refl _ _⟩
  ·rw [decide_eq_false h1]
   have h2 : decide (x ≤ 8) = false := decide_eq_false h1
   go_enter Tryz.func74, Tryz.ntmps74
   go_wp2
   go_ret
   exact ⟨rfl, Below.refl _ _⟩
 ·rw [decide_eq_false h0, Bool.false_and]
  have h2 : decide ((1 : Int) ≤ x) = false := decide_eq_false h0
  go_enter Tryz.func74, Tryz.ntmps74
  go_wp2
  go_ret
  exact ⟨rfl, Below.refl _ _⟩
theorem spec_ModelOk {x y z : Value} {C : List Cq} {K : List Tq} {R : List Wq} (hC : SmC C) (hn : ∀ q ∈ C, q.n.size ≤ 1048576) (hK : SmT K) (hR : SmR R) (w : World) (h : MdW w x y z C K R) :
  Calls Tryz.prog 14 #[.agg #[x, y, z]] w (RetB (.bool (mdOk C K R)) w) := by
 obtain ⟨a1, c1, b1, d1, e1, f1, rfl, rfl, rfl⟩ := h.form
 have hcl := hC.2
 have hrl := hR.2
 have B := hid (below_new' (w := w) (o := .cells #[.slice a1 C.length c1, .slice b1 K.length d1, .slice e1 R.length f1] 33))
 have L1 := hid (LocA.new (w := w) (T := 33) (cs := #[.slice a1 C.length c1, .slice b1 K.length d1, .slice e1 R.length f1]))
 have H := hid (h.old B.out)
 clear h
 obtain ⟨RR, hRR⟩ : ∃ RR, RR = mdOk C K R := ⟨_, rfl⟩
 rw [← hRR]
 have HRR := hid hRR
 clear hRR
 have KI := hid (fun (W : World) => spec_l01In (C.length : Int) W)
 generalize hWW : w.alloc (.cells #[.slice a1 C.length c1, .slice b1 K.length d1, .slice e1 R.length f1] 33) = W at B L1 H
 have HW := hid hWW
 clear hWW
 by_cases h18 : 1 ≤ C.length ∧ C.length ≤ 8
 case neg =>
  have hr : RR = false := by rw [HRR.out]; exact mdOk_n (by omega)
  subst hr
  have e0 : (decide ((1 : Int) ≤ C.length) && decide ((C.length : Int) ≤ 8)) = false := by rw [Bool.and_eq_false_iff, decide_eq_false_iff_not, decide_eq_false_iff_not]; omega
  rw [e0] at KI
  clear h18 e0
  go_enter Tryz.func14, Tryz.ntmps14
  go_wp2_with fail
  rw [HW.out]
  (with_reducible refine (KI.out _).mono ?_)
  rintro e w1 ⟨rfl, g1⟩
  have B := hid (B.out.trans (g1.mono B.out.size))
  clear g1
  go_wp2
  go_ret
  exact ⟨rfl, B.out⟩
 have e0 : (decide ((1 : Int) ≤ C.length) && decide ((C.length : Int) ≤ 8)) = true := by rw [Bool.and_eq_true, decide_eq_true_iff, decide_eq_true_iff]; omega
 rw [e0] at KI
 have H18 := hid h18
 have hnl : (nmsC C).length ≤ 40 := by rw [nmsC_len]; omega
 have hnz : ∀ s ∈ nmsC C, s.size ≤ 1048576 := fun s hs => by obtain ⟨q, hq, rfl⟩ := List.mem_map.1 hs; exact hn q hq
 have KN := hid (fun (W : World) (g : MdW W (.slice a1 C.length c1) (.slice b1 K.length d1) (.slice e1 R.length f1) C K R) => spec_ColNames hC.2 W g)
 have KB := hid (fun (W : World) (v : Value) (lo hi : Nat) (g : StO W v (nmsC C) lo hi) => spec_l07Names hnl hnz W g)
 have KT := hid (fun (W : World) (g : MdW W (.slice a1 C.length c1) (.slice b1 K.length d1) (.slice e1 R.length f1) C K R) => spec_TermsOk_md hK (C.length : Int) (by omega) (by omega) W g.t)
 clear h18 e0 hnl hnz
 cases hG : gdN [] (nmsC C) with
 |false =>
  have hr : RR = false := by rw [HRR.out]; exact mdOk_n (.inr (.inr (.inr (.inr (.inr (.inl hG))))))
  subst hr
  rw [hG] at KB
  clear hG
  go_enter Tryz.func14, Tryz.ntmps14
  go_wp2_with fail
  rw [HW.out]
  (with_reducible refine (KI.out _).mono ?_)
  rintro e w1 ⟨rfl, g1⟩
  have H := hid (H.out.old g1)
  have L1 := hid (L1.out.old g1)
  have B := hid (B.out.trans (g1.mono B.out.size))
  have q0 := L1.out.c 0 rfl
  have q1 := L1.out.c 1 rfl
  have q2 := L1.out.c 2 rfl
  clear g1
  go_wp2_with fail
  (with_reducible refine (KN.out _ H.out).mono ?_)
  rintro e w2 ⟨an, cn, rfl, hst, g1⟩
  have HS := hid (StO.of hst)
  have H := hid (H.out.old g1)
  have L1 := hid (L1.out.old g1)
  have B := hid (B.out.trans (g1.mono B.out.size))
  clear g1 hst q0 q1 q2
  go_wp2_with fail
  (with_reducible refine (KB.out _ _ _ _ HS.out).mono ?_)
  rintro e w3 ⟨rfl, g1⟩
  have H := hid (H.out.old g1)
  have L1 := hid (L1.out.old g1)
  have B := hid (B.out.trans (g1.mono B.out.size))
  clear g1
  go_wp2
  go_ret
  exact ⟨rfl, B.out⟩
 | true =>
 rw [hG] at KB
 have HG := hid hG
 clear hG
 cases hT : tok K C.length with
 |false =>
  have hr : RR = false := by rw [HRR.out]; exact mdOk_n (.inr (.inr (.inr (.inr (.inr (.inr hT))))))
  subst hr
  rw [hT] at KT
  clear hT
  go_enter Tryz.func14, Tryz.ntmps14
  go_wp2_with fail
  rw [HW.out]
  (with_reducible refine (KI.out _).mono ?_)
  rintro e w1 ⟨rfl, g1⟩
  have H := hid (H.out.old g1)
  have L1 := hid (L1.out.old g1)
  have B := hid (B.out.trans (g1.mono B.out.size))
  have q0 := L1.out.c 0 rfl
  have q1 := L1.out.c 1 rfl
  have q2 := L1.out.c 2 rfl
  clear g1
  go_wp2_with fail
  (with_reducible refine (KN.out _ H.out).mono ?_)
  rintro e w2 ⟨an, cn, rfl, hst, g1⟩
  have HS := hid (StO.of hst)
  have H := hid (H.out.old g1)
  have L1 := hid (L1.out.old g1)
  have B := hid (B.out.trans (g1.mono B.out.size))
  clear g1 hst q0 q1 q2
  go_wp2_with fail
  (with_reducible refine (KB.out _ _ _ _ HS.out).mono ?_)
  rintro e w3 ⟨rfl, g1⟩
  have H := hid (H.out.old g1)
  have L1 := hid (L1.out.old g1)
  have B := hid (B.out.trans (g1.mono B.out.size))
  clear g1
  have q1 := L1.out.c 1 rfl
  go_wp2_with fail
  (with_reducible refine (KT.out _ H.out).mono ?_)
  rintro e w4 ⟨rfl, g1⟩
  have H := hid (H.out.old g1)
  have L1 := hid (L1.out.old g1)
  have B := hid (B.out.trans (g1.mono B.out.size))
  have q2 := L1.out.c 2 rfl
  clear g1 q1
  go_wp2
  go_ret
  exact ⟨rfl, B.out⟩
 | true =>
 rw [hT] at KT
 have HTT := hid hT
 clear hT
 by_cases h10 : 10 < R.length
 case pos =>
  have hr : RR = false := by rw [HRR.out]; exact mdOk_n (.inr (.inr (.inl h10)))
  subst hr
  have t2 : (10 : Int) < R.length := by omega
  clear h10
  go_enter Tryz.func14, Tryz.ntmps14
  go_wp2_with fail
  rw [HW.out]
  (with_reducible refine (KI.out _).mono ?_)
  rintro e w1 ⟨rfl, g1⟩
  have H := hid (H.out.old g1)
  have L1 := hid (L1.out.old g1)
  have B := hid (B.out.trans (g1.mono B.out.size))
  have q0 := L1.out.c 0 rfl
  have q1 := L1.out.c 1 rfl
  have q2 := L1.out.c 2 rfl
  clear g1
  go_wp2_with fail
  (with_reducible refine (KN.out _ H.out).mono ?_)
  rintro e w2 ⟨an, cn, rfl, hst, g1⟩
  have HS := hid (StO.of hst)
  have H := hid (H.out.old g1)
  have L1 := hid (L1.out.old g1)
  have B := hid (B.out.trans (g1.mono B.out.size))
  clear g1 hst q0 q1 q2
  go_wp2_with fail
  (with_reducible refine (KB.out _ _ _ _ HS.out).mono ?_)
  rintro e w3 ⟨rfl, g1⟩
  have H := hid (H.out.old g1)
  have L1 := hid (L1.out.old g1)
  have B := hid (B.out.trans (g1.mono B.out.size))
  clear g1
  have q1 := L1.out.c 1 rfl
  go_wp2_with fail
  (with_reducible refine (KT.out _ H.out).mono ?_)
  rintro e w4 ⟨rfl, g1⟩
  have H := hid (H.out.old g1)
  have L1 := hid (L1.out.old g1)
  have B := hid (B.out.trans (g1.mono B.out.size))
  have q2 := L1.out.c 2 rfl
  clear g1 q1
  go_wp2
  go_ret
  exact ⟨rfl, B.out⟩
 have t2 : ¬ (10 : Int) < R.length := by omega
 have H10 := hid h10
 clear h10
 go_enter Tryz.func14, Tryz.ntmps14
 go_wp2_with fail
 rw [HW.out]
 (with_reducible refine (KI.out _).mono ?_)
 rintro e w1 ⟨rfl, g1⟩
 have H := hid (H.out.old g1)
 have L1 := hid (L1.out.old g1)
 have B := hid (B.out.trans (g1.mono B.out.size))
 have q0 := L1.out.c 0 rfl
 have q1 := L1.out.c 1 rfl
 have q2 := L1.out.c 2 rfl
 clear g1
 go_wp2_with fail
 (with_reducible refine (KN.out _ H.out).mono ?_)
 rintro e w2 ⟨an, cn, rfl, hst, g1⟩
 have HS := hid (StO.of hst)
 have H := hid (H.out.old g1)
 have L1 := hid (L1.out.old g1)
 have B := hid (B.out.trans (g1.mono B.out.size))
 clear g1 hst q0 q1 q2
 go_wp2_with fail
 (with_reducible refine (KB.out _ _ _ _ HS.out).mono ?_)
 rintro e w3 ⟨rfl, g1⟩
 have H := hid (H.out.old g1)
 have L1 := hid (L1.out.old g1)
 have B := hid (B.out.trans (g1.mono B.out.size))
 clear g1
 have q1 := L1.out.c 1 rfl
 go_wp2_with fail
 (with_reducible refine (KT.out _ H.out).mono ?_)
 rintro e w4 ⟨rfl, g1⟩
 have H := hid (H.out.old g1)
 have L1 := hid (L1.out.old g1)
 have B := hid (B.out.trans (g1.mono B.out.size))
 have q2 := L1.out.c 2 rfl
 clear g1 q1
 have q0 := L1.out.c 0 rfl
 go_wp2
 clear q0 q2 t2
 go_loopw [36] (fun i wr => ∃ k : Nat, k ≤ C.length ∧ i = .int .i64 k ∧ Hid ((C.take k).all colOk = true) ∧ Below w4.heap.size w4 wr) (fun i _ => C.length - (Go.RowKit.intOf i).toNat)
 case atStart => exact ⟨0, Nat.zero_le _, rfl, hid rfl, Below.refl _ _⟩
 case round =>
  obtain ⟨k, hk, rfl, hA, hbel⟩ := hrel
  by_cases hlt : k < C.length
  ·obtain ⟨g1, o1, v1, u1, x1, y1, rfl, hg1, q0, q1, q2, q3, q4, q5, q6, q7, R1⟩ := (H.out.old hbel).c.at hlt
   have hs1 := hC.1 _ (List.getElem_mem hlt)
   have HX := hid (fun e => all_stop (f := colOk) hlt e)
   have HY := hid (fun e => all_next (f := colOk) hlt hA.out e)
   generalize C[k] = p1 at q0 q1 q2 q3 q4 q5 q6 q7 R1 hs1 HX HY
   obtain ⟨n, s, A, D, z, F, G, b⟩ := p1
   simp only at q0 q1 q2 q3 q4 q5 q6 q7 hs1 R1
   obtain ⟨a3, c3, b3, d3, a4, c4, b4, d4, rfl, rfl, rfl, rfl⟩ := R1.form
   have BZ := hid (below_new' (w := wr) (o := .cells #[.string n, .bool s, .slice a3 A.length c3, .slice b3 D.length d3, .bool z, .slice a4 F.length c4, .slice b4 G.length d4, .bool b] 85))
   have L3 := hid (LocA.new (w := wr) (T := 85) (cs := #[.string n, .bool s, .slice a3 A.length c3, .slice b3 D.length d3, .bool z, .slice a4 F.length c4, .slice b4 G.length d4, .bool b]))
   have KU := hid (fun (W : World) (hb : Below wr.heap.size wr W) => spec_HasUpper n s z b hs1.2.2.1 hs1.2.2.2 W (R1.old hb))
   have KO := hid (fun (W : World) (hb : Below wr.heap.size wr W) => spec_RatOk s _ _ A D W ((R1.old hb).rll hs1.1 hs1.2.1))
   have KP := hid (fun (W : World) (hb : Below wr.heap.size wr W) => spec_RatOk z _ _ F G W ((R1.old hb).rlh hs1.2.2.1 hs1.2.2.2))
   have HB := hid hbel
   have a1' : (0 : Int) ≤ k := by omega
   have a2' : (k : Int) < C.length := by omega
   have hW0 := hid (show (wr.alloc (.cells #[.string n, .bool s, .slice a3 A.length c3, .slice b3 D.length d3, .bool z, .slice a4 F.length c4, .slice b4 G.length d4, .bool b] 85)).heap.size = wr.heap.size + 1 by simp)
   clear hs1 R1 hbel
   have HBT := hid (B.out.trans (HB.out.mono B.out.size))
   cases hl : rok s A D with
   |false =>
    have hr : RR = false := by rw [HRR.out]; exact mdOk_n (.inr (.inr (.inr (.inl (HX.out (by simp only [colOk, hl]; rfl))))))
    subst hr
    rw [hl] at KO
    clear hl
    go_wp2_with fail
    generalize wr.alloc (.cells #[.string n, .bool s, .slice a3 A.length c3, .slice b3 D.length d3, .bool z, .slice a4 F.length c4, .slice b4 G.length d4, .bool b] 85) = W1 at BZ L3 hW0 ⊢
    (with_reducible refine (KO.out _ BZ.out).mono ?_)
    rintro e w5 ⟨rfl, g1⟩
    have BZ := hid (BZ.out.trans (g1.mono BZ.out.size))
    have L3 := hid (L3.out.old g1)
    clear g1
    go_wp2
    go_ret
    exact ⟨rfl, HBT.out.trans (BZ.out.mono HBT.out.size)⟩
   |true =>
    rw [hl] at KO
    cases hu : hasU z F G with
    |false =>
     rw [hu] at KU
     have HU := hid hu
     clear hu
     go_wp2_with fail
     generalize wr.alloc (.cells #[.string n, .bool s, .slice a3 A.length c3, .slice b3 D.length d3, .bool z, .slice a4 F.length c4, .slice b4 G.length d4, .bool b] 85) = W1 at BZ L3 hW0 ⊢
     (with_reducible refine (KO.out _ BZ.out).mono ?_)
     rintro e w5 ⟨rfl, g1⟩
     have BZ := hid (BZ.out.trans (g1.mono BZ.out.size))
     have L3 := hid (L3.out.old g1)
     clear g1
     have y0 := L3.out.c 0 rfl
     have y1 := L3.out.c 1 rfl
     have y2 := L3.out.c 2 rfl
     have y3 := L3.out.c 3 rfl
     have y4 := L3.out.c 4 rfl
     have y5 := L3.out.c 5 rfl
     have y6 := L3.out.c 6 rfl
     have y7 := L3.out.c 7 rfl
     go_wp2_with fail
     (with_reducible refine (KU.out _ BZ.out).mono ?_)
     rintro e w6 ⟨rfl, g1⟩
     have BZ := hid (BZ.out.trans (g1.mono BZ.out.size))
     have L3 := hid (L3.out.old g1)
     clear g1
     clear y0 y1 y2 y3 y4 y5 y6 y7
     clear q0 q1 q2 q3 q4 q5 q6 q7
     have hY := hid (HY.out (by simp only [colOk, hl, HU.out]; rfl))
     have HBN := (show Below w4.heap.size w4 w6 from HB.out.trans (BZ.out.mono HB.out.size))
     go_wp2
     go_roundw
     case rel => exact ⟨k + 1, by omega, by go_num, hY, HBN⟩
     case measure => simp [Go.RowKit.intOf]; omega
    |true =>
     rw [hu] at KU
     have HU := hid hu
     clear hu
     cases hp : rok z F G with
     |false =>
      have hr : RR = false := by rw [HRR.out]; exact mdOk_n (.inr (.inr (.inr (.inl (HX.out (by simp only [colOk, hl, HU.out, hp]; rfl))))))
      subst hr
      rw [hp] at KP
      clear hp
      go_wp2_with fail
      generalize wr.alloc (.cells #[.string n, .bool s, .slice a3 A.length c3, .slice b3 D.length d3, .bool z, .slice a4 F.length c4, .slice b4 G.length d4, .bool b] 85) = W1 at BZ L3 hW0 ⊢
      (with_reducible refine (KO.out _ BZ.out).mono ?_)
      rintro e w5 ⟨rfl, g1⟩
      have BZ := hid (BZ.out.trans (g1.mono BZ.out.size))
      have L3 := hid (L3.out.old g1)
      clear g1
      have y0 := L3.out.c 0 rfl
      have y1 := L3.out.c 1 rfl
      have y2 := L3.out.c 2 rfl
      have y3 := L3.out.c 3 rfl
      have y4 := L3.out.c 4 rfl
      have y5 := L3.out.c 5 rfl
      have y6 := L3.out.c 6 rfl
      have y7 := L3.out.c 7 rfl
      go_wp2_with fail
      (with_reducible refine (KU.out _ BZ.out).mono ?_)
      rintro e w6 ⟨rfl, g1⟩
      have BZ := hid (BZ.out.trans (g1.mono BZ.out.size))
      have L3 := hid (L3.out.old g1)
      clear g1
      clear y0 y1 y2 y3 y4 y5 y6 y7
      have z4 := L3.out.c 4 rfl
      have z5 := L3.out.c 5 rfl
      have z6 := L3.out.c 6 rfl
      go_wp2_with fail
      (with_reducible refine (KP.out _ BZ.out).mono ?_)
      rintro e w7 ⟨rfl, g1⟩
      have BZ := hid (BZ.out.trans (g1.mono BZ.out.size))
      have L3 := hid (L3.out.old g1)
      clear g1
      clear z4 z5 z6
      go_wp2
      go_ret
      exact ⟨rfl, HBT.out.trans (BZ.out.mono HBT.out.size)⟩
     |true =>
      rw [hp] at KP
      go_wp2_with fail
      generalize wr.alloc (.cells #[.string n, .bool s, .slice a3 A.length c3, .slice b3 D.length d3, .bool z, .slice a4 F.length c4, .slice b4 G.length d4, .bool b] 85) = W1 at BZ L3 hW0 ⊢
      (with_reducible refine (KO.out _ BZ.out).mono ?_)
      rintro e w5 ⟨rfl, g1⟩
      have BZ := hid (BZ.out.trans (g1.mono BZ.out.size))
      have L3 := hid (L3.out.old g1)
      clear g1
      have y0 := L3.out.c 0 rfl
      have y1 := L3.out.c 1 rfl
      have y2 := L3.out.c 2 rfl
      have y3 := L3.out.c 3 rfl
      have y4 := L3.out.c 4 rfl
      have y5 := L3.out.c 5 rfl
      have y6 := L3.out.c 6 rfl
      have y7 := L3.out.c 7 rfl
      go_wp2_with fail
      (with_reducible refine (KU.out _ BZ.out).mono ?_)
      rintro e w6 ⟨rfl, g1⟩
      have BZ := hid (BZ.out.trans (g1.mono BZ.out.size))
      have L3 := hid (L3.out.old g1)
      clear g1
      clear y0 y1 y2 y3 y4 y5 y6 y7
      have z4 := L3.out.c 4 rfl
      have z5 := L3.out.c 5 rfl
      have z6 := L3.out.c 6 rfl
      go_wp2_with fail
      (with_reducible refine (KP.out _ BZ.out).mono ?_)
      rintro e w7 ⟨rfl, g1⟩
      have BZ := hid (BZ.out.trans (g1.mono BZ.out.size))
      have L3 := hid (L3.out.old g1)
      clear g1
      clear z4 z5 z6
      clear q0 q1 q2 q3 q4 q5 q6 q7
      have hY := hid (HY.out (by simp only [colOk, hl, HU.out, hp]; rfl))
      have HBN := (show Below w4.heap.size w4 w7 from HB.out.trans (BZ.out.mono HB.out.size))
      go_wp2
      go_roundw
      case rel => exact ⟨k + 1, by omega, by go_num, hY, HBN⟩
      case measure => simp [Go.RowKit.intOf]; omega
  ·obtain rfl : k = C.length := by omega
   have hall : C.all colOk = true := by have := hA.out; rwa [List.take_length] at this
   have HALL := hid hall
   have B := hid (B.out.trans (hbel.mono B.out.size))
   have H := hid (H.out.old hbel)
   have L1 := hid (L1.out.old hbel)
   have q0 := L1.out.c 2 rfl
   clear hbel hall
   go_wp2
   clear q0
   obtain ⟨wo, rfl⟩ : ∃ wo, wo = wr := ⟨_, rfl⟩
   go_loopw [58] (fun i wr => ∃ k : Nat, k ≤ R.length ∧ i = .int .i64 k ∧ Hid ((R.take k).all (rwOk C.length) = true) ∧ Below wo.heap.size wo wr) (fun i _ => R.length - (Go.RowKit.intOf i).toNat)
   case atStart => exact ⟨0, Nat.zero_le _, rfl, hid rfl, Below.refl _ _⟩
   case round =>
    obtain ⟨k, hk, rfl, hA, hbel⟩ := hrel
    by_cases hlt : k < R.length
    ·obtain ⟨g1, o1, t1, v1, u1, rfl, hg1, q0, q1, q2, q3, q4, R1⟩ := (H.out.old hbel).r.at hlt
     have hs1 := hR.1 _ (List.getElem_mem hlt)
     have HX := hid (fun e => all_stop (f := rwOk C.length) hlt e)
     have HY := hid (fun e => all_next (f := rwOk C.length) hlt hA.out e)
     generalize R[k] = p1 at q0 q1 q2 q3 q4 R1 hs1 HX HY
     obtain ⟨K1, x1, s1, A1, D1⟩ := p1
     simp only at q0 q1 q2 q3 q4 hs1 R1
     obtain ⟨a3, c3, b3, d3, e3, f3, rfl, rfl, rfl⟩ := R1.form
     have BZ := hid (below_new' (w := wr) (o := .cells #[.slice a3 K1.length c3, .int .i64 x1, .bool s1, .slice b3 A1.length d3, .slice e3 D1.length f3] 77))
     have KE := hid (fun (W : World) (hb : Below wr.heap.size wr W) => spec_RowOk x1 s1 hs1.1 hs1.2.1 hs1.2.2 (C.length : Int) (by omega) (by omega) W (R1.old hb))
     have HB := hid hbel
     have HBT := hid (B.out.trans (hbel.mono B.out.size))
     have a1' : (0 : Int) ≤ k := by omega
     have a2' : (k : Int) < R.length := by omega
     clear hs1 R1 hbel
     cases hl : rowOk K1 x1 s1 A1 D1 C.length with
     |false =>
      have hr : RR = false := by rw [HRR.out]; exact mdOk_n (.inr (.inr (.inr (.inr (.inl (HX.out hl))))))
      subst hr
      rw [hl] at KE
      clear hl
      go_wp2_with fail
      (with_reducible refine (KE.out _ BZ.out).mono ?_)
      rintro e w2 ⟨rfl, g1⟩
      have BZ := hid (BZ.out.trans (g1.mono BZ.out.size))
      clear g1
      go_wp2
      go_ret
      exact ⟨rfl, HBT.out.trans (BZ.out.mono HBT.out.size)⟩
     |true =>
      rw [hl] at KE
      have hY := hid (HY.out hl)
      clear hl
      go_wp2_with fail
      (with_reducible refine (KE.out _ BZ.out).mono ?_)
      rintro e w2 ⟨rfl, g1⟩
      have BZ := hid (BZ.out.trans (g1.mono BZ.out.size))
      have HBN := (show Below wo.heap.size wo w2 from HB.out.trans (BZ.out.mono HB.out.size))
      clear g1 q0 q1 q2 q3 q4
      go_wp2
      go_roundw
      case rel => exact ⟨k + 1, by omega, by go_num, hY, HBN⟩
      case measure => simp [Go.RowKit.intOf]; omega
    ·obtain rfl : k = R.length := by omega
     have hallR : R.all (rwOk C.length) = true := by have := hA.out; rwa [List.take_length] at this
     have hval : RR = true := by rw [HRR.out, mdOk_y (by have := H18.out; omega) (by have := H18.out; omega) (by have := H10.out; omega) HALL.out hallR, HG.out, HTT.out]; rfl
     have B := hid (B.out.trans (hbel.mono B.out.size))
     subst hval
     clear hbel hallR
     go_wp2
     go_ret
     exact ⟨rfl, B.out⟩
end Go.Proofs.YteanocjkdehhgaaGreat
