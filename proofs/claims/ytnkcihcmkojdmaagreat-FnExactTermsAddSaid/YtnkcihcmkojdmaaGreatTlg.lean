/- Merged: Tai Tlg. -/
import Derived.Test.YtnkcihcmkojdmaaGreatTam
import Derived.Deep.RegionLaw
import Derived.Deep.RegionHeld3
import Derived.Deep.DeepCutAuto
import Derived.Test.YtnkcihcmkojdmaaGreatTas
/- Sums of lists of terms: the program. -/
namespace Go.Proofs.YtnkcihcmkojdmaaGreat
open Go.RowKit
open Go.Lib (hid)
set_option linter.unusedVariables false

/-- A store into a map leaves a slice of terms as it is. -/
theorem TK_grown {p : Bool} {w w' : World} {v : Value} {K : List Tq} {lo hi b n : Nat} {E : Int → Option El} (h : TK p w v K lo hi) (hm : MI w b n E) (hg : w.grownBy w' (some b)) (hz : True) : TK p w' v K lo hi := by
  obtain ⟨D, ⟨es, clock, hb, -⟩, -⟩ := hm
  obtain ⟨F, hF, e⟩ := h
  have key : ∀ {y : Value} {L : List Int} {x : Nat}, Ints w x y L → Ints w' x y L := fun {y L x} hi => Ints_block hi fun k hk => hg.block k (Ints_lt hi k hk).2 (fun e => by
    cases e
    rcases hi.2 with ⟨rfl, -⟩ | ⟨g, cap, cur, rfl, h2, h3, -⟩
    · simp [Value.ownBlock] at hk
    · simp only [Value.ownBlock, Option.some.injEq] at hk
      subst hk
      rw [h3] at hb
      cases hb)
  refine ⟨F, ⟨own_block hF.row fun k hk => hg.block k (hF.lt k hk).2 (fun e => ?_), hF.high, fun x hx => ⟨⟨key (hF.el x hx).a.ints, (hF.el x hx).a.2⟩, ⟨key (hF.el x hx).d.ints, (hF.el x hx).d.2⟩⟩, hF.nd, hF.ap⟩, e⟩
  cases e
  rcases hF.row.2 with ⟨rfl, -⟩ | ⟨g, cap, cur, rfl, h2, h3, -⟩
  · simp [Value.ownBlock] at hk
  · simp only [Value.ownBlock, Option.some.injEq] at hk
    subst hk
    rw [h3] at hb
    cases hb
set_option maxRecDepth 100000 in
set_option maxHeartbeats 25600000 in
theorem impl_TermsAdd {p q : Bool} {a : Option Addr} {n c : Nat} {b' : Option Addr} {m d : Nat} {K M : List Tq} {lo hi lo' hi' : Nat} (hK : SmT K) (hM : SmT M) (w : World) (h : TK p w (.slice a n c) K lo hi) (h' : TK q w (.slice b' m d) M lo' hi') :
    Calls Tryz.prog 25 #[.slice a n c, .slice b' m d] w (TerR true (addT K M) w) := by
  have HV := hid h
  have HW := hid h'
  obtain rfl := h.num
  obtain rfl := h'.num
  clear h h'
  have hkl := hK.2
  have hml := hM.2
  have KO := hid (impl_TermsOk hK 40 (by decide) (by decide) w HV.out)
  have KP := hid (fun (U : World) (hb : Below w.heap.size w U) => impl_TermsOk hM 40 (by decide) (by decide) U (HW.out.old hb))
  obtain ⟨RR, hRR⟩ : ∃ RR, RR = addT K M := ⟨_, rfl⟩
  rw [← hRR]
  have HRR := hid hRR
  clear hRR
  have hmm := @run_makeMap Tryz.prog
  cases hk : tok K 40 with
  | false =>
    rw [hk] at KO
    have HN := hid (show RR = [] by rw [HRR.out, addT_no1 hk])
    rw [HN.out]
    clear hk hmm
    go_enter Tryz.func25, Tryz.ntmps25
    go_wp2_with fail
    (with_reducible refine (KO.out).mono ?_)
    rintro e w1 ⟨rfl, hb⟩
    have HB := hid hb
    clear hb
    go_wp2
    go_ret
    exact ⟨none, 0, 0, rfl, TK_nil _ _ _ _, HB.out⟩
  | true =>
    rw [hk] at KO
    cases hk2 : tok M 40 with
    | false =>
      rw [hk2] at KP
      have HN := hid (show RR = [] by rw [HRR.out, addT_no2 hk2])
      rw [HN.out]
      clear hk hk2 hmm
      go_enter Tryz.func25, Tryz.ntmps25
      go_wp2_with fail
      (with_reducible refine (KO.out).mono ?_)
      rintro e w1 ⟨rfl, hb⟩
      have HB := hid hb
      clear hb
      go_wp2_with fail
      (with_reducible refine (KP.out _ HB.out).mono ?_)
      rintro e w2 ⟨rfl, hb⟩
      have HB := hid (HB.out.trans (hb.mono HB.out.size))
      clear hb
      go_wp2
      go_ret
      exact ⟨none, 0, 0, rfl, TK_nil _ _ _ _, HB.out⟩
    | true =>
      rw [hk2] at KP
      have HC := hid (fun L (hl : ColsOf (layG adF (K ++ M) G0) L) => (by rw [hl.eq (cols_add hk hk2), coll_add hk hk2, HRR.out] : collG L (layG adF (K ++ M) G0) = RR))
      have HTK := hid (fun t (h : t ∈ K ++ M) => (by
        rcases List.mem_append.1 h with h | h
        · obtain ⟨j, hj, rfl⟩ := List.getElem_of_mem h
          have := tok_at hk hj
          exact ⟨by omega, by omega⟩
        · obtain ⟨j, hj, rfl⟩ := List.getElem_of_mem h
          have := tok_at hk2 hj
          exact ⟨by omega, by omega⟩ : I64 t.c))
      have hl1 := tok_len hk
      have hl2 := tok_len hk2
      clear hk hk2
      go_enter Tryz.func25, Tryz.ntmps25
      go_wp2_with fail
      (with_reducible refine (KO.out).mono ?_)
      rintro e w1 ⟨rfl, hb⟩
      have HB := hid hb
      clear hb
      go_wp2_with fail
      (with_reducible refine (KP.out _ HB.out).mono ?_)
      rintro e w2 ⟨rfl, hb⟩
      have HB := hid (HB.out.trans (hb.mono HB.out.size))
      clear hb
      have hz0 := HB.out.size
      have HM0 := hid (CO_made w2 (lo := w.heap.size) hz0)
      have HB2 := hid (show Below w.heap.size w (w2.alloc (.map #[] 0)) from HB.out.alloc hz0 _)
      have HZ2 := hid (show (w2.alloc (.map #[] 0)).heap.size = w2.heap.size + 1 by simp)
      obtain ⟨b, hb⟩ : ∃ b, b = w2.heap.size := ⟨_, rfl⟩
      have hbw : w.heap.size ≤ b := by rw [hb]; exact hz0
      rw [← hb] at HM0 HZ2
      have HBE := hid hb
      clear hb
      generalize hWm : w2.alloc (.map #[] 0) = w3 at HM0 HB2 HZ2
      have HWm := hid hWm
      clear hWm
      have HBL := hid (below_new' (w := w3) (o := .cells #[.slice a K.length c, .slice b' M.length d] 46))
      have kc := (concat2 hkl hml (w3.alloc (.cells #[.slice a K.length c, .slice b' M.length d] 46)) (heap_alloc_new w3 _) ((HV.out.old HB2.out).old HBL.out) ((HW.out.old HB2.out).old HBL.out))
      rw [HZ2.out] at kc
      have KC := hid kc
      clear kc
      go_wp2_with fail
      rw [← HBE.out, HWm.out]
      clear hmm
      (with_reducible refine (KC.out).mono ?_)
      rintro e w4 ⟨aj, lj, cj, rfl, htj, hb⟩
      have HJ0 := hid htj
      obtain rfl := htj.num
      have HB4 := hid ((HB2.out.alloc HB2.out.size (.cells #[.slice a K.length c, .slice b' M.length d] 46)).trans (hb.mono (by have := HB2.out.size; simp; omega)))
      have HM4 := hid ((HM0.out.old (show Below w3.heap.size w3 w4 from HBL.out.trans (hb.mono (by simp)))).wide (hi' := w4.heap.size) (by have h1 := hb.size; have h2 := HZ2.out; simp at h1; omega))
      have hJl : (K ++ M).length ≤ 80 := by rw [List.length_append]; omega
      have hJ := hid (show SmT (K ++ M) from ⟨fun f hf => (List.mem_append.1 hf).elim (fun h => hK.1 f h) (fun h => hM.1 f h), by omega⟩)
      clear hb htj
      generalize K ++ M = J at HC HTK HJ0 hJ hJl ⊢
      go_wp2
      go_loopw [22] (fun i wr => ∃ (k : Nat), k ≤ J.length ∧ i = .int .i64 k ∧ Hid (∃ E, CO wr b k E w.heap.size wr.heap.size ∧ ∀ x, (E x).map El.q = layG adF (J.take k) G0 x) ∧ Hid (TK false wr (.slice aj J.length cj) J 0 wr.heap.size) ∧ Hid (Below w.heap.size w wr)) (fun i _ => J.length - (intOf i).toNat)
      case atStart => exact ⟨0, Nat.zero_le _, rfl, hid ⟨_, HM4.out, fun x => rfl⟩, HJ0, HB4⟩
      case round =>
        obtain ⟨k, hk, rfl, hE, hJJ, hB⟩ := hrel
        by_cases hlt : k < J.length
        · have X := hid hJJ.out
          obtain ⟨g1, a31, n31, c31, b31, m31, d31, rfl, hg1, qc1, q01, q11, q21, R1⟩ := X.out.at hJ.out hlt
          obtain ⟨⟨x1, s1, A1, D1⟩, hf1⟩ : ∃ f, J[k]'(hlt) = f := ⟨_, rfl⟩
          simp only [hf1] at qc1 q01 R1
          have HF1 := hid hf1
          clear hf1
          obtain ⟨o1, ho1⟩ : ∃ o, Tq.o ⟨x1, s1, A1, D1⟩ = o := ⟨_, rfl⟩
          have HO1 := hid (show (J[k]'(hlt)).o = o1 by rw [HF1.out, ho1])
          have HX1 := hid (show (J[k]'(hlt)).c = x1 by rw [HF1.out])
          have RX1 := hid (show RA wr s1 (.slice a31 n31 c31) (.slice b31 m31 d31) o1 from ⟨A1, D1, R1, ho1⟩)
          have RLX1 := hid R1
          have RN1 := hid R1.nums
          clear ho1 R1
          have HI64 := hid (show I64 x1 by have := HTK.out _ (List.getElem_mem hlt); rwa [HX1.out] at this)
          obtain ⟨ob, hob⟩ : ∃ ob, ob = (Go.Obj.cells #[.int .i64 x1, .bool s1, .slice a31 n31 c31, .slice b31 m31 d31] 93) := ⟨_, rfl⟩
          have hBW := hid (show Below wr.heap.size wr (wr.alloc ob).drew from Below_drew1 below_new')
          have hBZ := hid (show (wr.alloc ob).drew.heap.size = wr.heap.size + 1 by show (wr.alloc ob).heap.size = _; simp)
          obtain ⟨E, hco, hq⟩ := hE.out
          have hbl := hco.mi.lt
          have HCO := hid (hco.old hBW.out)
          have HQ := hid hq
          obtain ⟨oz, hoz⟩ : ∃ oz, ofG (layG adF (J.take k) G0) x1 = oz := ⟨_, rfl⟩
          have HOZ := hid hoz
          have KF := hid (show Calls Tryz.prog 71 #[.map (some b), .int .i64 x1] (wr.alloc ob).drew (OfR oz (wr.alloc ob).drew) by rw [← hoz]; exact impl_of HI64.out _ HCO.out hq)
          have RXD := hid (RX1.out.old hBW.out)
          have LT := hid (show LocA 93 (wr.alloc ob).drew wr.heap.size #[.int .i64 x1, .bool s1, .slice a31 n31 c31, .slice b31 m31 d31] by rw [hob]; exact LocA.new)
          have HBD := hid (hB.out.trans (hBW.out.mono hB.out.size))
          have HJ := hid (hJJ.out.old hBW.out)
          have hwz := hB.out.size
          have a1' : (0 : Int) ≤ k := by omega
          have a2 : (k : Int) < J.length := by omega
          have HOB := hid hob
          clear hob hco hq hoz
          have y0 := LT.out.c 0 rfl
          have y1 := LT.out.c 1 rfl
          have y2 := LT.out.c 2 rfl
          have y3 := LT.out.c 3 rfl
          go_wp2_with fail
          rw [← HOB.out]
          clear qc1 q01 q11 q21
          refine wp_region_held_drew (S := (fun w' => w'.cell? ⟨wr.heap.size, 0, none⟩ = some (.int .i64 x1) ∧ w'.cell? ⟨wr.heap.size, 1, none⟩ = some (.bool s1) ∧ w'.cell? ⟨wr.heap.size, 2, none⟩ = some (.slice a31 n31 c31) ∧ w'.cell? ⟨wr.heap.size, 3, none⟩ = some (.slice b31 m31 d31))) (by kernel_rfl) (by first | (first | with_reducible exact ⟨y0, y1, y2, y3⟩ | exact ⟨y0, y1, y2, y3⟩) | ((try dsimp only); first | with_reducible exact ⟨y0, y1, y2, y3⟩ | exact ⟨y0, y1, y2, y3⟩)) (fun hHeld => ?_)
          refine wpAnyH_take (i := 0) (oi := _) (v := ?_) rfl (by kernel_rfl) (by kernel_rfl) (by kernel_rfl) (fun _ _ _ h => h) (Or.inl ⟨by rfl, ?_⟩) (by assumption) ?_
          rotate_left
          · (intro w hSw; (try dsimp only at hSw); go_simp; try (with_reducible rfl))
          try simp only [Act.put, List.setIfInBounds_toArray, List.set_cons_zero, List.set_cons_succ, List.getElem_toArray, List.getElem_cons_zero]
          refine wpAnyH_take (i := 1) (oi := _) (v := ?_) rfl (by kernel_rfl) (by kernel_rfl) (by kernel_rfl) (fun _ _ _ h => h) (Or.inl ⟨by rfl, ?_⟩) (by assumption) ?_
          rotate_left
          · (intro w hSw; (try dsimp only at hSw); go_simp; try (with_reducible rfl))
          try simp only [Act.put, List.setIfInBounds_toArray, List.set_cons_zero, List.set_cons_succ, List.getElem_toArray, List.getElem_cons_zero, List.getElem_cons_succ]
          refine wpAnyH_take (i := 2) (oi := _) (v := ?_) rfl (by kernel_rfl) (by kernel_rfl) (by kernel_rfl) (fun _ _ _ h => h) (Or.inl ⟨by rfl, ?_⟩) (by assumption) ?_
          rotate_left
          · (intro w hSw; (try dsimp only at hSw); go_simp; try (with_reducible rfl))
          try simp only [Act.put, List.setIfInBounds_toArray, List.set_cons_zero, List.set_cons_succ, List.getElem_toArray, List.getElem_cons_zero, List.getElem_cons_succ]
          refine wpAnyH_take (i := 3) (oi := _) (v := ?_) rfl (by kernel_rfl) (by kernel_rfl) (by kernel_rfl) (fun _ _ _ h => h) (Or.inl ⟨by rfl, ?_⟩) (by assumption) ?_
          rotate_left
          · (intro w hSw; (try dsimp only at hSw); go_simp; try (with_reducible rfl))
          try simp only [Act.put, List.setIfInBounds_toArray, List.set_cons_zero, List.set_cons_succ, List.getElem_toArray, List.getElem_cons_zero, List.getElem_cons_succ]
          refine wpAnyH_take (i := 4) (oi := _) (v := ?_) rfl (by kernel_rfl) (by kernel_rfl) (by kernel_rfl) (fun _ _ _ h => h) (Or.inl ⟨by rfl, ?_⟩) (by assumption) ?_
          rotate_left
          · (intro w hSw; (try dsimp only at hSw); go_simp; try (with_reducible rfl))
          try simp only [Act.put, List.setIfInBounds_toArray, List.set_cons_zero, List.set_cons_succ, List.getElem_toArray, List.getElem_cons_zero, List.getElem_cons_succ]
          refine wpAnyH_take (i := 5) (oi := _) (v := ?_) rfl (by kernel_rfl) (by kernel_rfl) (by kernel_rfl) (fun _ _ _ h => h) (Or.inl ⟨by rfl, ?_⟩) (by assumption) ?_
          rotate_left
          · (intro w hSw; (try dsimp only at hSw); go_simp; try (with_reducible rfl))
          try simp only [Act.put, List.setIfInBounds_toArray, List.set_cons_zero, List.set_cons_succ, List.getElem_toArray, List.getElem_cons_zero, List.getElem_cons_succ]
          refine wpAnyH_take (i := 7) (oi := _) (v := ?_) rfl (by kernel_rfl) (by kernel_rfl) (by kernel_rfl) (fun _ _ _ h => h) (Or.inl ⟨by rfl, ?_⟩) (by assumption) ?_
          rotate_left
          · (intro w hSw; (try dsimp only at hSw); go_simp; try (with_reducible rfl))
          try simp only [Act.put, List.setIfInBounds_toArray, List.set_cons_zero, List.set_cons_succ, List.getElem_toArray, List.getElem_cons_zero, List.getElem_cons_succ]
          refine wpAnyH_take (i := 8) (oi := _) (v := ?_) rfl (by kernel_rfl) (by kernel_rfl) (by kernel_rfl) (fun _ _ _ h => h) (Or.inl ⟨by rfl, ?_⟩) (by assumption) ?_
          rotate_left
          · (intro w hSw; (try dsimp only at hSw); go_simp; try (with_reducible rfl))
          try simp only [Act.put, List.setIfInBounds_toArray, List.set_cons_zero, List.set_cons_succ, List.getElem_toArray, List.getElem_cons_zero, List.getElem_cons_succ]
          refine wpAnyH_ready (rs := [6]) (by kernel_rfl) (by simp) ?_
          refine AllReadyH.cons (o := _) rfl (fun K hK => ?_) AllReadyH.nil
          go_simp
          (with_reducible refine (KF.out).mono ?_)
          rintro e w4 ⟨s4, a4, n4, c4, b4, m4, d4, rfl, hr, hb⟩
          have LT := hid (LT.out.old hb)
          have y0 := LT.out.c 0 rfl
          have y1 := LT.out.c 1 rfl
          have y2 := LT.out.c 2 rfl
          have y3 := LT.out.c 3 rfl
          have HCO := hid (HCO.out.old hb)
          have HBD := hid (HBD.out.trans (hb.mono HBD.out.size))
          have hz4 := hid hb.size
          have KA := hid (add_o (w := w4) hr (RXD.out.old hb))
          have HJ := hid (HJ.out.old hb)
          clear hr hb
          go_wp2_with fail
          refine hK.out _ _ ?_ (fun hHeld => ?_)
          · first | (first | with_reducible exact ⟨y0, y1, y2, y3⟩ | exact ⟨y0, y1, y2, y3⟩) | ((try dsimp only); first | with_reducible exact ⟨y0, y1, y2, y3⟩ | exact ⟨y0, y1, y2, y3⟩)
          refine wpAnyH_ready (rs := [9]) (by kernel_rfl) (by simp) ?_
          refine AllReadyH.cons (o := _) rfl (fun K hK => ?_) AllReadyH.nil
          go_simp
          (with_reducible refine (KA.out).mono ?_)
          rintro e w5 ⟨s5, a5, n5, c5, b5, m5, d5, rfl, hr, hb⟩
          have LT := hid (LT.out.old hb)
          have y0 := LT.out.c 0 rfl
          have y1 := LT.out.c 1 rfl
          have y2 := LT.out.c 2 rfl
          have y3 := LT.out.c 3 rfl
          have HCO := hid (HCO.out.old hb)
          have HBE := hid (HBD.out.trans (hb.mono HBD.out.size))
          have HMI := hid HCO.out.mi
          have hz5 := hid hb.size
          obtain ⟨⟨s6, A6, D6⟩, hfq⟩ : ∃ fq, fqo (bq addF oz o1) = fq := ⟨_, rfl⟩
          have hrf := hr.rf
          have hsg : s5 = s6 := hr.sg.trans (congrArg Fq.s hfq)
          rw [hfq] at hrf
          subst hsg
          have HRF := hid hrf
          have HFQ := hid hfq
          have HJ := hid (HJ.out.old hb)
          clear hr hb hrf hfq
          go_wp2_with fail
          refine hK.out _ _ ?_ (fun hHeld => ?_)
          · first | (first | with_reducible exact ⟨y0, y1, y2, y3⟩ | exact ⟨y0, y1, y2, y3⟩) | ((try dsimp only); first | with_reducible exact ⟨y0, y1, y2, y3⟩ | exact ⟨y0, y1, y2, y3⟩)
          refine wpAnyH_ready (rs := [10]) (by kernel_rfl) (by simp) ?_
          refine AllReadyH.cons (o := _) rfl (fun K hK => ?_) AllReadyH.nil
          refine step_storeM rfl _ _ _ rfl (by rfl) HMI.out (by omega) x1 HI64.out (by rfl) ⟨⟨s5, A6, D6⟩, .slice a5 n5 c5, .slice b5 m5 d5⟩ s5 a5 n5 c5 b5 m5 d5 rfl (by rfl) ?_
          intro wm hmm2 hgm
          have HCM := hid (HCO.out.put (w'' := w) HRF.out (by have h1 := hBZ.out; have h2 := hz4.out; omega) (by have h1 := hBZ.out; have h2 := hz4.out; omega) hmm2 hgm)
          have HBM := hid (HBE.out.grown hgm HBE.out.size fun j hj => by cases hj; exact HCO.out.low)
          have HJM := hid (TK_grown HJ.out HMI.out hgm trivial)
          have LTM := hid (show LocA 93 wm wr.heap.size #[.int .i64 x1, .bool s1, .slice a31 n31 c31, .slice b31 m31 d31] from (hgm.block _ LT.out.lt (fun e => by have := Option.some.inj e; omega)).trans LT.out)
          have y0 := LTM.out.c 0 rfl
          have y1 := LTM.out.c 1 rfl
          have y2 := LTM.out.c 2 rfl
          have y3 := LTM.out.c 3 rfl
          clear hmm2 hgm
          refine hK.out _ _ ?_ (fun hHeld => ?_)
          · first | (first | with_reducible exact ⟨y0, y1, y2, y3⟩ | exact ⟨y0, y1, y2, y3⟩) | ((try dsimp only); first | with_reducible exact ⟨y0, y1, y2, y3⟩ | exact ⟨y0, y1, y2, y3⟩)
          refine wpAnyH_done (by kernel_rfl) ?_ _
          clear y0 y1 y2 y3
          go_wp2
          go_roundw
          case rel => exact ⟨k + 1, by omega, by go_num, hid ⟨_, HCM.out, fun x => by rw [updG_of HQ.out, layG_take _ hlt, HX1.out, HO1.out, HOZ.out, adF_at, HFQ.out]⟩, hid (HJM.out.hi.wide (Nat.le_refl _) (Nat.le_refl _)), HBM⟩
          case measure => simp [intOf]; omega
        · obtain rfl : k = J.length := by omega
          obtain ⟨E, hco, hq⟩ := hE.out
          rw [List.take_length] at hq
          have KT := hid (impl_terms (by omega) wr hco hq (Nat.le_refl _) hB.out.size)
          clear hco hq
          go_wp2_with fail
          (with_reducible refine (KT.out).mono ?_)
          rintro e w3 ⟨L, hcl, a4, m4, c4, rfl, htk, hb⟩
          have HTL := hid htk
          have HE := hid (HC.out L hcl)
          have HB := hid (hB.out.trans (hb.mono hB.out.size))
          clear htk hb hcl
          go_wp2
          go_ret
          exact ⟨_, _, _, rfl, by have := HTL.out; rwa [HE.out] at this, HB.out⟩
end Go.Proofs.YtnkcihcmkojdmaaGreat

/- The law TermsAdd. -/
namespace Go.Proofs.YtnkcihcmkojdmaaGreat
open Go.RowKit
open Go.Lib (hid)
set_option linter.unusedVariables false

set_option maxRecDepth 100000 in
set_option maxHeartbeats 25600000 in
theorem law_TermsAdd (a : Option Addr) (n c : Nat) (K : List Tq) (hnK : n ≤ maxLen) (hmK : ∀ f ∈ K, f.A.length ≤ maxLen ∧ f.D.length ≤ maxLen) (a' : Option Addr) (n' c' : Nat) (L : List Tq) (hnL : n' ≤ maxLen) (hmL : ∀ f ∈ L, f.A.length ≤ maxLen ∧ f.D.length ≤ maxLen) (w : World) (rK : TCame w w.heap.size a n K) (rL : TCame w w.heap.size a' n' L) :
    Calls Tryz.prog 4 #[.slice a n c, .slice a' n' c'] w (RetB (.bool true) w) := by
  have B := hid (Below.refl w.heap.size w)
  have rK := hid rK
  have rL := hid rL
  by_cases hsK : (szU K : Int) ≤ 1048576
  case neg =>
    go_enter Tryz.func4, Tryz.ntmps4
    obtain ⟨w0, hw0⟩ : ∃ w0, w0 = w := ⟨_, rfl⟩
    rw [← hw0] at B rK rL ⊢
    clear hw0
    go_wp2_with fail
    (with_reducible refine (szTermS_no _ _ _ _ K (1048576) hnK hmK (by omega) (by omega) (by omega) _ rK.out).mono ?_)
    rintro e w1 ⟨rfl, b1⟩
    have t1 : w0.heap.size ≤ w1.heap.size := by have := b1.size; omega
    have rK := hid (rK.out.old b1)
    have rL := hid (rL.out.old b1)
    have B := hid (B.out.trans (b1.mono B.out.size))
    clear b1
    go_wp2
    go_ret
    exact ⟨rfl, B.out⟩
  by_cases hsL : (szU L : Int) ≤ 1048576 - (szU K : Int)
  case neg =>
    go_enter Tryz.func4, Tryz.ntmps4
    obtain ⟨w0, hw0⟩ : ∃ w0, w0 = w := ⟨_, rfl⟩
    rw [← hw0] at B rK rL ⊢
    clear hw0
    go_wp2_with fail
    (with_reducible refine (szTermS_yes _ _ _ _ K (1048576) (by omega) (by omega) _ rK.out).mono ?_)
    rintro e w1 ⟨rfl, b1⟩
    have t1 : w0.heap.size ≤ w1.heap.size := by have := b1.size; omega
    have rK := hid (rK.out.old b1)
    have rL := hid (rL.out.old b1)
    have B := hid (B.out.trans (b1.mono B.out.size))
    clear b1
    go_wp2_with fail
    (with_reducible refine (szTermS_no _ _ _ _ L (1048576 - (szU K : Int)) hnL hmL (by omega) (by omega) (by omega) _ rL.out).mono ?_)
    rintro e w2 ⟨rfl, b1⟩
    have t2 : w1.heap.size ≤ w2.heap.size := by have := b1.size; omega
    have rK := hid (rK.out.old b1)
    have rL := hid (rL.out.old b1)
    have B := hid (B.out.trans (b1.mono B.out.size))
    clear b1
    go_wp2
    go_ret
    exact ⟨rfl, B.out⟩
  have hztK := szT_szU K
  have hSK : SmT K := SmT.of (by omega)
  have hslK : szU K ≤ 1048576 := by omega
  have hztL := szT_szU L
  have hSL : SmT L := SmT.of (by omega)
  have hslL : szU L ≤ 1048576 := by omega
  obtain ⟨RR, hRR⟩ : ∃ RR, RR = addT K L := ⟨_, rfl⟩
  have hrs : szT RR ≤ 4000 := by rw [hRR]; exact addT_sz K L
  have HRR := hid hRR
  clear hRR
  go_enter Tryz.func4, Tryz.ntmps4
  obtain ⟨w0, hw0⟩ : ∃ w0, w0 = w := ⟨_, rfl⟩
  rw [← hw0] at B rK rL ⊢
  clear hw0
  go_wp2_with fail
  (with_reducible refine (szTermS_yes _ _ _ _ K (1048576) (by omega) (by omega) _ rK.out).mono ?_)
  rintro e w1 ⟨rfl, b1⟩
  have t1 : w0.heap.size ≤ w1.heap.size := by have := b1.size; omega
  have rK := hid (rK.out.old b1)
  have rL := hid (rL.out.old b1)
  have B := hid (B.out.trans (b1.mono B.out.size))
  clear b1
  go_wp2_with fail
  (with_reducible refine (szTermS_yes _ _ _ _ L (1048576 - (szU K : Int)) (by omega) (by omega) _ rL.out).mono ?_)
  rintro e w2 ⟨rfl, b1⟩
  have t2 : w1.heap.size ≤ w2.heap.size := by have := b1.size; omega
  have rK := hid (rK.out.old b1)
  have rL := hid (rL.out.old b1)
  have B := hid (B.out.trans (b1.mono B.out.size))
  clear b1
  go_wp2_with fail
  (with_reducible refine (toTermS_came _ _ _ _ K (by omega) _ rK.out).mono ?_)
  rintro e w3 ⟨a3, n3, c3, rfl, i1, b1⟩
  have t3 : w2.heap.size ≤ w3.heap.size := by have := b1.size; omega
  have rK := hid (rK.out.old b1)
  have rL := hid (rL.out.old b1)
  have B := hid (B.out.trans (b1.mono B.out.size))
  have TK := hid i1
  clear i1 b1
  go_wp2_with fail
  (with_reducible refine (toTermS_came _ _ _ _ L (by omega) _ rL.out).mono ?_)
  rintro e w4 ⟨a4, n4, c4, rfl, i1, b1⟩
  have t4 : w3.heap.size ≤ w4.heap.size := by have := b1.size; omega
  have rK := hid (rK.out.old b1)
  have rL := hid (rL.out.old b1)
  have TK := hid (TK.out.old b1)
  have B := hid (B.out.trans (b1.mono B.out.size))
  have TL := hid i1
  clear i1 b1
  have KR := hid (spec_TermsAdd hSK hSL w4 TK.out TL.out)
  rw [← HRR.out] at KR
  go_wp2_with fail
  (with_reducible refine (KR.out).mono ?_)
  rintro e w5 ⟨a5, n5, c5, rfl, i1, b1⟩
  have t5 : w4.heap.size ≤ w5.heap.size := by have := b1.size; omega
  have rK := hid (rK.out.old b1)
  have rL := hid (rL.out.old b1)
  have TK := hid (TK.out.old b1)
  have TL := hid (TL.out.old b1)
  have B := hid (B.out.trans (b1.mono B.out.size))
  have W0 := hid i1
  clear i1 b1
  clear KR
  go_wp2_with fail
  (with_reducible refine (toTermS_came _ _ _ _ K (by omega) _ rK.out).mono ?_)
  rintro e w6 ⟨a6, n6, c6, rfl, i1, b1⟩
  have t6 : w5.heap.size ≤ w6.heap.size := by have := b1.size; omega
  have rK := hid (rK.out.old b1)
  have rL := hid (rL.out.old b1)
  have W0 := hid (W0.out.old b1)
  have B := hid (B.out.trans (b1.mono B.out.size))
  have XK := hid i1
  clear i1 b1
  go_wp2_with fail
  (with_reducible refine (toTermS_came _ _ _ _ L (by omega) _ rL.out).mono ?_)
  rintro e w7 ⟨a7, n7, c7, rfl, i1, b1⟩
  have t7 : w6.heap.size ≤ w7.heap.size := by have := b1.size; omega
  have rK := hid (rK.out.old b1)
  have rL := hid (rL.out.old b1)
  have W0 := hid (W0.out.old b1)
  have XK := hid (XK.out.old b1)
  have B := hid (B.out.trans (b1.mono B.out.size))
  have XL := hid i1
  clear i1 b1
  have KR := hid (impl_TermsAdd hSK hSL w7 XK.out XL.out)
  rw [← HRR.out] at KR
  go_wp2_with fail
  (with_reducible refine (KR.out).mono ?_)
  rintro e w8 ⟨a8, n8, c8, rfl, i1, b1⟩
  have t8 : w7.heap.size ≤ w8.heap.size := by have := b1.size; omega
  have rK := hid (rK.out.old b1)
  have rL := hid (rL.out.old b1)
  have W0 := hid (W0.out.old b1)
  have XK := hid (XK.out.old b1)
  have XL := hid (XL.out.old b1)
  have B := hid (B.out.trans (b1.mono B.out.size))
  have G0 := hid i1
  clear i1 b1
  clear KR
  go_wp2_with fail
  (with_reducible refine (eqTermS_k (by omega) _ G0.out W0.out).mono ?_)
  rintro e w9 ⟨rfl, b1⟩
  have t9 : w8.heap.size ≤ w9.heap.size := by have := b1.size; omega
  have rK := hid (rK.out.old b1)
  have rL := hid (rL.out.old b1)
  have W0 := hid (W0.out.old b1)
  have XK := hid (XK.out.old b1)
  have XL := hid (XL.out.old b1)
  have G0 := hid (G0.out.old b1)
  have B := hid (B.out.trans (b1.mono B.out.size))
  clear b1
  go_wp2_with fail
  (with_reducible refine (toTermS_came _ _ _ _ K (by omega) _ rK.out).mono ?_)
  rintro e w10 ⟨a10, n10, c10, rfl, i1, b1⟩
  have t10 : w9.heap.size ≤ w10.heap.size := by have := b1.size; omega
  have rK := hid (rK.out.old b1)
  have rL := hid (rL.out.old b1)
  have W0 := hid (W0.out.old b1)
  have XK := hid (XK.out.old b1)
  have XL := hid (XL.out.old b1)
  have G0 := hid (G0.out.old b1)
  have B := hid (B.out.trans (b1.mono B.out.size))
  have TK := hid i1
  clear i1 b1
  go_wp2_with fail
  (with_reducible refine (eqTermS_k (by omega) _ XK.out TK.out).mono ?_)
  rintro e w11 ⟨rfl, b1⟩
  have t11 : w10.heap.size ≤ w11.heap.size := by have := b1.size; omega
  have rK := hid (rK.out.old b1)
  have rL := hid (rL.out.old b1)
  have W0 := hid (W0.out.old b1)
  have XK := hid (XK.out.old b1)
  have XL := hid (XL.out.old b1)
  have G0 := hid (G0.out.old b1)
  have TK := hid (TK.out.old b1)
  have B := hid (B.out.trans (b1.mono B.out.size))
  clear b1
  go_wp2_with fail
  (with_reducible refine (toTermS_came _ _ _ _ L (by omega) _ rL.out).mono ?_)
  rintro e w12 ⟨a12, n12, c12, rfl, i1, b1⟩
  have t12 : w11.heap.size ≤ w12.heap.size := by have := b1.size; omega
  have rK := hid (rK.out.old b1)
  have rL := hid (rL.out.old b1)
  have W0 := hid (W0.out.old b1)
  have XK := hid (XK.out.old b1)
  have XL := hid (XL.out.old b1)
  have G0 := hid (G0.out.old b1)
  have B := hid (B.out.trans (b1.mono B.out.size))
  have TL := hid i1
  clear i1 b1
  go_wp2_with fail
  (with_reducible refine (eqTermS_k (by omega) _ XL.out TL.out).mono ?_)
  rintro e w13 ⟨rfl, b1⟩
  have t13 : w12.heap.size ≤ w13.heap.size := by have := b1.size; omega
  have rK := hid (rK.out.old b1)
  have rL := hid (rL.out.old b1)
  have W0 := hid (W0.out.old b1)
  have XK := hid (XK.out.old b1)
  have XL := hid (XL.out.old b1)
  have G0 := hid (G0.out.old b1)
  have TL := hid (TL.out.old b1)
  have B := hid (B.out.trans (b1.mono B.out.size))
  clear b1
  go_wp2_with fail
  (with_reducible refine (markTermS_k (m := 1) (by omega) (by omega) (by omega) _ XK.out).mono ?_)
  rintro e w14 ⟨rfl, o1, b1⟩
  have t14 : w13.heap.size ≤ w14.heap.size := by have := b1.size; omega
  have XK := hid o1
  have rK := hid (rK.out.onlyG b1 (by omega))
  have rL := hid (rL.out.onlyG b1 (by omega))
  have W0 := hid (W0.out.onlyG b1 (by omega))
  have XL := hid (XL.out.onlyG b1 (by omega))
  have G0 := hid (G0.out.onlyG b1 (by omega))
  have B := hid (in_onlyG B.out b1 (by omega))
  clear o1 b1
  go_wp2_with fail
  (with_reducible refine (markTermS_k (m := 1 + (szT K : Int)) (by omega) (by omega) (by omega) _ XL.out).mono ?_)
  rintro e w15 ⟨rfl, o1, b1⟩
  have t15 : w14.heap.size ≤ w15.heap.size := by have := b1.size; omega
  have XL := hid o1
  have rK := hid (rK.out.onlyG b1 (by omega))
  have rL := hid (rL.out.onlyG b1 (by omega))
  have W0 := hid (W0.out.onlyG b1 (by omega))
  have XK := hid (XK.out.onlyG b1 (by omega))
  have G0 := hid (G0.out.onlyG b1 (by omega))
  have B := hid (in_onlyG B.out b1 (by omega))
  clear o1 b1
  have hm0 : ¬ 1 + (szT K : Int) + (szT L : Int) < 0 := by omega
  go_wp2_with fail
  (with_reducible refine (eqTermS_k (by omega) _ G0.out W0.out).mono ?_)
  rintro e w16 ⟨rfl, b1⟩
  have t16 : w15.heap.size ≤ w16.heap.size := by have := b1.size; omega
  have rK := hid (rK.out.old b1)
  have rL := hid (rL.out.old b1)
  have W0 := hid (W0.out.old b1)
  have XK := hid (XK.out.old b1)
  have XL := hid (XL.out.old b1)
  have G0 := hid (G0.out.old b1)
  have B := hid (B.out.trans (b1.mono B.out.size))
  clear b1
  go_wp2_with fail
  (with_reducible refine (markTermS_k (m := 1) (by omega) (by omega) (by omega) _ G0.out).mono ?_)
  rintro e w17 ⟨rfl, o1, b1⟩
  have t17 : w16.heap.size ≤ w17.heap.size := by have := b1.size; omega
  have G0 := hid o1
  have rK := hid (rK.out.onlyG b1 (by omega))
  have rL := hid (rL.out.onlyG b1 (by omega))
  have W0 := hid (W0.out.onlyG b1 (by omega))
  have B := hid (in_onlyG B.out b1 (by omega))
  clear o1 b1
  have hq0 : ¬ 1 + (szT RR : Int) < 0 := by omega
  go_wp2_with fail
  (with_reducible refine (heldTermS_k (m := 1) (by omega) (by omega) (by omega) _ G0.out).mono ?_)
  rintro e w18 ⟨rfl, b1⟩
  have t18 : w17.heap.size ≤ w18.heap.size := by have := b1.size; omega
  have rK := hid (rK.out.old b1)
  have rL := hid (rL.out.old b1)
  have W0 := hid (W0.out.old b1)
  have G0 := hid (G0.out.old b1)
  have B := hid (B.out.trans (b1.mono B.out.size))
  clear b1
  go_wp2_with fail
  (with_reducible refine (toTermS_came _ _ _ _ K (by omega) _ rK.out).mono ?_)
  rintro e w19 ⟨a19, n19, c19, rfl, i1, b1⟩
  have t19 : w18.heap.size ≤ w19.heap.size := by have := b1.size; omega
  have rK := hid (rK.out.old b1)
  have rL := hid (rL.out.old b1)
  have W0 := hid (W0.out.old b1)
  have G0 := hid (G0.out.old b1)
  have B := hid (B.out.trans (b1.mono B.out.size))
  have YK := hid i1
  clear i1 b1
  go_wp2_with fail
  (with_reducible refine (toTermS_came _ _ _ _ L (by omega) _ rL.out).mono ?_)
  rintro e w20 ⟨a20, n20, c20, rfl, i1, b1⟩
  have t20 : w19.heap.size ≤ w20.heap.size := by have := b1.size; omega
  have rK := hid (rK.out.old b1)
  have rL := hid (rL.out.old b1)
  have W0 := hid (W0.out.old b1)
  have G0 := hid (G0.out.old b1)
  have YK := hid (YK.out.old b1)
  have B := hid (B.out.trans (b1.mono B.out.size))
  have YL := hid i1
  clear i1 b1
  have KR := hid (impl_TermsAdd hSK hSL w20 YK.out YL.out)
  rw [← HRR.out] at KR
  go_wp2_with fail
  (with_reducible refine (KR.out).mono ?_)
  rintro e w21 ⟨a21, n21, c21, rfl, i1, b1⟩
  have t21 : w20.heap.size ≤ w21.heap.size := by have := b1.size; omega
  have rK := hid (rK.out.old b1)
  have rL := hid (rL.out.old b1)
  have W0 := hid (W0.out.old b1)
  have G0 := hid (G0.out.old b1)
  have YK := hid (YK.out.old b1)
  have YL := hid (YL.out.old b1)
  have B := hid (B.out.trans (b1.mono B.out.size))
  have H0 := hid i1
  clear i1 b1
  clear KR
  go_wp2_with fail
  (with_reducible refine (eqTermS_k (by omega) _ H0.out W0.out).mono ?_)
  rintro e w22 ⟨rfl, b1⟩
  have t22 : w21.heap.size ≤ w22.heap.size := by have := b1.size; omega
  have rK := hid (rK.out.old b1)
  have rL := hid (rL.out.old b1)
  have W0 := hid (W0.out.old b1)
  have G0 := hid (G0.out.old b1)
  have H0 := hid (H0.out.old b1)
  have B := hid (B.out.trans (b1.mono B.out.size))
  clear b1
  go_wp2_with fail
  (with_reducible refine (heldTermS_k (m := 1) (by omega) (by omega) (by omega) _ G0.out).mono ?_)
  rintro e w23 ⟨rfl, b1⟩
  have t23 : w22.heap.size ≤ w23.heap.size := by have := b1.size; omega
  have rK := hid (rK.out.old b1)
  have rL := hid (rL.out.old b1)
  have W0 := hid (W0.out.old b1)
  have G0 := hid (G0.out.old b1)
  have H0 := hid (H0.out.old b1)
  have B := hid (B.out.trans (b1.mono B.out.size))
  clear b1
  go_wp2
  go_ret
  exact ⟨rfl, B.out⟩
end Go.Proofs.YtnkcihcmkojdmaaGreat
