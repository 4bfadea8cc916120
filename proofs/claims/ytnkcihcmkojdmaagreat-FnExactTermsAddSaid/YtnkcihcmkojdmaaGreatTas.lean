/- Merged: Tan Tas. -/
import Derived.Test.YtnkcihcmkojdmaaGreatTam
import Derived.Test.YtnkcihcmkojdmaaGreatTos
import Derived.Deep.RegionLaw
import Derived.Deep.RegionHeld3
import Derived.Deep.DeepCutAuto
import Derived.BigQuiet
/- Sums of lists of terms: steps of the merge. -/
namespace Go.Proofs.YtnkcihcmkojdmaaGreat
open Go.RowKit
open Go.Lib (hid)
set_option linter.unusedVariables false

theorem sadd_t {w : World} {s t : Bool} {v u v' u' : Value} {x y : Rat} (h : RA w s v u (some x)) (h' : RA w t v' u' (some y)) : Calls Tryz.prog 67 #[.agg #[.bool s, v, u], .agg #[.bool t, v', u']] w (RatO false (bq addF (some x) (some y)) w) := by
  rw [bq_ss]
  exact (l04Add_own s t v u v' u' x y w h.x h'.x).mono fun e w' hh => RatO_ofS hh (fitO_add x y)
theorem RO_den {p : Bool} {w : World} {lo : Nat} {s : Bool} {a b : Option Addr} {n c m d : Nat} {o : Option Rat} (h : RO p w lo s (.slice a n c) (.slice b m d) o) : (m = 0 ↔ o = none) ∧ (o.isSome = true → (n = 0 ↔ nz o = false)) := by
  have hn := h.rf.rl.nums
  rw [fqo_A, fqo_D] at hn
  obtain ⟨-, hk, -, -⟩ := rval_parts h.ft
  refine ⟨⟨fun e => ?_, fun e => ?_⟩, fun ho => ?_⟩
  · cases o with
    | none => rfl
    | some x =>
      unfold rok at hk
      simp only [Option.isSome_some, Bool.and_eq_true, decide_eq_true_eq] at hk
      have := hk.1.1.1.2
      omega
  · subst e
    rw [hn.2, show qd none = 0 from rfl, gzl_nil]; rfl
  · rw [hn.1]
    exact tq_mag (x := 0) (s := gzs (qn o)) (A := gzl (qn o)) (D := gzl (qd o)) (by simp only [Tq.o]; exact (rval_parts h.ft).1) ho
theorem RF.ro2 {p : Bool} {w : World} {lo : Nat} {s : Bool} {v u : Value} {A D : List Int} {x : Rat} (h : RF p w lo v u A D) (e : rval s A D = some x) : RO p w lo s v u (some x) ∧ fqo (some x) = ⟨s, A, D⟩ := by
  obtain ⟨h1, h2, h3⟩ := rval_lists e
  refine ⟨⟨h1.symm, ?_, ?_, h.nd, by rw [← e]; exact fitO_rval s A D⟩, ?_⟩
  · show Ints w lo v (gzl x.num)
    rw [h2]; exact h.i
  · show Ints w lo u (gzl (x.den : Int))
    rw [h3]; exact h.j
  · simp only [fqo, qn, qd, h1, h2, h3]
theorem Below_drewA {w : World} {d : Nat} {o : Go.Obj} : Below w.heap.size w ((w.drewN d).alloc o) := (Below_drewN (Below.refl _ _)).trans (show Below w.heap.size (w.drewN d) ((w.drewN d).alloc o) from below_new' (w := w.drewN d))
theorem TK.blk {p : Bool} {w : World} {g n c : Nat} {K : List Tq} {lo hi : Nat} (h : TK p w (.slice (some ⟨g, 0, none⟩) n c) K lo hi) : lo ≤ g ∧ g < w.heap.size := by
  obtain ⟨E, hE, -⟩ := h
  exact hE.lt g rfl
theorem keptT {p : Bool} {w2 wp : World} {ob : Go.Obj} {v x : Value} {K : List Tq} {lo hi g i : Nat} (hv : TK p (w2.alloc ob) v K lo hi) (hcp : ∀ k, k < (w2.alloc ob).heap.size → some k ≠ v.ownBlock → wp.heap[k]? = (w2.alloc ob).heap[k]?) (hg : g < lo) (hw : lo ≤ w2.heap.size)
    (q : w2.cell? ⟨g, i, none⟩ = some x) : wp.cell? ⟨g, i, none⟩ = some x := by
  have h1 : wp.cell? ⟨g, i, none⟩ = (w2.alloc ob).cell? ⟨g, i, none⟩ := World.cell?_of_block (w := w2.alloc ob) (hcp g (by simp; omega) (fun e => by
    have := (hv.own g e.symm).1
    omega))
  exact h1.trans (((below_new' (w := w2) (o := ob)).cell (p := ⟨g, i, none⟩) (by show g < w2.heap.size; omega)).trans q)
theorem mergeT_nil (M : List Tq) : mergeT [] M = some M := by rw [mergeT]
theorem mergeT_nil2 : ∀ K : List Tq, mergeT K [] = some K
  | [] => mergeT_nil []
  | t :: K => by rw [mergeT]
theorem drop_at {K : List Tq} {k : Nat} (h : k < K.length) : K.drop k = K[k] :: K.drop (k + 1) := List.drop_eq_getElem_cons h
theorem mrg_l {K : List Tq} {k : Nat} (h : k < K.length) : mergeT (K.drop k) [] = (mergeT (K.drop (k + 1)) []).map ([K[k]] ++ ·) := by
  rw [mergeT_nil2, mergeT_nil2, drop_at h]; rfl
theorem mrg_r {M : List Tq} {l : Nat} (h : l < M.length) : mergeT [] (M.drop l) = (mergeT [] (M.drop (l + 1))).map ([M[l]] ++ ·) := by
  rw [mergeT_nil, mergeT_nil, drop_at h]; rfl
theorem mrg_lt {K M : List Tq} {k l : Nat} (h : k < K.length) (h' : l < M.length) (hc : K[k].c < M[l].c) : mergeT (K.drop k) (M.drop l) = (mergeT (K.drop (k + 1)) (M.drop l)).map ([K[k]] ++ ·) := by
  rw [drop_at h, drop_at h', mergeT, if_pos hc]; rfl
theorem mrg_gt {K M : List Tq} {k l : Nat} (h : k < K.length) (h' : l < M.length) (hc : ¬ K[k].c < M[l].c) (hc' : M[l].c < K[k].c) : mergeT (K.drop k) (M.drop l) = (mergeT (K.drop k) (M.drop (l + 1))).map ([M[l]] ++ ·) := by
  rw [drop_at h, drop_at h', mergeT, if_neg hc, if_pos hc']; rfl
theorem mrg_no {K M : List Tq} {k l : Nat} (h : k < K.length) (h' : l < M.length) (hc : ¬ K[k].c < M[l].c) (hc' : ¬ M[l].c < K[k].c) (hz : bq addF K[k].o M[l].o = none) : mergeT (K.drop k) (M.drop l) = none := by
  rw [drop_at h, drop_at h', mergeT, if_neg hc, if_neg hc', hz]
theorem mrg_eq {K M : List Tq} {k l : Nat} (h : k < K.length) (h' : l < M.length) (hc : ¬ K[k].c < M[l].c) (hc' : ¬ M[l].c < K[k].c) {z : Rat} (hz : bq addF K[k].o M[l].o = some z) : mergeT (K.drop k) (M.drop l) = (mergeT (K.drop (k + 1)) (M.drop (l + 1))).map ((if z = 0 then [] else [tqo K[k].c (some z)]) ++ ·) := by
  rw [drop_at h, drop_at h', mergeT, if_neg hc, if_neg hc', hz]
theorem mrg_step {S o o' : Option (List Tq)} {R P : List Tq} (h : S = o.map (R ++ ·)) (h2 : o = o'.map (P ++ ·)) : S = o'.map ((R ++ P) ++ ·) := by
  subst h2
  rw [h]
  cases o' with
  | none => rfl
  | some x => simp [List.append_assoc]
end Go.Proofs.YtnkcihcmkojdmaaGreat

/- Sums of lists of terms: the reference. -/
namespace Go.Proofs.YtnkcihcmkojdmaaGreat
open Go.RowKit
open Go.Lib (hid)
set_option linter.unusedVariables false

set_option maxRecDepth 100000 in
set_option maxHeartbeats 51200000 in
theorem spec_TermsAdd {p q : Bool} {a : Option Addr} {n c : Nat} {b' : Option Addr} {m d : Nat} {K M : List Tq} {lo hi lo' hi' : Nat} (hK : SmT K) (hM : SmT M) (w : World) (h : TK p w (.slice a n c) K lo hi) (h' : TK q w (.slice b' m d) M lo' hi') :
    Calls Tryz.prog 23 #[.slice a n c, .slice b' m d] w (TerR false (addT K M) w) := by
  have HX0 := hid h
  have HY0 := hid h'
  obtain rfl := h.num
  obtain rfl := h'.num
  clear h h'
  have hkl := hK.2
  have hml := hM.2
  have KO := hid (spec_TermsOk hK 40 (by decide) (by decide) w HX0.out)
  have KP := hid (fun (U : World) (hb : Below w.heap.size w U) => spec_TermsOk hM 40 (by decide) (by decide) U (HY0.out.old hb))
  obtain ⟨RR, hRR⟩ : ∃ RR, RR = addT K M := ⟨_, rfl⟩
  rw [← hRR]
  have HRR := hid hRR
  clear hRR
  cases hk : tok K 40 with
  | false =>
    rw [hk] at KO
    have HN := hid (show RR = [] by rw [HRR.out, addT_no1 hk])
    rw [HN.out]
    clear hk
    go_enter Tryz.func23, Tryz.ntmps23
    go_wp2_with fail
    (with_reducible refine (KO.out).mono ?_)
    rintro e w1 ⟨rfl, hb⟩
    have HB := hid hb
    clear hb
    go_wp2
    go_ret
    exact ⟨none, 0, 0, rfl, TK_nil _ _ _ _, HB.out⟩
  | true =>
    rw [hk] at KO
    cases hk2 : tok M 40 with
    | false =>
      rw [hk2] at KP
      have HN := hid (show RR = [] by rw [HRR.out, addT_no2 hk2])
      rw [HN.out]
      clear hk hk2
      go_enter Tryz.func23, Tryz.ntmps23
      go_wp2_with fail
      (with_reducible refine (KO.out).mono ?_)
      rintro e w1 ⟨rfl, hb⟩
      have HB := hid hb
      clear hb
      go_wp2_with fail
      (with_reducible refine (KP.out _ HB.out).mono ?_)
      rintro e w2 ⟨rfl, hb⟩
      have HB := hid (HB.out.trans (hb.mono HB.out.size))
      clear hb
      go_wp2
      go_ret
      exact ⟨none, 0, 0, rfl, TK_nil _ _ _ _, HB.out⟩
    | true =>
      rw [hk2] at KP
      have HN := hid (show RR = (mergeT K M).getD [] by rw [HRR.out, addT_yes hk hk2])
      have HTK := hid (fun k (h : k < K.length) => tok_at hk h)
      have HTM := hid (fun k (h : k < M.length) => tok_at hk2 h)
      have h401 := tok_len hk
      have h402 := tok_len hk2
      clear hk hk2
      go_enter Tryz.func23, Tryz.ntmps23
      go_wp2_with fail
      (with_reducible refine (KO.out).mono ?_)
      rintro e w1 ⟨rfl, hb⟩
      have HB := hid hb
      clear hb
      go_wp2_with fail
      (with_reducible refine (KP.out _ HB.out).mono ?_)
      rintro e w2 ⟨rfl, hb⟩
      have HB := hid (HB.out.trans (hb.mono HB.out.size))
      clear hb
      have V0 := hid (TK_lit0 false (w := w2) (lo := w.heap.size) HB.out.size)
      have HB0 := hid (HB.out.alloc HB.out.size (.cells #[] 93))
      have S0 := hid (show (w2.alloc (.cells #[] 93)).heap.size = w2.heap.size + 1 by simp)
      go_wp2
      go_loopw [5, 6, 7] (fun v i j wr => ∃ (k l : Nat) (x0 : Option Addr) (c0 : Nat) (R : List Tq), k ≤ K.length ∧ l ≤ M.length ∧ i = .int .i64 k ∧ j = .int .i64 l ∧ v = .slice x0 R.length c0 ∧ Hid (mergeT K M = (mergeT (K.drop k) (M.drop l)).map (R ++ ·)) ∧ Hid (R.length ≤ k + l) ∧ Hid (TK false wr (.slice x0 R.length c0) R w.heap.size wr.heap.size) ∧ Hid (Below w.heap.size w wr)) (fun _ i j _ => (K.length - (intOf i).toNat) + (M.length - (intOf j).toNat))
      case atStart => exact ⟨0, 0, _, 0, [], Nat.zero_le _, Nat.zero_le _, rfl, rfl, rfl, hid (by simp), hid (Nat.zero_le _), hid (V0.out.wide (Nat.le_refl _) (by rw [S0.out]; exact Nat.le_refl _)), HB0⟩
      case round =>
        obtain ⟨k, l, x0, c0, R, hk, hl, rfl, rfl, rfl, hR, hRl, hV, HB⟩ := hrel
        have X := hid (HX0.out.old HB.out)
        have Y := hid (HY0.out.old HB.out)
        have hwz := HB.out.size
        have a0 : (0 : Int) ≤ k := by omega
        have a0' : (0 : Int) ≤ l := by omega
        by_cases hlt : k < K.length
        · have a2 : (k : Int) < K.length := by omega
          have e2 : ((k : Int) == (K.length : Int)) = false := beq_eq_false_iff_ne.2 (by omega)
          obtain ⟨g1, a31, n31, c31, b31, m31, d31, rfl, hg1, qc1, q01, q11, q21, R1⟩ := X.out.at hK hlt
          obtain ⟨⟨x1, s1, A1, D1⟩, hf1⟩ : ∃ f, K[k]'(hlt) = f := ⟨_, rfl⟩
          simp only [hf1] at qc1 q01 R1
          have HF1 := hid hf1
          clear hf1
          obtain ⟨o1, ho1⟩ : ∃ o, Tq.o ⟨x1, s1, A1, D1⟩ = o := ⟨_, rfl⟩
          have HO1 := hid (show (K[k]'(hlt)).o = o1 by rw [HF1.out, ho1])
          have HX1 := hid (show (K[k]'(hlt)).c = x1 by rw [HF1.out])
          have RX1 := hid (show RA wr s1 (.slice a31 n31 c31) (.slice b31 m31 d31) o1 from ⟨A1, D1, R1, ho1⟩)
          have RLX1 := hid R1
          have RN1 := hid R1.nums
          clear ho1 R1
          have G1 := hid HX0.out.blk.2
          obtain ⟨v1, hv1, -⟩ := (HTK.out k hlt).2.2
          have HRV1 := hid (show rval s1 A1 D1 = some v1 by have h1 := hv1; rw [HF1.out] at h1; exact h1)
          have HTQ1 := hid (show K[k] = tqo x1 (some v1) by
            have h1 := tq_form (t := K[k]) (by rw [hv1]; rfl)
            rw [hv1, HX1.out] at h1
            exact h1)
          have HOV1 := hid (show o1 = some v1 by rw [← HO1.out]; exact hv1)
          have HOK1 := hid hv1
          clear hv1
          by_cases hlt2 : l < M.length
          · have a3 : (l : Int) < M.length := by omega
            have e3 : ((l : Int) == (M.length : Int)) = false := beq_eq_false_iff_ne.2 (by omega)
            obtain ⟨g2, a32, n32, c32, b32, m32, d32, rfl, hg2, qc2, q02, q12, q22, R2⟩ := Y.out.at hM hlt2
            obtain ⟨⟨x2, s2, A2, D2⟩, hf2⟩ : ∃ f, M[l]'(hlt2) = f := ⟨_, rfl⟩
            simp only [hf2] at qc2 q02 R2
            have HF2 := hid hf2
            clear hf2
            obtain ⟨o2, ho2⟩ : ∃ o, Tq.o ⟨x2, s2, A2, D2⟩ = o := ⟨_, rfl⟩
            have HO2 := hid (show (M[l]'(hlt2)).o = o2 by rw [HF2.out, ho2])
            have HX2 := hid (show (M[l]'(hlt2)).c = x2 by rw [HF2.out])
            have RX2 := hid (show RA wr s2 (.slice a32 n32 c32) (.slice b32 m32 d32) o2 from ⟨A2, D2, R2, ho2⟩)
            have RLX2 := hid R2
            have RN2 := hid R2.nums
            clear ho2 R2
            have G2 := hid HY0.out.blk.2
            obtain ⟨v2, hv2, -⟩ := (HTM.out l hlt2).2.2
            have HRV2 := hid (show rval s2 A2 D2 = some v2 by have h1 := hv2; rw [HF2.out] at h1; exact h1)
            have HTQ2 := hid (show M[l] = tqo x2 (some v2) by
              have h1 := tq_form (t := M[l]) (by rw [hv2]; rfl)
              rw [hv2, HX2.out] at h1
              exact h1)
            have HOV2 := hid (show o2 = some v2 by rw [← HO2.out]; exact hv2)
            have HOK2 := hid hv2
            clear hv2
            by_cases hc : x1 < x2
            · have hcc := hid (show K[k].c < M[l].c by rw [HX1.out, HX2.out]; exact hc)
              go_wp2_with fail
              go_quiet (fail)

              have KF := hid (fun (U : World) (hb : Below wr.heap.size wr U) => scopy_f (w := U) (s := s1) (RLX1.out.old hb))
              go_wp2_with fail
              go_region_held3 (fun w' => w'.cell? ⟨g1, k * 4, none⟩ = some (.int .i64 x1) ∧ w'.cell? ⟨g1, k * 4 + 1, none⟩ = some (.bool s1) ∧ w'.cell? ⟨g1, k * 4 + 2, none⟩ = some (.slice a31 n31 c31) ∧ w'.cell? ⟨g1, k * 4 + 3, none⟩ = some (.slice b31 m31 d31)) (first | with_reducible exact ⟨qc1, q01, q11, q21⟩ | exact ⟨qc1, q01, q11, q21⟩ | go_keep)
                (first
                  | (go_at_call 66; (with_reducible refine (KF.out _ (Below_drewN (Below.refl _ _))).mono ?_); rintro e w5 ⟨a4, c4, b4, d4, rfl, hr, hb⟩
                     have hb5 : Below wr.heap.size wr w5 := (Below_drewN (Below.refl _ _)).trans hb
                     have qc1 := (hb5.cell (p := ⟨g1, k * 4, none⟩) hg1).trans qc1; have q01 := (hb5.cell (p := ⟨g1, k * 4 + 1, none⟩) hg1).trans q01; have q11 := (hb5.cell (p := ⟨g1, k * 4 + 2, none⟩) hg1).trans q11; have q21 := (hb5.cell (p := ⟨g1, k * 4 + 3, none⟩) hg1).trans q21
                     have hro := hr.ro2 (s := s1) (x := v1) HRV1.out
                     have PV := hid ((hV.out.old hb5).old (below_new' (o := .cells #[.int .i64 x1, .bool s1, .slice a4 A1.length c4, .slice b4 D1.length d4] 93)))
                     have PR := hid (hro.1.old (below_new' (o := .cells #[.int .i64 x1, .bool s1, .slice a4 A1.length c4, .slice b4 D1.length d4] 93)))
                     have PB := hid (heap_alloc_new w5 (.cells #[.int .i64 x1, .bool s1, .slice a4 A1.length c4, .slice b4 D1.length d4] 93))
                     have hz5 : wr.heap.size ≤ w5.heap.size := hb.size
                     have HB2 := hid ((HB.out.trans (hb5.mono hwz)).alloc (Nat.le_trans hwz hz5) (.cells #[.int .i64 x1, .bool s1, .slice a4 A1.length c4, .slice b4 D1.length d4] 93))
                     clear hr hb hro hb5)
                  | ((refine step_pushT rfl _ _ rfl (by rfl) PV.out (Nat.le_refl _) hwz PR.out (by rfl) PB.out (by have := hRl.out; omega) (by first | exact HB2.out.size | (have := HB2.out.size; simpa using this)) ?_)
                     intro gp cp wp hvp hbp hcp
                     have HB3 := hid (HB2.out.trans hbp)
                     have HV3 := hid hvp
                     have hzz := Nat.le_trans hwz hz5
                     have qc1 := keptT PV.out hcp G1.out hzz qc1; have q01 := keptT PV.out hcp G1.out hzz q01; have q11 := keptT PV.out hcp G1.out hzz q11; have q21 := keptT PV.out hcp G1.out hzz q21
                     clear hvp hbp hcp))
              clear qc1 q01 q11 q21
              go_wp2
              go_roundw
              case rel => exact ⟨k + 1, l, some ⟨gp, 0, none⟩, cp, R ++ [K[k]], by omega, by omega, by go_num, by go_num, by rw [List.length_append]; rfl, hid (mrg_step hR.out (mrg_lt hlt hlt2 hcc.out)), hid (by have := hRl.out; rw [List.length_append, List.length_singleton]; omega), hid (by
                have h1 := HV3.out
                rw [List.length_append, List.length_singleton]
                rw [HTQ1.out]
                exact h1), HB3⟩
              case measure => simp [intOf]; omega
            · have hd : decide (x1 < x2) = false := decide_eq_false hc
              have hcc := hid (show M[l].c ≤ K[k].c by rw [HX1.out, HX2.out]; omega)
              by_cases hc2 : x2 < x1
              · have hcc2 := hid (show M[l].c < K[k].c by rw [HX1.out, HX2.out]; exact hc2)
                go_wp2_with fail
                go_quiet (fail)

                go_wp2_with fail
                go_quiet (fail)

                have KF := hid (fun (U : World) (hb : Below wr.heap.size wr U) => scopy_f (w := U) (s := s2) (RLX2.out.old hb))
                go_wp2_with fail
                go_region_held3 (fun w' => w'.cell? ⟨g2, l * 4, none⟩ = some (.int .i64 x2) ∧ w'.cell? ⟨g2, l * 4 + 1, none⟩ = some (.bool s2) ∧ w'.cell? ⟨g2, l * 4 + 2, none⟩ = some (.slice a32 n32 c32) ∧ w'.cell? ⟨g2, l * 4 + 3, none⟩ = some (.slice b32 m32 d32)) (first | with_reducible exact ⟨qc2, q02, q12, q22⟩ | exact ⟨qc2, q02, q12, q22⟩ | go_keep)
                  (first
                    | (go_at_call 66; (with_reducible refine (KF.out _ (Below_drewN (Below.refl _ _))).mono ?_); rintro e w5 ⟨a4, c4, b4, d4, rfl, hr, hb⟩
                       have hb5 : Below wr.heap.size wr w5 := (Below_drewN (Below.refl _ _)).trans hb
                       have qc2 := (hb5.cell (p := ⟨g2, l * 4, none⟩) hg2).trans qc2; have q02 := (hb5.cell (p := ⟨g2, l * 4 + 1, none⟩) hg2).trans q02; have q12 := (hb5.cell (p := ⟨g2, l * 4 + 2, none⟩) hg2).trans q12; have q22 := (hb5.cell (p := ⟨g2, l * 4 + 3, none⟩) hg2).trans q22
                       have hro := hr.ro2 (s := s2) (x := v2) HRV2.out
                       have PV := hid ((hV.out.old hb5).old (below_new' (o := .cells #[.int .i64 x2, .bool s2, .slice a4 A2.length c4, .slice b4 D2.length d4] 93)))
                       have PR := hid (hro.1.old (below_new' (o := .cells #[.int .i64 x2, .bool s2, .slice a4 A2.length c4, .slice b4 D2.length d4] 93)))
                       have PB := hid (heap_alloc_new w5 (.cells #[.int .i64 x2, .bool s2, .slice a4 A2.length c4, .slice b4 D2.length d4] 93))
                       have hz5 : wr.heap.size ≤ w5.heap.size := hb.size
                       have HB2 := hid ((HB.out.trans (hb5.mono hwz)).alloc (Nat.le_trans hwz hz5) (.cells #[.int .i64 x2, .bool s2, .slice a4 A2.length c4, .slice b4 D2.length d4] 93))
                       clear hr hb hro hb5)
                    | ((refine step_pushT rfl _ _ rfl (by rfl) PV.out (Nat.le_refl _) hwz PR.out (by rfl) PB.out (by have := hRl.out; omega) (by first | exact HB2.out.size | (have := HB2.out.size; simpa using this)) ?_)
                       intro gp cp wp hvp hbp hcp
                       have HB3 := hid (HB2.out.trans hbp)
                       have HV3 := hid hvp
                       have hzz := Nat.le_trans hwz hz5
                       have qc2 := keptT PV.out hcp G2.out hzz qc2; have q02 := keptT PV.out hcp G2.out hzz q02; have q12 := keptT PV.out hcp G2.out hzz q12; have q22 := keptT PV.out hcp G2.out hzz q22
                       clear hvp hbp hcp))
                clear qc2 q02 q12 q22
                go_wp2
                go_roundw
                case rel => exact ⟨k, l + 1, some ⟨gp, 0, none⟩, cp, R ++ [M[l]], by omega, by omega, by go_num, by go_num, by rw [List.length_append]; rfl, hid (mrg_step hR.out (mrg_gt hlt hlt2 (Int.not_lt.2 hcc.out) hcc2.out)), hid (by have := hRl.out; rw [List.length_append, List.length_singleton]; omega), hid (by
                  have h1 := HV3.out
                  rw [List.length_append, List.length_singleton]
                  rw [HTQ2.out]
                  exact h1), HB3⟩
                case measure => simp [intOf]; omega
              · have hd2 : decide (x2 < x1) = false := decide_eq_false hc2
                have hcc2 := hid (show K[k].c ≤ M[l].c by rw [HX1.out, HX2.out]; omega)
                go_wp2_with fail
                go_quiet (fail)

                go_wp2_with fail
                go_quiet (fail)

                have KF := hid (fun (U : World) (hb : Below wr.heap.size wr U) => sadd_t (w := U) ((HOV1.out ▸ RX1.out).old hb) ((HOV2.out ▸ RX2.out).old hb))
                obtain ⟨oo, hoo⟩ : ∃ oo, bq addF (some v1) (some v2) = oo := ⟨_, rfl⟩
                simp only [hoo] at KF
                have HOO := hid (show bq addF K[k].o M[l].o = oo by rw [HOK1.out, HOK2.out]; exact hoo)
                clear hoo
                go_wp2_with fail
                go_region_held3 (fun w' => w'.cell? ⟨g1, k * 4, none⟩ = some (.int .i64 x1) ∧ w'.cell? ⟨g1, k * 4 + 1, none⟩ = some (.bool s1) ∧ w'.cell? ⟨g1, k * 4 + 2, none⟩ = some (.slice a31 n31 c31) ∧ w'.cell? ⟨g1, k * 4 + 3, none⟩ = some (.slice b31 m31 d31) ∧ w'.cell? ⟨g2, l * 4 + 1, none⟩ = some (.bool s2) ∧ w'.cell? ⟨g2, l * 4 + 2, none⟩ = some (.slice a32 n32 c32) ∧ w'.cell? ⟨g2, l * 4 + 3, none⟩ = some (.slice b32 m32 d32)) (first | with_reducible exact ⟨qc1, q01, q11, q21, q02, q12, q22⟩ | exact ⟨qc1, q01, q11, q21, q02, q12, q22⟩ | exact ⟨(HA.out.cell (p := ⟨g1, k * 4, none⟩) hg1).trans qc1, (HA.out.cell (p := ⟨g1, k * 4 + 1, none⟩) hg1).trans q01, (HA.out.cell (p := ⟨g1, k * 4 + 2, none⟩) hg1).trans q11, (HA.out.cell (p := ⟨g1, k * 4 + 3, none⟩) hg1).trans q21, (HA.out.cell (p := ⟨g2, l * 4 + 1, none⟩) hg2).trans q02, (HA.out.cell (p := ⟨g2, l * 4 + 2, none⟩) hg2).trans q12, (HA.out.cell (p := ⟨g2, l * 4 + 3, none⟩) hg2).trans q22⟩ | exact ⟨(HZ.out.cell (p := ⟨g1, k * 4, none⟩) (by show g1 < w5.heap.size; omega)).trans qc1, (HZ.out.cell (p := ⟨g1, k * 4 + 1, none⟩) (by show g1 < w5.heap.size; omega)).trans q01, (HZ.out.cell (p := ⟨g1, k * 4 + 2, none⟩) (by show g1 < w5.heap.size; omega)).trans q11, (HZ.out.cell (p := ⟨g1, k * 4 + 3, none⟩) (by show g1 < w5.heap.size; omega)).trans q21, (HZ.out.cell (p := ⟨g2, l * 4 + 1, none⟩) (by show g2 < w5.heap.size; omega)).trans q02, (HZ.out.cell (p := ⟨g2, l * 4 + 2, none⟩) (by show g2 < w5.heap.size; omega)).trans q12, (HZ.out.cell (p := ⟨g2, l * 4 + 3, none⟩) (by show g2 < w5.heap.size; omega)).trans q22⟩ | go_keep)
                  (first
                    | (go_at_call 67; (with_reducible refine (KF.out _ (Below_drewN (Below.refl _ _))).mono ?_); rintro e w5 ⟨s4, a4, n4, c4, b4, m4, d4, rfl, hr, hb⟩
                       have hb5 := hid (show Below wr.heap.size wr w5 from (Below_drewN (Below.refl _ _)).trans hb)
                       have hz5 := hid hb5.out.size
                       have qc1 := (hb5.out.cell (p := ⟨g1, k * 4, none⟩) hg1).trans qc1
                       have q01 := (hb5.out.cell (p := ⟨g1, k * 4 + 1, none⟩) hg1).trans q01
                       have q11 := (hb5.out.cell (p := ⟨g1, k * 4 + 2, none⟩) hg1).trans q11
                       have q21 := (hb5.out.cell (p := ⟨g1, k * 4 + 3, none⟩) hg1).trans q21
                       have q02 := (hb5.out.cell (p := ⟨g2, l * 4 + 1, none⟩) hg2).trans q02
                       have q12 := (hb5.out.cell (p := ⟨g2, l * 4 + 2, none⟩) hg2).trans q12
                       have q22 := (hb5.out.cell (p := ⟨g2, l * 4 + 3, none⟩) hg2).trans q22
                       have HR5 := hid (show RO false w5 wr.heap.size s4 (.slice a4 n4 c4) (.slice b4 m4 d4) oo from hr)
                       clear hr hb)
                    | (go_at_call 67; (with_reducible refine (KF.out _ Below_drewA).mono ?_); rintro e w5 ⟨s4, a4, n4, c4, b4, m4, d4, rfl, hr, hb⟩
                       have hb5 := hid (show Below wr.heap.size wr w5 from Below_drewA.trans (hb.mono Below_drewA.size))
                       have hz5 := hid hb5.out.size
                       have L5 := hid (LocA.old (T := 30) (b := wr.heap.size) (cs := #[.bool false, .slice none 0 0, .slice none 0 0]) (LocA.at (w := wr.drewN _) rfl) hb)
                       have qc1 := (hb5.out.cell (p := ⟨g1, k * 4, none⟩) hg1).trans qc1
                       have q01 := (hb5.out.cell (p := ⟨g1, k * 4 + 1, none⟩) hg1).trans q01
                       have q11 := (hb5.out.cell (p := ⟨g1, k * 4 + 2, none⟩) hg1).trans q11
                       have q21 := (hb5.out.cell (p := ⟨g1, k * 4 + 3, none⟩) hg1).trans q21
                       have q02 := (hb5.out.cell (p := ⟨g2, l * 4 + 1, none⟩) hg2).trans q02
                       have q12 := (hb5.out.cell (p := ⟨g2, l * 4 + 2, none⟩) hg2).trans q12
                       have q22 := (hb5.out.cell (p := ⟨g2, l * 4 + 3, none⟩) hg2).trans q22
                       have p0 := L5.out.c 0 rfl
                       have p1 := L5.out.c 1 rfl
                       have p2 := L5.out.c 2 rfl
                       have f0 := L5.out.f 0
                       have f1 := L5.out.f 1
                       have f2 := L5.out.f 2
                       have HA := hid ((((Below.refl wr.heap.size w5).setCell (p := ⟨wr.heap.size, 0, none⟩) (by simp) (.bool s4)).setCell (p := ⟨wr.heap.size, 1, none⟩) (by simp) (.slice a4 n4 c4)).setCell (p := ⟨wr.heap.size, 2, none⟩) (by simp) (.slice b4 m4 d4))
                       have HR5 := hid (show RO false w5 wr.heap.size s4 (.slice a4 n4 c4) (.slice b4 m4 d4) oo from hr.base Below_drewA.size)
                       clear hr hb))
                · have L8 := hid (LocA.new (w := w5) (T := 30) (cs := #[.bool s4, .slice a4 n4 c4, .slice b4 m4 d4]))
                  have HN8 := hid (below_new' (w := w5) (o := .cells #[.bool s4, .slice a4 n4 c4, .slice b4 m4 d4] 30))
                  have R8 := hid (HR5.out.old HN8.out)
                  have HB8 := hid (hb5.out.trans (HN8.out.mono hz5.out))
                  have qc8 := (HN8.out.cell (p := ⟨g1, k * 4, none⟩) (by show g1 < w5.heap.size; have := hz5.out; omega)).trans qc1
                  clear HN8
                  generalize w5.alloc (.cells #[.bool s4, .slice a4 n4 c4, .slice b4 m4 d4] 30) = w8 at L8 R8 HB8 qc8 ⊢
                  clear qc1 q01 q11 q21 q02 q12 q22
                  have HBW8 := hid (HB.out.trans (HB8.out.mono hwz))
                  have hw8 := HB8.out.size
                  rcases oo with _ | z
                  · obtain rfl : m4 = 0 := (RO_den R8.out).1.2 rfl
                    have p0 := L8.out.c 0 rfl
                    have p1 := L8.out.c 1 rfl
                    have p2 := L8.out.c 2 rfl
                    have HNO := hid (show RR = [] by rw [HN.out, hR.out, mrg_no hlt hlt2 (Int.not_lt.2 hcc.out) (Int.not_lt.2 hcc2.out) HOO.out]; rfl)
                    go_wp2
                    go_ret
                    exact ⟨none, 0, 0, rfl, by rw [HNO.out]; exact TK_nil _ _ _ _, HBW8.out⟩
                  · have hm0 : ¬ m4 = 0 := fun e => by have := (RO_den R8.out).1.1 e; cases this
                    have hmb : ((m4 : Int) == 0) = false := by simp; omega
                    have hP := mrg_eq hlt hlt2 (Int.not_lt.2 hcc.out) (Int.not_lt.2 hcc2.out) HOO.out
                    have hn := (RO_den R8.out).2 rfl
                    cases hz : nz (some z) with
                    | false =>
                      obtain rfl : n4 = 0 := hn.2 hz
                      have hz0 : z = 0 := Decidable.byContradiction fun e => by rw [nz_iff.2 e] at hz; cases hz
                      rw [if_pos hz0] at hP
                      have HP := hid (by have h1 := mrg_step hR.out hP; rwa [List.append_nil] at h1 : mergeT K M = (mergeT (K.drop (k + 1)) (M.drop (l + 1))).map (R ++ ·))
                      have p0 := L8.out.c 0 rfl
                      have p1 := L8.out.c 1 rfl
                      have p2 := L8.out.c 2 rfl
                      clear hP hn hz
                      go_wp2
                      go_roundw
                      case rel => exact ⟨k + 1, l + 1, x0, c0, R, by omega, by omega, by go_num, by go_num, rfl, HP, hid (by have := hRl.out; omega), hid ((hV.out.old HB8.out).wide (Nat.le_refl _) hw8), HBW8⟩
                      case measure => simp [intOf]; omega
                    | true =>
                      have hz0 : ¬ z = 0 := nz_iff.1 hz
                      have hn0 : ¬ n4 = 0 := fun e => by rw [hn.1 e] at hz; cases hz
                      have hnp : (0 : Int) < n4 := by omega
                      rw [if_neg hz0] at hP
                      have HP := hid (mrg_step hR.out hP)
                      have PV := hid (((hV.out.old HB8.out).old (Below_drew1 (Below.refl _ _))).old (below_new' (o := .cells #[.int .i64 x1, .bool s4, .slice a4 n4 c4, .slice b4 m4 d4] 93)))
                      have PR := hid ((R8.out.old (Below_drew1 (Below.refl _ _))).old (below_new' (o := .cells #[.int .i64 x1, .bool s4, .slice a4 n4 c4, .slice b4 m4 d4] 93)))
                      have PB := hid (heap_alloc_new w8.drew (.cells #[.int .i64 x1, .bool s4, .slice a4 n4 c4, .slice b4 m4 d4] 93))
                      have HB2 := hid ((Below_drew1 HBW8.out).alloc (Nat.le_trans hwz hw8) (.cells #[.int .i64 x1, .bool s4, .slice a4 n4 c4, .slice b4 m4 d4] 93))
                      have L8D := hid ((L8.out.old (Below_drew1 (Below.refl _ _))).new1 (o := .cells #[.int .i64 x1, .bool s4, .slice a4 n4 c4, .slice b4 m4 d4] 93))
                      have p0 := L8.out.c 0 rfl
                      have p1 := L8.out.c 1 rfl
                      have p2 := L8.out.c 2 rfl
                      clear hP hn hz
                      go_wp2_with fail
                      go_region_held3 (fun w' => w'.cell? ⟨g1, k * 4, none⟩ = some (.int .i64 x1) ∧ w'.cell? ⟨w5.heap.size, 0, none⟩ = some (.bool s4) ∧ w'.cell? ⟨w5.heap.size, 1, none⟩ = some (.slice a4 n4 c4) ∧ w'.cell? ⟨w5.heap.size, 2, none⟩ = some (.slice b4 m4 d4)) (first | with_reducible exact ⟨qc8, p0, p1, p2⟩ | exact ⟨qc8, p0, p1, p2⟩ | go_keep)
                        (first
                          | ((refine step_pushT rfl _ _ rfl (by rfl) PV.out (Nat.le_refl _) hwz PR.out (by rfl) PB.out (by have := hRl.out; omega) (by first | exact HB2.out.size | (have := HB2.out.size; simpa using this)) ?_)
                             intro gp cp wp hvp hbp hcp
                             have HB3 := hid (HB2.out.trans hbp)
                             have HV3 := hid hvp
                             have qc8 := keptT (w2 := w8.drew) PV.out hcp G1.out (Nat.le_trans hwz hw8) qc8
                             have LM := hid (show LocA 30 wp (w5.heap.size) #[.bool s4, .slice a4 n4 c4, .slice b4 m4 d4] from (hcp _ L8D.out.lt (fun e => by have h1 := PV.out.own _ e.symm; have h2 := hz5.out; omega)).trans L8D.out)
                             have p0 := LM.out.c 0 rfl
                             have p1 := LM.out.c 1 rfl
                             have p2 := LM.out.c 2 rfl
                             clear hvp hbp hcp))
                      clear qc8 p0 p1 p2
                      go_wp2
                      go_roundw
                      case rel => exact ⟨k + 1, l + 1, some ⟨gp, 0, none⟩, cp, R ++ [tqo K[k].c (some z)], by omega, by omega, by go_num, by go_num, by rw [List.length_append]; rfl, HP, hid (by have := hRl.out; rw [List.length_append, List.length_singleton]; omega), hid (by
                        have h1 := HV3.out
                        rw [List.length_append, List.length_singleton, HX1.out]
                        exact h1), HB3⟩
                      case measure => simp [intOf]; omega
                · have L8 := hid (((L5.out.set (i := 0) (x := .bool s4)).set (i := 1) (x := .slice a4 n4 c4)).set (i := 2) (x := .slice b4 m4 d4))
                  have L8 := hid (show LocA 30 (((w5.setCell ⟨wr.heap.size, 0, none⟩ (.bool s4)).setCell ⟨wr.heap.size, 1, none⟩ (.slice a4 n4 c4)).setCell ⟨wr.heap.size, 2, none⟩ (.slice b4 m4 d4)) wr.heap.size #[.bool s4, .slice a4 n4 c4, .slice b4 m4 d4] from L8.out)
                  have R8 := hid (((HR5.out.set L5.out (by decide) (i := 0) (y := .bool s4)).set (L5.out.set (i := 0) (x := .bool s4)) (by decide) (i := 1) (y := .slice a4 n4 c4)).set ((L5.out.set (i := 0) (x := .bool s4)).set (i := 1) (x := .slice a4 n4 c4)) (by decide) (i := 2) (y := .slice b4 m4 d4))
                  have HB8 := hid (hb5.out.trans HA.out)
                  have qc8 := (HA.out.cell (p := ⟨g1, k * 4, none⟩) hg1).trans qc1
                  clear p0 p1 p2 f0 f1 f2 L5 HA
                  generalize ((w5.setCell ⟨wr.heap.size, 0, none⟩ (.bool s4)).setCell ⟨wr.heap.size, 1, none⟩ (.slice a4 n4 c4)).setCell ⟨wr.heap.size, 2, none⟩ (.slice b4 m4 d4) = w8 at L8 R8 HB8 qc8 ⊢
                  clear qc1 q01 q11 q21 q02 q12 q22
                  have HBW8 := hid (HB.out.trans (HB8.out.mono hwz))
                  have hw8 := HB8.out.size
                  rcases oo with _ | z
                  · obtain rfl : m4 = 0 := (RO_den R8.out).1.2 rfl
                    have p0 := L8.out.c 0 rfl
                    have p1 := L8.out.c 1 rfl
                    have p2 := L8.out.c 2 rfl
                    have HNO := hid (show RR = [] by rw [HN.out, hR.out, mrg_no hlt hlt2 (Int.not_lt.2 hcc.out) (Int.not_lt.2 hcc2.out) HOO.out]; rfl)
                    go_wp2
                    go_ret
                    exact ⟨none, 0, 0, rfl, by rw [HNO.out]; exact TK_nil _ _ _ _, HBW8.out⟩
                  · have hm0 : ¬ m4 = 0 := fun e => by have := (RO_den R8.out).1.1 e; cases this
                    have hmb : ((m4 : Int) == 0) = false := by simp; omega
                    have hP := mrg_eq hlt hlt2 (Int.not_lt.2 hcc.out) (Int.not_lt.2 hcc2.out) HOO.out
                    have hn := (RO_den R8.out).2 rfl
                    cases hz : nz (some z) with
                    | false =>
                      obtain rfl : n4 = 0 := hn.2 hz
                      have hz0 : z = 0 := Decidable.byContradiction fun e => by rw [nz_iff.2 e] at hz; cases hz
                      rw [if_pos hz0] at hP
                      have HP := hid (by have h1 := mrg_step hR.out hP; rwa [List.append_nil] at h1 : mergeT K M = (mergeT (K.drop (k + 1)) (M.drop (l + 1))).map (R ++ ·))
                      have p0 := L8.out.c 0 rfl
                      have p1 := L8.out.c 1 rfl
                      have p2 := L8.out.c 2 rfl
                      clear hP hn hz
                      go_wp2
                      go_roundw
                      case rel => exact ⟨k + 1, l + 1, x0, c0, R, by omega, by omega, by go_num, by go_num, rfl, HP, hid (by have := hRl.out; omega), hid ((hV.out.old HB8.out).wide (Nat.le_refl _) hw8), HBW8⟩
                      case measure => simp [intOf]; omega
                    | true =>
                      have hz0 : ¬ z = 0 := nz_iff.1 hz
                      have hn0 : ¬ n4 = 0 := fun e => by rw [hn.1 e] at hz; cases hz
                      have hnp : (0 : Int) < n4 := by omega
                      rw [if_neg hz0] at hP
                      have HP := hid (mrg_step hR.out hP)
                      have PV := hid (((hV.out.old HB8.out).old (Below_drew1 (Below.refl _ _))).old (below_new' (o := .cells #[.int .i64 x1, .bool s4, .slice a4 n4 c4, .slice b4 m4 d4] 93)))
                      have PR := hid ((R8.out.old (Below_drew1 (Below.refl _ _))).old (below_new' (o := .cells #[.int .i64 x1, .bool s4, .slice a4 n4 c4, .slice b4 m4 d4] 93)))
                      have PB := hid (heap_alloc_new w8.drew (.cells #[.int .i64 x1, .bool s4, .slice a4 n4 c4, .slice b4 m4 d4] 93))
                      have HB2 := hid ((Below_drew1 HBW8.out).alloc (Nat.le_trans hwz hw8) (.cells #[.int .i64 x1, .bool s4, .slice a4 n4 c4, .slice b4 m4 d4] 93))
                      have L8D := hid ((L8.out.old (Below_drew1 (Below.refl _ _))).new1 (o := .cells #[.int .i64 x1, .bool s4, .slice a4 n4 c4, .slice b4 m4 d4] 93))
                      have p0 := L8.out.c 0 rfl
                      have p1 := L8.out.c 1 rfl
                      have p2 := L8.out.c 2 rfl
                      clear hP hn hz
                      go_wp2_with fail
                      go_region_held3 (fun w' => w'.cell? ⟨g1, k * 4, none⟩ = some (.int .i64 x1) ∧ w'.cell? ⟨wr.heap.size, 0, none⟩ = some (.bool s4) ∧ w'.cell? ⟨wr.heap.size, 1, none⟩ = some (.slice a4 n4 c4) ∧ w'.cell? ⟨wr.heap.size, 2, none⟩ = some (.slice b4 m4 d4)) (first | with_reducible exact ⟨qc8, p0, p1, p2⟩ | exact ⟨qc8, p0, p1, p2⟩ | go_keep)
                        (first
                          | ((refine step_pushT rfl _ _ rfl (by rfl) PV.out (Nat.le_refl _) hwz PR.out (by rfl) PB.out (by have := hRl.out; omega) (by first | exact HB2.out.size | (have := HB2.out.size; simpa using this)) ?_)
                             intro gp cp wp hvp hbp hcp
                             have HB3 := hid (HB2.out.trans hbp)
                             have HV3 := hid hvp
                             have qc8 := keptT (w2 := w8.drew) PV.out hcp G1.out (Nat.le_trans hwz hw8) qc8
                             have LM := hid (show LocA 30 wp (wr.heap.size) #[.bool s4, .slice a4 n4 c4, .slice b4 m4 d4] from (hcp _ L8D.out.lt (fun e => by have h1 := PV.out.own _ e.symm; have h2 := hz5.out; omega)).trans L8D.out)
                             have p0 := LM.out.c 0 rfl
                             have p1 := LM.out.c 1 rfl
                             have p2 := LM.out.c 2 rfl
                             clear hvp hbp hcp))
                      clear qc8 p0 p1 p2
                      go_wp2
                      go_roundw
                      case rel => exact ⟨k + 1, l + 1, some ⟨gp, 0, none⟩, cp, R ++ [tqo K[k].c (some z)], by omega, by omega, by go_num, by go_num, by rw [List.length_append]; rfl, HP, hid (by have := hRl.out; rw [List.length_append, List.length_singleton]; omega), hid (by
                        have h1 := HV3.out
                        rw [List.length_append, List.length_singleton, HX1.out]
                        exact h1), HB3⟩
                      case measure => simp [intOf]; omega
          · obtain rfl : l = M.length := by omega
            go_wp2_with fail
            go_quiet (fail)

            have KF := hid (fun (U : World) (hb : Below wr.heap.size wr U) => scopy_f (w := U) (s := s1) (RLX1.out.old hb))
            go_wp2_with fail
            go_region_held3 (fun w' => w'.cell? ⟨g1, k * 4, none⟩ = some (.int .i64 x1) ∧ w'.cell? ⟨g1, k * 4 + 1, none⟩ = some (.bool s1) ∧ w'.cell? ⟨g1, k * 4 + 2, none⟩ = some (.slice a31 n31 c31) ∧ w'.cell? ⟨g1, k * 4 + 3, none⟩ = some (.slice b31 m31 d31)) (first | with_reducible exact ⟨qc1, q01, q11, q21⟩ | exact ⟨qc1, q01, q11, q21⟩ | go_keep)
              (first
                | (go_at_call 66; (with_reducible refine (KF.out _ (Below_drewN (Below.refl _ _))).mono ?_); rintro e w5 ⟨a4, c4, b4, d4, rfl, hr, hb⟩
                   have hb5 : Below wr.heap.size wr w5 := (Below_drewN (Below.refl _ _)).trans hb
                   have qc1 := (hb5.cell (p := ⟨g1, k * 4, none⟩) hg1).trans qc1; have q01 := (hb5.cell (p := ⟨g1, k * 4 + 1, none⟩) hg1).trans q01; have q11 := (hb5.cell (p := ⟨g1, k * 4 + 2, none⟩) hg1).trans q11; have q21 := (hb5.cell (p := ⟨g1, k * 4 + 3, none⟩) hg1).trans q21
                   have hro := hr.ro2 (s := s1) (x := v1) HRV1.out
                   have PV := hid ((hV.out.old hb5).old (below_new' (o := .cells #[.int .i64 x1, .bool s1, .slice a4 A1.length c4, .slice b4 D1.length d4] 93)))
                   have PR := hid (hro.1.old (below_new' (o := .cells #[.int .i64 x1, .bool s1, .slice a4 A1.length c4, .slice b4 D1.length d4] 93)))
                   have PB := hid (heap_alloc_new w5 (.cells #[.int .i64 x1, .bool s1, .slice a4 A1.length c4, .slice b4 D1.length d4] 93))
                   have hz5 : wr.heap.size ≤ w5.heap.size := hb.size
                   have HB2 := hid ((HB.out.trans (hb5.mono hwz)).alloc (Nat.le_trans hwz hz5) (.cells #[.int .i64 x1, .bool s1, .slice a4 A1.length c4, .slice b4 D1.length d4] 93))
                   clear hr hb hro hb5)
                | ((refine step_pushT rfl _ _ rfl (by rfl) PV.out (Nat.le_refl _) hwz PR.out (by rfl) PB.out (by have := hRl.out; omega) (by first | exact HB2.out.size | (have := HB2.out.size; simpa using this)) ?_)
                   intro gp cp wp hvp hbp hcp
                   have HB3 := hid (HB2.out.trans hbp)
                   have HV3 := hid hvp
                   have hzz := Nat.le_trans hwz hz5
                   have qc1 := keptT PV.out hcp G1.out hzz qc1; have q01 := keptT PV.out hcp G1.out hzz q01; have q11 := keptT PV.out hcp G1.out hzz q11; have q21 := keptT PV.out hcp G1.out hzz q21
                   clear hvp hbp hcp))
            clear qc1 q01 q11 q21
            go_wp2
            go_roundw
            case rel => exact ⟨k + 1, M.length, some ⟨gp, 0, none⟩, cp, R ++ [K[k]], by omega, by omega, by go_num, by go_num, by rw [List.length_append]; rfl, hid (mrg_step hR.out (by rw [List.drop_length]; exact mrg_l hlt)), hid (by have := hRl.out; rw [List.length_append, List.length_singleton]; omega), hid (by
              have h1 := HV3.out
              rw [List.length_append, List.length_singleton]
              rw [HTQ1.out]
              exact h1), HB3⟩
            case measure => simp [intOf]; omega
        · obtain rfl : k = K.length := by omega
          by_cases hlt2 : l < M.length
          · have a3 : (l : Int) < M.length := by omega
            have e3 : ((l : Int) == (M.length : Int)) = false := beq_eq_false_iff_ne.2 (by omega)
            obtain ⟨g2, a32, n32, c32, b32, m32, d32, rfl, hg2, qc2, q02, q12, q22, R2⟩ := Y.out.at hM hlt2
            obtain ⟨⟨x2, s2, A2, D2⟩, hf2⟩ : ∃ f, M[l]'(hlt2) = f := ⟨_, rfl⟩
            simp only [hf2] at qc2 q02 R2
            have HF2 := hid hf2
            clear hf2
            obtain ⟨o2, ho2⟩ : ∃ o, Tq.o ⟨x2, s2, A2, D2⟩ = o := ⟨_, rfl⟩
            have HO2 := hid (show (M[l]'(hlt2)).o = o2 by rw [HF2.out, ho2])
            have HX2 := hid (show (M[l]'(hlt2)).c = x2 by rw [HF2.out])
            have RX2 := hid (show RA wr s2 (.slice a32 n32 c32) (.slice b32 m32 d32) o2 from ⟨A2, D2, R2, ho2⟩)
            have RLX2 := hid R2
            have RN2 := hid R2.nums
            clear ho2 R2
            have G2 := hid HY0.out.blk.2
            obtain ⟨v2, hv2, -⟩ := (HTM.out l hlt2).2.2
            have HRV2 := hid (show rval s2 A2 D2 = some v2 by have h1 := hv2; rw [HF2.out] at h1; exact h1)
            have HTQ2 := hid (show M[l] = tqo x2 (some v2) by
              have h1 := tq_form (t := M[l]) (by rw [hv2]; rfl)
              rw [hv2, HX2.out] at h1
              exact h1)
            have HOV2 := hid (show o2 = some v2 by rw [← HO2.out]; exact hv2)
            have HOK2 := hid hv2
            clear hv2
            go_wp2_with fail
            go_quiet (fail)

            go_wp2_with fail
            go_quiet (fail)

            have KF := hid (fun (U : World) (hb : Below wr.heap.size wr U) => scopy_f (w := U) (s := s2) (RLX2.out.old hb))
            go_wp2_with fail
            go_region_held3 (fun w' => w'.cell? ⟨g2, l * 4, none⟩ = some (.int .i64 x2) ∧ w'.cell? ⟨g2, l * 4 + 1, none⟩ = some (.bool s2) ∧ w'.cell? ⟨g2, l * 4 + 2, none⟩ = some (.slice a32 n32 c32) ∧ w'.cell? ⟨g2, l * 4 + 3, none⟩ = some (.slice b32 m32 d32)) (first | with_reducible exact ⟨qc2, q02, q12, q22⟩ | exact ⟨qc2, q02, q12, q22⟩ | go_keep)
              (first
                | (go_at_call 66; (with_reducible refine (KF.out _ (Below_drewN (Below.refl _ _))).mono ?_); rintro e w5 ⟨a4, c4, b4, d4, rfl, hr, hb⟩
                   have hb5 : Below wr.heap.size wr w5 := (Below_drewN (Below.refl _ _)).trans hb
                   have qc2 := (hb5.cell (p := ⟨g2, l * 4, none⟩) hg2).trans qc2; have q02 := (hb5.cell (p := ⟨g2, l * 4 + 1, none⟩) hg2).trans q02; have q12 := (hb5.cell (p := ⟨g2, l * 4 + 2, none⟩) hg2).trans q12; have q22 := (hb5.cell (p := ⟨g2, l * 4 + 3, none⟩) hg2).trans q22
                   have hro := hr.ro2 (s := s2) (x := v2) HRV2.out
                   have PV := hid ((hV.out.old hb5).old (below_new' (o := .cells #[.int .i64 x2, .bool s2, .slice a4 A2.length c4, .slice b4 D2.length d4] 93)))
                   have PR := hid (hro.1.old (below_new' (o := .cells #[.int .i64 x2, .bool s2, .slice a4 A2.length c4, .slice b4 D2.length d4] 93)))
                   have PB := hid (heap_alloc_new w5 (.cells #[.int .i64 x2, .bool s2, .slice a4 A2.length c4, .slice b4 D2.length d4] 93))
                   have hz5 : wr.heap.size ≤ w5.heap.size := hb.size
                   have HB2 := hid ((HB.out.trans (hb5.mono hwz)).alloc (Nat.le_trans hwz hz5) (.cells #[.int .i64 x2, .bool s2, .slice a4 A2.length c4, .slice b4 D2.length d4] 93))
                   clear hr hb hro hb5)
                | ((refine step_pushT rfl _ _ rfl (by rfl) PV.out (Nat.le_refl _) hwz PR.out (by rfl) PB.out (by have := hRl.out; omega) (by first | exact HB2.out.size | (have := HB2.out.size; simpa using this)) ?_)
                   intro gp cp wp hvp hbp hcp
                   have HB3 := hid (HB2.out.trans hbp)
                   have HV3 := hid hvp
                   have hzz := Nat.le_trans hwz hz5
                   have qc2 := keptT PV.out hcp G2.out hzz qc2; have q02 := keptT PV.out hcp G2.out hzz q02; have q12 := keptT PV.out hcp G2.out hzz q12; have q22 := keptT PV.out hcp G2.out hzz q22
                   clear hvp hbp hcp))
            clear qc2 q02 q12 q22
            go_wp2
            go_roundw
            case rel => exact ⟨K.length, l + 1, some ⟨gp, 0, none⟩, cp, R ++ [M[l]], by omega, by omega, by go_num, by go_num, by rw [List.length_append]; rfl, hid (mrg_step hR.out (by rw [List.drop_length]; exact mrg_r hlt2)), hid (by have := hRl.out; rw [List.length_append, List.length_singleton]; omega), hid (by
              have h1 := HV3.out
              rw [List.length_append, List.length_singleton]
              rw [HTQ2.out]
              exact h1), HB3⟩
            case measure => simp [intOf]; omega
          · obtain rfl : l = M.length := by omega
            have HE := hid (show RR = R by rw [HN.out, hR.out, List.drop_length, List.drop_length, mergeT_nil]; simp)
            go_wp2
            go_ret
            exact ⟨_, _, _, rfl, by rw [HE.out]; exact hV.out, HB.out⟩
end Go.Proofs.YtnkcihcmkojdmaaGreat
