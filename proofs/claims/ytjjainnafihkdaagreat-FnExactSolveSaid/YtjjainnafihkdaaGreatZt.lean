import Derived.Test.YtjjainnafihkdaaGreatSol
import Derived.Test.YtjjainnafihkdaaGreatZs
set_option maxRecDepth 100000
set_option maxHeartbeats 25600000
set_option linter.unusedVariables false
set_option linter.unusedSimpArgs false
namespace Go.Proofs.YtjjainnafihkdaaGreat
open Go.RowKit
open Go.Lib (hid)
theorem VW.top {w : World} {a : Option Addr} {n : Nat} {K : List Fq} {lo hi : Nat} (h : VW w a n K lo hi) : VW w a n K 0 w.heap.size :=
 ⟨h.1, fun h0 => by
  obtain ⟨g, o, e, h1, h2, h3, hc⟩ := h.2 h0
  exact ⟨g, o, e, Nat.zero_le _, h3, h3, fun i hi' => by
   obtain ⟨x, y, q0, q1, q2, r⟩ := hc i hi'
   exact ⟨x, y, q0, q1, q2, ⟨⟨Ints_base r.a.ints (Nat.zero_le _), fun k hk => (Ints_lt r.a.ints k hk).2⟩, ⟨Ints_base r.d.ints (Nat.zero_le _), fun k hk => (Ints_lt r.d.ints k hk).2⟩⟩⟩⟩⟩
theorem MW_lit1 {w : World} {b : Option Addr} {d : Nat} {V : List Fq} {lo hi : Nat} (h : VW w b V.length V lo hi) : MW (w.alloc (.cells #[.slice b V.length d] 42)) (some ⟨w.heap.size, 0, none⟩) 1 [V] 0 (w.alloc (.cells #[.slice b V.length d] 42)).heap.size := by
 refine ⟨rfl, fun _ => ⟨w.heap.size, 0, rfl, Nat.zero_le _, by simp, by simp, fun i hi' => ?_⟩⟩
 have : i = 0 := by simp at hi'; omega
 subst this
 exact ⟨b, d, by simp, (h.old below_new').top⟩
theorem impl_Solve {a b : Option Addr} {n c m d : Nat} {M : List (List Fq)} {V : List Fq} {lo hi lo' hi' : Nat} (hM : Sm2 M) (hV : Sm V) (hw : ∀ K ∈ M, K.length ≤ 1048575) (w : World) (h : MW w a n M lo hi) (h' : VW w b m V lo' hi') :
  Calls Tryz.prog 40 #[.slice a n c, .slice b m d] w (SolR true (solV M V) (solB M V) w) := by
 have HV := hid h
 have HW := hid h'
 obtain rfl := h.num
 obtain rfl := h'.num
 have hn := hM.2
 have HSM := hid hM
 obtain ⟨RS, hRS⟩ : ∃ RS, RS = solV M V := ⟨_, rfl⟩
 obtain ⟨RB, hRB⟩ : ∃ RB, RB = solB M V := ⟨_, rfl⟩
 rw [← hRS, ← hRB]
 have HRS := hid hRS
 have HRB := hid hRB
 have KO := hid (impl_VecOk_w (c := d) hV w h')
 have NO := hid (fun (e : solK M V = none) (w' : World) (hb : Below w.heap.size w w') => show SolR true RS RB w (.returned (.tuple #[.slice none 0 0, .bool false])) w' from SolR_no (by rw [HRS.out]; exact (sol_none e).1) (by rw [HRB.out]; exact (sol_none e).2) hb)
 have HWW := hid hw
 clear h h' hRS hRB hM hw
 cases hok : oks (vals V) with
 |false =>
  rw [hok] at KO
  have HN := hid (solK_no (M := M) (V := V) (fun h => by rw [hok] at h; exact absurd h.1.1 (by decide)))
  clear hok
  go_enter Tryz.func40, Tryz.ntmps40
  go_wp2_with fail
  (with_reducible refine (KO.out).mono ?_)
  rintro e w1 ⟨rfl, hb⟩
  have R := hid (NO.out HN.out _ hb)
  clear hb
  go_wp2
  refine bodyPost_ret (results_tmp2 rfl _ _ _) rfl ?_
  exact R.out
 |true =>
  rw [hok] at KO
  by_cases hl : M.length = V.length
  case neg =>
   have HN := hid (solK_no (M := M) (V := V) (fun h => hl h.1.2))
   have e0 : ((M.length : Int) == (V.length : Int)) = false := beq_eq_false_iff_ne.2 (by omega)
   have e1 : ¬ (M.length : Int) = (V.length : Int) := by omega
   clear hok hl
   go_enter Tryz.func40, Tryz.ntmps40
   go_wp2_with fail
   (with_reducible refine (KO.out).mono ?_)
   rintro e w1 ⟨rfl, hb⟩
   have R := hid (NO.out HN.out _ hb)
   clear hb
   go_wp2
   refine bodyPost_ret (results_tmp2 rfl _ _ _) rfl ?_
   exact R.out
  case pos =>
   have hlc : M.length ≤ (colF V).length := by rw [colF_len, hl]; exact Nat.le_refl _
   have hJl : (joinF M (colF V)).length = M.length := joinF_len hlc
   obtain ⟨c1, c2⟩ := col_ok hok
   have hv40 := oks_n hok
   have hSO : Sm2 (colF V) := ⟨fun K hK => by
    obtain ⟨f, hf, rfl⟩ := List.mem_map.1 hK
    exact ⟨fun g hg => by rw [List.mem_singleton.1 hg]; exact hV.1 f hf, by simp⟩, by rw [colF_len]; exact hV.2⟩
   have hS1 : Sm2 [V] := ⟨fun K hK => by rw [List.mem_singleton.1 hK]; exact hV, by simp⟩
   have KT := hid (fun (U : World) (hb : Below w.heap.size w U) => impl_MatTranspose (c := 1) hS1 (U.alloc (.cells #[.slice b V.length d] 42)) (MW_lit1 (d := d) (HW.out.old hb)))
   rw [matT_one hok] at KT
   have KW := hid (fun (U : World) (hb : Below w.heap.size w U) => impl_matWidth (c := c) HSM.out U (HV.out.old hb))
   have KJ := hid (fun (U : World) (hb : Below w.heap.size w U) (x : Option Addr) (y z : Nat) (l h' : Nat) (hx : MW U x y (colF V) l h') => joinRows_any (c := c) (d := z) HSM.out hSO hlc U (HV.out.old hb) hx)
   obtain ⟨W, hW⟩ : ∃ W, W = matW M := ⟨_, rfl⟩
   rw [← hW] at KW
   obtain ⟨J, hJ⟩ : ∃ J, J = joinF M (colF V) := ⟨_, rfl⟩
   rw [← hJ] at KJ hJl
   have HNO := hid (fun (h : ¬ (M.length ≠ 0 ∧ matOk J = true)) => show solK M V = none from solK_no fun e => h ⟨e.2.1, by rw [hJ]; exact e.2.2⟩)
   have HYES := hid (fun (h0 : M.length ≠ 0) (hj : matOk J = true) => show matW J = W + 1 ∧ solK M V = (match redK (un J) (W + 1) with
     | none => none
     | some (S, ps) => if W ∈ ps then none else some (solJ W S ps ps.length)) from ⟨by rw [hJ, join_w hlc (Nat.pos_of_ne_zero h0), colF_w (by omega), hW], by
    have hj' := hj
    rw [hJ] at hj'
    unfold solK
    rw [if_pos ⟨⟨hok, hl⟩, h0, hj'⟩, ← hJ, ← hW]
    rfl⟩)
   have HSJ := hid (show Sm2 J by
    rw [hJ]
    exact Sm2_join hlc HSM.out hSO fun k hk => by
     have := HWW.out _ (List.getElem_mem hk)
     rw [colF_at]; simp; omega)
   have e0 : ((M.length : Int) == (V.length : Int)) = true := beq_iff_eq.2 (by omega)
   have HLL := hid hl
   have HJL := hid hJl
   clear hok hlc c1 c2 hSO hS1 hW hJ hl hJl
   go_enter Tryz.func40, Tryz.ntmps40
   go_wp2_with fail
   (with_reducible refine (KO.out).mono ?_)
   rintro e w1 ⟨rfl, hb⟩
   have HB1 := hid hb
   clear hb
   go_wp2_with fail
   (with_reducible refine (KW.out _ HB1.out).mono ?_)
   rintro e w2 ⟨rfl, rfl⟩
   have KT1 := hid (KT.out _ HB1.out)
   go_wp2_with fail
   (with_reducible refine (KT1.out).mono ?_)
   rintro e w2 ⟨a5, n5, c5, rfl, hv, hb⟩
   have HB2 := hid ((HB1.out.alloc HB1.out.size (.cells #[.slice b V.length d] 42)).trans (hb.mono (by have := HB1.out.size; simp; omega)))
   have KJ2 := hid (KJ.out _ HB2.out _ _ c5 _ _ hv.mw)
   clear hv hb
   go_wp2_with fail
   (with_reducible refine (KJ2.out).mono ?_)
   rintro e w3 ⟨aj, nj, cj, rfl, hmj, hb⟩
   have HMJ := hid hmj
   have HB3 := hid (HB2.out.trans (hb.mono HB2.out.size))
   obtain rfl := hmj.num
   clear hmj hb
   cases hjo : matOk J with
   |false =>
    have KR := hid (reduceRows_bad (c := cj) HSJ.out hjo w3 HMJ.out)
    have HN := hid (HNO.out (fun h => by rw [hjo] at h; exact absurd h.2 (by decide)))
    clear hjo
    go_wp2_with fail
    (with_reducible refine (KR.out).mono ?_)
    rintro e w4 ⟨rfl, hb⟩
    have R := hid (NO.out HN.out _ (HB3.out.trans (hb.mono HB3.out.size)))
    clear hb
    go_wp2
    refine bodyPost_ret (results_tmp2 rfl _ _ _) rfl ?_
    exact R.out
   |true =>
    by_cases h0 : M.length = 0
    case pos =>
     have KR := hid (reduceRows_nil (c := cj) (show J.length = 0 by rw [HJL.out]; exact h0) w3 HMJ.out)
     have HN := hid (HNO.out (fun h => h.1 h0))
     clear hjo h0
     go_wp2_with fail
     (with_reducible refine (KR.out).mono ?_)
     rintro e w4 ⟨a', c', rfl, -, hb⟩
     have R := hid (NO.out HN.out _ (HB3.out.trans (hb.mono HB3.out.size)))
     clear hb
     go_wp2
     refine bodyPost_ret (results_tmp2 rfl _ _ _) rfl ?_
     exact R.out
    case neg =>
     obtain ⟨hwj, hsol⟩ := HYES.out h0 hjo
     obtain ⟨u1, u2⟩ := un_rv hjo
     have hn40 := matOk_n hjo
     have hw40 := matOk_w hjo
     have hul := un_len J
     have hjl := HJL.out
     have KR := hid (reduceRows_any (c := cj) u2 (by omega) hw40 (by omega) w3 (show MW w3 aj J.length ((un J).map rv) 0 w3.heap.size by rw [← u1]; exact HMJ.out))
     rw [hwj] at u2 hw40 KR
     have HU2 := hid u2
     have HSOL := hid hsol
     have HUL := hid (show (un J).length = M.length by rw [hul, HJL.out])
     clear hjo hsol u1 u2 hwj hul hjl
     cases er : redK (un J) (W + 1) with
     |none =>
      rw [er] at KR
      have HN := hid (show solK M V = none by rw [HSOL.out, er])
      clear er
      go_wp2_with fail
      (with_reducible refine (KR.out).mono ?_)
      rintro e w4 ⟨rfl, hb⟩
      have R := hid (NO.out HN.out _ (HB3.out.trans (hb.mono HB3.out.size)))
      clear hb
      go_wp2
      refine bodyPost_ret (results_tmp2 rfl _ _ _) rfl ?_
      exact R.out
     |some q =>
      obtain ⟨S, ps⟩ := q
      rw [er] at KR
      obtain ⟨i1, i2, i3, i4, i5⟩ := redK_inv HU2.out er
      have HI5 := hid i5
      have HRW := hid i1
      have hsl : S.length = M.length := by rw [i2, HUL.out]
      have HSOL2 := hid (show solK M V = if W ∈ ps then none else some (solJ W S ps ps.length) by rw [HSOL.out, er])
      rw [HUL.out, ← hsl] at KR
      clear er i1 i2 i5
      go_wp2_with fail
      (with_reducible refine (KR.out).mono ?_)
      rintro e w4 ⟨G, cap, pv, H, h1, rfl, hIX, hp, hb⟩
      obtain ⟨a7, c7, rfl⟩ := natI_form hp
      have HIX := hid hIX
      have HPV := hid hp
      have HP := hid (Ints_nz hp).2
      have HB4 := hid (HB3.out.trans (hb.mono HB3.out.size))
      have hz34 := hid hb.size
      clear hIX hp hb
      have b0 : ((S.length : Int) == 0) = false := beq_eq_false_iff_ne.2 (by omega)
      have b00 : ¬ (S.length : Int) = 0 := by omega
      obtain ⟨Bc, hBc⟩ := bool_of ((W : Int) ∈ natI ps)
      have KC := hid (fun (U : World) (hb : Below w4.heap.size w4 U) => contains_int Bc hBc (by rw [natI_len]; omega) U (Ints_old HPV.out hb))
      have hBm : Bc = true ↔ W ∈ ps := by
       rw [hBc]
       unfold natI
       constructor
       ·intro h
        obtain ⟨p, hp, e⟩ := List.mem_map.1 h
        have : p = W := by omega
        rw [← this]; exact hp
       ·intro h
        exact List.mem_map.2 ⟨W, h, rfl⟩
      clear hBc
      go_wp2_with fail
      (with_reducible refine (KC.out _ (Below.refl _ _)).mono ?_)
      rintro e w5 ⟨rfl, rfl⟩
      cases Bc with
      |true =>
       have HN := hid (show solK M V = none by rw [HSOL2.out, if_pos (hBm.1 rfl)])
       have R := hid (NO.out HN.out _ HB4.out)
       clear hBm
       go_wp2
       refine bodyPost_ret (results_tmp2 rfl _ _ _) rfl ?_
       exact R.out
      |false =>
       have hnin : ¬ W ∈ ps := fun h => by have := hBm.2 h; cases this
       have HYS := hid (show solK M V = some (solJ W S ps ps.length) by rw [HSOL2.out, if_neg hnin])
       have HPW := hid (show ∀ p ∈ ps, p < W from fun p hp => by
        have := HI5.out p hp
        have : p ≠ W := fun e => hnin (by rw [← e]; exact hp)
        omega)
       have KZ := hid (fun U => impl_VecZero (W : Int) (by omega) (by omega) U)
       rw [solJ_zero W S ps (by omega)] at KZ
       clear hnin hBm
       obtain ⟨Es, hel, hes, hero, heap⟩ := HIX.out.els
       have HES := hid hes
       have HERO := hid hero
       have HEAP := hid heap
       have hle1 := (RI_IX _ _ _ _ _).le HIX.out
       have HROW := hid ((RI_IX _ _ _ _ _).row HIX.out)
       clear hes hero heap
       go_wp2_with fail
       (with_reducible refine (KZ.out _).mono ?_)
       rintro e w5 ⟨av, nv, cv, rfl, hv, hb⟩
       obtain rfl : nv = W := by have := hv.num; rw [rv_len, solJ_len] at this; exact this
       have HX0 := hid (SX.zero (Es := Es) (W := nv) (lo := w3.heap.size) hv (Nat.le_refl _) hz34.out)
       have HV0 := hid hv
       have HB0 := hid hb
       clear hv hb
       go_wp2
       go_loopw [45] (fun i wr => ∃ j : Nat, j ≤ ps.length ∧ i = .int .i64 j ∧ Hid (SX wr (.slice av nv cv) (rv (solJ nv S ps j)) Es nv j w3.heap.size w4.heap.size) ∧ Hid (Below w4.heap.size w4 wr)) (fun i _ => ps.length - (intOf i).toNat)
       case atStart => exact ⟨0, Nat.zero_le _, rfl, HX0, HB0⟩
       case round =>
        obtain ⟨j, hj, rfl, hX, HBB⟩ := hrel
        by_cases hlt : j < ps.length
        ·have hjS : j < S.length := by omega
         obtain ⟨g5, o5, rfl, hc⟩ := (Ints_nz (Ints_old HPV.out HBB.out)).2 j hlt
         obtain ⟨p, hp⟩ : ∃ p, p = ps[j] := ⟨_, rfl⟩
         have hpW : p < nv := by rw [hp]; exact HPW.out _ (List.getElem_mem hlt)
         have HSET := hid (show (solJ nv S ps j).set p (el S[j] nv) = solJ nv S ps (j + 1) by
          rw [solJ, hp, List.getD_eq_getElem?_getD, List.getElem?_eq_getElem hlt, Option.getD_some, List.getD_eq_getElem?_getD, List.getElem?_eq_getElem hjS, Option.getD_some])
         rw [← hp] at hc
         obtain ⟨hkE, g7, o7, c7', eH, -, hg7, hcells⟩ := HES.out j hjS (by omega)
         have hEl : Es[j].length = nv + 1 := by rw [← keys_len, hkE, rv_len, (HRW.out.at hjS).1]
         have hq := hcells nv (by omega)
         have hq0 := (HBB.out.cell (p := ⟨g7, o7 + nv * 3, none⟩) hg7).trans hq.1
         have hq1 := (HBB.out.cell (p := ⟨g7, o7 + nv * 3 + 1, none⟩) hg7).trans hq.2.1
         have hq2 := (HBB.out.cell (p := ⟨g7, o7 + nv * 3 + 2, none⟩) hg7).trans hq.2.2
         have q5 := HROW.out.cells (g := G) rfl j _ eH
         rw [Go.WideShapes.add_plain, Nat.zero_add, (HRW.out.at hjS).1] at q5
         have q5 := (HBB.out.cell (p := ⟨G, j, none⟩) (HROW.out.lt G rfl).2).trans q5
         have hqq : Es[j][nv].q = fqo (some (el S[j] nv)) := by
          have h1 : nv < (keys Es[j]).length := by rw [keys_len]; omega
          have h2 : (keys Es[j])[nv] = Es[j][nv].q := keys_at (by omega)
          rw [← h2]
          have h3 : nv < S[j].length := by rw [(HRW.out.at hjS).1]; omega
          have h4 := rv_at h3
          rw [← h4]
          congr 1
         have hQQ := hid hqq
         have hmem : Es[j][nv] ∈ Es.flatten := List.mem_flatten.2 ⟨_, List.getElem_mem (by omega), List.getElem_mem (by omega)⟩
         have hro := (HERO.out _ hmem).1
         obtain ⟨a31, c31, b31, d31, ev, eu⟩ := hro.form
         have HEV := hid ev
         have HEU := hid eu
         obtain ⟨s8, hs8⟩ : ∃ s8, s8 = Es[j][nv].q.s := ⟨_, rfl⟩
         have HS8 := hid hs8
         rw [ev] at hq1
         rw [eu] at hq2
         rw [← hs8] at hq0
         have hjE : j < Es.length := by omega
         have hnE : nv < (Es[j]'hjE).length := by omega
         have hpv : p < (rv (solJ nv S ps j)).length := by rw [rv_len, solJ_len]; exact hpW
         have HPUT := hid (fun (gv : Nat) (hx : SX wr (.slice (some ⟨gv, 0, none⟩) nv cv) (rv (solJ nv S ps j)) Es nv j w3.heap.size w4.heap.size) => hx.put (p := p) (h1 := h1) HEAP.out (fun e he => ⟨(HERO.out e he).1.old HBB.out, (HERO.out e he).2⟩) hle1 (Nat.le_trans hle1 HBB.out.size) hjE hnE hpv HS8.out HEV.out.symm HEU.out.symm hQQ.out)
         obtain ⟨E, hE, hEk, -⟩ := hX.out.vo
         have hpE : p < E.length := by rw [← keys_len, hEk]; exact hpv
         obtain ⟨gv, eav, -, hgv0, -, -⟩ := hE.pos (by omega)
         subst eav
         have f0 := hE.free (p * 3)
         have f1 := hE.free (p * 3 + 1)
         have f2 := hE.free (p * 3 + 2)
         obtain ⟨zz0, zz1, zz2⟩ := hE.cell hpE
         obtain ⟨y0, z0⟩ : ∃ y, wr.cell? ⟨gv, p * 3, none⟩ = some y := ⟨_, zz0⟩
         obtain ⟨y1, z1⟩ : ∃ y, wr.cell? ⟨gv, p * 3 + 1, none⟩ = some y := ⟨_, zz1⟩
         obtain ⟨y2, z2⟩ : ∃ y, wr.cell? ⟨gv, p * 3 + 2, none⟩ = some y := ⟨_, zz2⟩
         clear zz0 zz1 zz2
         obtain ⟨E0, hE0, hE0k⟩ := HV0.out
         have hE0l : E0.length = nv := by rw [← keys_len, hE0k, rv_len, solJ_len]
         obtain ⟨gw, egw, -, hg4, -⟩ := hE0.pos (by omega)
         have egv : gv = gw := by simpa using egw
         subst egv
         have HPP := hid (HPUT.out _ hX.out)
         have hg := hid hg4
         have HBN := hid (((HBB.out.setCell (p := ⟨gv, p * 3, none⟩) hg.out (.bool s8)).setCell (p := ⟨gv, p * 3 + 1, none⟩) hg.out (.slice a31 Es[j][nv].q.A.length c31)).setCell (p := ⟨gv, p * 3 + 2, none⟩) hg.out (.slice b31 Es[j][nv].q.D.length d31))
         have b9 : (0 : Int) ≤ j := by omega
         have b10 : (j : Int) < ps.length := by omega
         have b11 : (0 : Int) ≤ p := by omega
         have b12 : (p : Int) < nv := by omega
         have b13 : (j : Int) < S.length := by omega
         have b14 : (0 : Int) ≤ nv := by omega
         have b15 : (nv : Int) < ((nv + 1 : Nat) : Int) := by omega
         generalize Es[j][nv].q.A.length = nA at hq1 HPP HBN
         generalize Es[j][nv].q.D.length = nD at hq2 HPP HBN
         clear HPUT hQQ HEV HEU HS8 hq hcells eH hp hro ev eu hs8 hqq hmem hE hEk hE0 hE0k hE0l egw hg4 hgv0 hpE
         go_wp2
         go_roundw
         case rel => exact ⟨j + 1, by omega, by go_num, hid (by
          have := HPP.out
          rw [← rv_set', HSET.out] at this
          simpa [size_set] using this), HBN⟩
         case measure => simp [intOf]; omega
        ·obtain rfl : j = ps.length := by omega
         have R := hid (show SolR true RS RB w (.returned (.tuple #[.slice av nv cv, .bool true])) wr by
          rw [HRS.out, HRB.out, (sol_some HYS.out).1, (sol_some HYS.out).2]
          obtain ⟨E, hE, hEk, -⟩ := hX.out.vo
          exact ⟨_, _, _, rfl, ⟨E, hE.wide HB3.out.size (Nat.le_refl _), hEk⟩, HB4.out.trans (HBB.out.mono HB4.out.size)⟩)
         go_wp2
         refine bodyPost_ret (results_tmp2 rfl _ _ _) rfl ?_
         exact R.out
end Go.Proofs.YtjjainnafihkdaaGreat
