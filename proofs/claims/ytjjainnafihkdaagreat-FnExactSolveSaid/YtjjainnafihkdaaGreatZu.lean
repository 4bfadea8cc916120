import Derived.Test.YtjjainnafihkdaaGreatSol
import Derived.Test.YtjjainnafihkdaaGreatZk
import Derived.Test.YtjjainnafihkdaaGreatZt
import Derived.Test.YtjjainnafihkdaaGreatYh
import Derived.Test.YtjjainnafihkdaaGreatVw
set_option maxRecDepth 100000
set_option maxHeartbeats 25600000
set_option linter.unusedVariables false
set_option linter.unusedSimpArgs false
namespace Go.Proofs.YtjjainnafihkdaaGreat
open Go.RowKit
open Go.Lib (hid)
theorem VK_lit1 {w : World} {s : Bool} {x y : Value} {A D : List Int} {lo hi : Nat} (r : ROw w x y A D lo hi) : VK false (w.alloc (.cells #[.bool s, x, y] 62)) (.slice (some ⟨w.heap.size, 0, none⟩) 1 1) [⟨s, A, D⟩] 0 (w.alloc (.cells #[.bool s, x, y] 62)).heap.size := by
 have hb := below_new' (w := w) (o := .cells #[.bool s, x, y] 62)
 have r' := r.old hb
 refine ⟨[⟨⟨s, A, D⟩, x, y⟩], ⟨⟨by rfl, .inr ⟨w.heap.size, 1, #[.bool s, x, y], rfl, Nat.zero_le _, heap_alloc_new w _, Nat.le_refl _, by unfold maxLen; decide, rfl, rfl⟩⟩, fun k hk => ?_, fun e he => ?_, fun h => (by cases h), fun h => (by cases h)⟩, rfl⟩
 ·simp [Value.ownBlock] at hk; subst hk; simp
 ·rw [List.mem_singleton.1 he]
  exact ⟨⟨Ints_base r'.a.ints (Nat.zero_le _), fun k hk => (Ints_lt r'.a.ints k hk).2⟩, ⟨Ints_base r'.d.ints (Nat.zero_le _), fun k hk => (Ints_lt r'.d.ints k hk).2⟩⟩
theorem colF_snoc {V : List Fq} {k : Nat} {f : Fq} (h : k < V.length) (e : V[k] = f) : (colF V).take k ++ [[f]] = (colF V).take (k + 1) := by
 subst e
 rw [List.take_succ_eq_append_getElem (by rw [colF_len]; exact h), colF_at]
theorem last_in {ps : List Nat} {W : Nat} (hp : ps.Pairwise (· < ·)) (hW : ∀ p ∈ ps, p < W + 1) (h0 : 0 < ps.length) : W ∈ ps ↔ ps[ps.length - 1] = W := by
 refine ⟨fun h => ?_, fun h => by rw [← h]; exact List.getElem_mem _⟩
 obtain ⟨i, hi, e⟩ := List.getElem_of_mem h
 by_cases hl : i = ps.length - 1
 ·subst hl; exact e
 ·have h1 := List.pairwise_iff_getElem.1 hp i (ps.length - 1) hi (by omega) (by omega)
  have h2 := hW _ (List.getElem_mem (show ps.length - 1 < ps.length by omega))
  omega
theorem spec_Solve {a b : Option Addr} {n c m d : Nat} {M : List (List Fq)} {V : List Fq} {lo hi lo' hi' : Nat} (hM : Sm2 M) (hV : Sm V) (hw : ∀ K ∈ M, K.length ≤ 1048575) (w : World) (h : MW w a n M lo hi) (h' : VW w b m V lo' hi') :
  Calls Tryz.prog 39 #[.slice a n c, .slice b m d] w (SolR false (solV M V) (solB M V) w) := by
 have HV := hid h
 have HW := hid h'
 have KM := hid (spec_MatOk_w (c := c) hM w h)
 have KO := hid (fun (U : World) (hb : Below w.heap.size w U) => spec_VecOk_w (c := d) hV U (HW.out.old hb))
 obtain rfl := h.num
 obtain rfl := h'.num
 have hn := hM.2
 have hvn := hV.2
 have HSV := hid hV
 obtain ⟨RS, hRS⟩ : ∃ RS, RS = solV M V := ⟨_, rfl⟩
 obtain ⟨RB, hRB⟩ : ∃ RB, RB = solB M V := ⟨_, rfl⟩
 rw [← hRS, ← hRB]
 have HRS := hid hRS
 have HRB := hid hRB
 have NO := hid (fun (e : solK M V = none) (w' : World) (hb : Below w.heap.size w w') => show SolR false RS RB w (.returned (.tuple #[.slice none 0 0, .bool false])) w' from SolR_no (by rw [HRS.out]; exact (sol_none e).1) (by rw [HRB.out]; exact (sol_none e).2) hb)
 have HSM := hid hM
 have HWW := hid hw
 clear h h' hRS hRB hM hV hw
 cases hmo : matOk M with
 |false =>
  rw [hmo] at KM
  have HN := hid (solK_no (M := M) (V := V) (fun h => by
   have hlc : M.length ≤ (colF V).length := by rw [colF_len, h.1.2]; exact Nat.le_refl _
   have := join_ok hlc (Nat.pos_of_ne_zero h.2.1) (col_ok h.1.1).2 h.2.2
   rw [hmo] at this; cases this))
  clear hmo
  go_enter Tryz.func39, Tryz.ntmps39
  go_wp2_with fail
  (with_reducible refine (KM.out).mono ?_)
  rintro e w1 ⟨rfl, hb⟩
  have HB1 := hid hb
  clear hb
  have R := hid (NO.out HN.out _ HB1.out)
  go_wp2
  refine bodyPost_ret (results_tmp2 rfl _ _ _) rfl ?_
  exact R.out
 |true =>
  rw [hmo] at KM
  cases hok : oks (vals V) with
  |false =>
   rw [hok] at KO
   have HN := hid (solK_no (M := M) (V := V) (fun h => by rw [hok] at h; exact absurd h.1.1 (by decide)))
   clear hmo hok
   go_enter Tryz.func39, Tryz.ntmps39
   go_wp2_with fail
   (with_reducible refine (KM.out).mono ?_)
   rintro e w1 ⟨rfl, hb⟩
   have HB1 := hid hb
   clear hb
   go_wp2_with fail
   (with_reducible refine (KO.out _ HB1.out).mono ?_)
   rintro e w2 ⟨rfl, hb⟩
   have HB2 := hid (HB1.out.trans (hb.mono HB1.out.size))
   clear hb
   have R := hid (NO.out HN.out _ HB2.out)
   go_wp2
   refine bodyPost_ret (results_tmp2 rfl _ _ _) rfl ?_
   exact R.out
  |true =>
   rw [hok] at KO
   by_cases hl : M.length = V.length
   case neg =>
    have HN := hid (solK_no (M := M) (V := V) (fun h => hl h.1.2))
    have e0 : ((V.length : Int) == (M.length : Int)) = false := beq_eq_false_iff_ne.2 (by omega)
    have e1 : ¬ (V.length : Int) = (M.length : Int) := by omega
    clear hmo hok hl
    go_enter Tryz.func39, Tryz.ntmps39
    go_wp2_with fail
    (with_reducible refine (KM.out).mono ?_)
    rintro e w1 ⟨rfl, hb⟩
    have HB1 := hid hb
    clear hb
    go_wp2_with fail
    (with_reducible refine (KO.out _ HB1.out).mono ?_)
    rintro e w2 ⟨rfl, hb⟩
    have HB2 := hid (HB1.out.trans (hb.mono HB1.out.size))
    clear hb
    have R := hid (NO.out HN.out _ HB2.out)
    go_wp2
    refine bodyPost_ret (results_tmp2 rfl _ _ _) rfl ?_
    exact R.out
   case pos =>
    have e0 : ((V.length : Int) == (M.length : Int)) = true := beq_iff_eq.2 (by omega)
    have e1 : decide ((V.length : Int) = (M.length : Int)) = true := decide_eq_true (by omega)
    have e9 : ((V.length : Int) != (M.length : Int)) = false := by rw [bne, e0]; rfl
    by_cases h0 : M.length = 0
    case pos =>
     have HN := hid (solK_no (M := M) (V := V) (fun h => h.2.1 h0))
     have e2 : ((M.length : Int) == 0) = true := beq_iff_eq.2 (by omega)
     clear hmo hok hl h0
     go_enter Tryz.func39, Tryz.ntmps39
     go_wp2_with fail
     (with_reducible refine (KM.out).mono ?_)
     rintro e w1 ⟨rfl, hb⟩
     have HB1 := hid hb
     clear hb
     go_wp2_with fail
     (with_reducible refine (KO.out _ HB1.out).mono ?_)
     rintro e w2 ⟨rfl, hb⟩
     have HB2 := hid (HB1.out.trans (hb.mono HB1.out.size))
     clear hb
     have R := hid (NO.out HN.out _ HB2.out)
     go_wp2
     refine bodyPost_ret (results_tmp2 rfl _ _ _) rfl ?_
     exact R.out
    case neg =>
     have e2 : ((M.length : Int) == 0) = false := beq_eq_false_iff_ne.2 (by omega)
     have a0 : (0 : Int) < M.length := by omega
     have hlc : M.length ≤ (colF V).length := by rw [colF_len, hl]; exact Nat.le_refl _
     have hJl : (joinF M (colF V)).length = M.length := joinF_len hlc
     have hv40 := oks_n hok
     have hSO : Sm2 (colF V) := ⟨fun K hK => by
      obtain ⟨f, hf, rfl⟩ := List.mem_map.1 hK
      exact ⟨fun g hg => by rw [List.mem_singleton.1 hg]; exact HSV.out.1 f hf, by simp⟩, by rw [colF_len]; exact HSV.out.2⟩
     have KB := hid (fun (U : World) (hb : Below w.heap.size w U) (x : Option Addr) (y z : Nat) (l h' : Nat) (hx : MW U x y (colF V) l h') => l09Beside_any (c := c) (d := z) HSM.out hSO hlc (fun K hK => by
      obtain ⟨f, hf, rfl⟩ := List.mem_map.1 hK
      simp) U (HV.out.old hb) hx)
     obtain ⟨W, hW⟩ : ∃ W, W = matW M := ⟨_, rfl⟩
     have HWE := hid hW
     obtain ⟨J, hJ⟩ : ∃ J, J = joinF M (colF V) := ⟨_, rfl⟩
     rw [← hJ] at KB hJl
     have HNO := hid (fun (h : ¬ matOk J = true) => show solK M V = none from solK_no fun e => h (by rw [hJ]; exact e.2.2))
     have HYES := hid (fun (hj : matOk J = true) => show matW J = W + 1 ∧ solK M V = (match redK (un J) (W + 1) with
       | none => none
       | some (S, ps) => if W ∈ ps then none else some (solJ W S ps ps.length)) from ⟨by rw [hJ, join_w hlc (Nat.pos_of_ne_zero h0), colF_w (by omega), hW], by
      have hj' := hj
      rw [hJ] at hj'
      unfold solK
      rw [if_pos ⟨⟨hok, hl⟩, h0, hj'⟩, ← hJ, ← hW]
      rfl⟩)
     have HSJ := hid (show Sm2 J by
      rw [hJ]
      exact Sm2_join hlc HSM.out hSO fun k hk => by
       have := HWW.out _ (List.getElem_mem hk)
       rw [colF_at]; simp; omega)
     have HLL := hid hl
     have HJL := hid hJl
     clear hmo hok hlc hSO hW hJ hl hJl
     go_enter Tryz.func39, Tryz.ntmps39
     go_wp2_with fail
     (with_reducible refine (KM.out).mono ?_)
     rintro e w1 ⟨rfl, hb⟩
     have HB1 := hid hb
     clear hb
     go_wp2_with fail
     (with_reducible refine (KO.out _ HB1.out).mono ?_)
     rintro e w2 ⟨rfl, hb⟩
     have HB2 := hid (HB1.out.trans (hb.mono HB1.out.size))
     clear hb
     obtain ⟨g0, o0, b0, d0, rfl, hg0, q0, -⟩ := (HV.out.old HB2.out).at (k := 0) (by omega)
     rw [Nat.add_zero, ← matW_at (by omega), ← HWE.out] at q0
     have J0 := hid (JR_lit0 (w := w2) (lo := w.heap.size) HB2.out.size)
     have HB3 := hid (HB2.out.alloc HB2.out.size (.cells #[] 42))
     go_wp2
     generalize w2.alloc (.cells #[] 42) = w3 at J0 HB3 ⊢
     go_loopw [7, 44] (fun v i wr => ∃ (k : Nat) (a' : Option Addr) (c' : Nat), k ≤ V.length ∧ i = .int .i64 k ∧ v = .slice a' k c' ∧ Hid (JR wr (.slice a' k c') ((colF V).take k) w.heap.size) ∧ Hid (Below w.heap.size w wr)) (fun _ i _ => V.length - (intOf i).toNat)
     case atStart => exact ⟨0, _, _, Nat.zero_le _, rfl, rfl, hid (by simpa using J0.out), HB3⟩
     case round =>
      obtain ⟨k, a', c', hk, rfl, rfl, hJJ, hB⟩ := hrel
      by_cases hlt : k < V.length
      ·obtain ⟨g1, o1, x1, y1, rfl, hg1, q1, q2, q3, r⟩ := (HW.out.old hB.out).cell hlt
       obtain ⟨⟨s, A, D⟩, hf⟩ : ∃ f, V[k]'hlt = f := ⟨_, rfl⟩
       have HS := hid (colF_snoc hlt hf)
       simp only [hf] at q1 r
       obtain ⟨a3, c3, b3, d3, rfl, rfl⟩ := r.form
       have a1' : (0 : Int) ≤ k := by omega
       have a2' : (k : Int) < V.length := by omega
       have hz := hB.out.size
       have hTl := hid (show ((colF V).take k).length = k by rw [List.length_take, colF_len]; omega)
       obtain ⟨ob, hob⟩ : ∃ ob, ob = (Go.Obj.cells #[.bool s, .slice a3 A.length c3, .slice b3 D.length d3] 62) := ⟨_, rfl⟩
       have HBo := hid (show Below wr.heap.size wr (wr.alloc ob) from below_new')
       have HSo := hid (show (wr.alloc ob).heap.size = wr.heap.size + 1 by simp)
       have VL := hid (show VK false ((wr.alloc ob).alloc ob) (.slice (some ⟨(wr.alloc ob).heap.size, 0, none⟩) 1 1) [⟨s, A, D⟩] 0 ((wr.alloc ob).alloc ob).heap.size by rw [hob]; exact VK_lit1 (r.old below_new'))
       rw [HSo.out] at VL
       have HBp := hid (HBo.out.trans (show Below wr.heap.size (wr.alloc ob) ((wr.alloc ob).alloc ob) from (below_new' (w := wr.alloc ob)).mono (by simp)))
       have HB5 := hid (hB.out.trans (HBp.out.mono hz))
       have HJ5 := hid (hJJ.out.old HBp.out)
       have PJ := hid (HJ5.out.old (below_new' (o := .cells #[.slice (some ⟨wr.heap.size + 1, 0, none⟩) 1 1] 42)))
       have PV := hid (VL.out.old (below_new' (o := .cells #[.slice (some ⟨wr.heap.size + 1, 0, none⟩) 1 1] 42)))
       have PB := hid (heap_alloc_new ((wr.alloc ob).alloc ob) (.cells #[.slice (some ⟨wr.heap.size + 1, 0, none⟩) 1 1] 42))
       rw [show ((wr.alloc ob).alloc ob).heap.size = wr.heap.size + 1 + 1 by simp] at PB
       have HB6 := hid (HB5.out.alloc HB5.out.size (.cells #[.slice (some ⟨wr.heap.size + 1, 0, none⟩) 1 1] 42))
       obtain ⟨xs, j1, j2, j3⟩ := PJ.out
       have J1 := hid j1
       have J2 := hid j2
       have J3 := hid j3
       rw [hTl.out] at J1
       rw [hob] at PB J1 J3 PV HB6
       clear j1 j2 j3 r hf
       go_wp2_with (at_builtin; refine wpList_pushH rfl _ _ rfl rfl J1.out rfl PB.out rfl (by omega) (by simp; omega) (m := k + 1) rfl ?_)
       intro gp cp wp hvp hbp hgp
       have HJ7 := hid (show JR wp (.slice (some ⟨gp, 0, none⟩) (k + 1) cp) ((colF V).take (k + 1)) w.heap.size by
        rw [← HS.out]
        exact JR.snoc J3.out J1.out PV.out J2.out hgp (by rw [hTl.out]) hvp)
       have HB7 := hid (HB6.out.trans hbp)
       clear hvp hbp hgp q1 q2 q3
       go_wp2
       go_roundw
       case rel => exact ⟨k + 1, some ⟨gp, 0, none⟩, cp, by omega, by go_num, rfl, HJ7, HB7⟩
       case measure => simp [intOf]; omega
      ·obtain rfl : k = V.length := by omega
       have hcol := hid (show MW wr a' V.length (colF V) 0 wr.heap.size by
        have := hJJ.out.mw
        rwa [← colF_len, List.take_length, colF_len] at this)
       have KBB := hid (KB.out _ hB.out _ _ c' _ _ hcol.out)
       clear hlt
       go_wp2_with fail
       (with_reducible refine (KBB.out).mono ?_)
       rintro e w4 ⟨aj, nj, cj, rfl, hmj, hb⟩
       have HMJ := hid hmj
       have HB4 := hid (hB.out.trans (hb.mono hB.out.size))
       obtain rfl := hmj.num
       clear hmj hb
       have KJO := hid (spec_MatOk_w (c := cj) HSJ.out w4 HMJ.out)
       cases hjo : matOk J with
       |false =>
        rw [hjo] at KJO
        have HN := hid (HNO.out (by rw [hjo]; decide))
        clear hjo
        go_wp2_with fail
        (with_reducible refine (KJO.out).mono ?_)
        rintro e w5 ⟨rfl, hb⟩
        have R := hid (NO.out HN.out _ (HB4.out.trans (hb.mono HB4.out.size)))
        clear hb
        go_wp2
        refine bodyPost_ret (results_tmp2 rfl _ _ _) rfl ?_
        exact R.out
       |true =>
        rw [hjo] at KJO
        obtain ⟨hwj, hsol⟩ := HYES.out hjo
        obtain ⟨u1, u2⟩ := un_rv hjo
        have hn40 := matOk_n hjo
        have hw40 := matOk_w hjo
        have hul := un_len J
        have hjl := HJL.out
        have KR := hid (fun (U : World) (hb : Below w4.heap.size w4 U) => l09Reduce_any (c := cj) (C := W + 1) u2 (by omega) hw40 (by omega) (by omega) U (show MW U aj J.length ((un J).map rv) 0 w4.heap.size by rw [← u1]; exact HMJ.out.old hb))
        rw [show ((W + 1 : Nat) : Int) = (W : Int) + 1 by omega] at KR
        rw [hwj] at u2 hw40
        have HU2 := hid u2
        have HSOL := hid hsol
        have HUL := hid (show (un J).length = M.length by rw [hul, HJL.out])
        clear hjo hsol u1 u2 hwj hul hjl
        go_wp2_with fail
        (with_reducible refine (KJO.out).mono ?_)
        rintro e w5 ⟨rfl, hb⟩
        have KR5 := hid (KR.out _ hb)
        have HB5 := hid (HB4.out.trans (hb.mono HB4.out.size))
        clear hb
        cases er : redK (un J) (W + 1) with
        |none =>
         rw [er] at KR5
         have HN := hid (show solK M V = none by rw [HSOL.out, er])
         clear er
         go_wp2_with fail
         (with_reducible refine (KR5.out).mono ?_)
         rintro e w6 ⟨rfl, hb⟩
         have R := hid (NO.out HN.out _ (HB5.out.trans (hb.mono HB5.out.size)))
         clear hb
         go_wp2
         refine bodyPost_ret (results_tmp2 rfl _ _ _) rfl ?_
         exact R.out
        |some q =>
         obtain ⟨S, ps⟩ := q
         rw [er] at KR5
         obtain ⟨i1, i2, i3, i4, i5⟩ := redK_inv HU2.out er
         have hE := redK_ech HU2.out (Nat.le_refl _) er
         have HINC := hid hE.inc
         have HI5 := hid i5
         have HRW := hid i1
         have hsl : S.length = M.length := by rw [i2, HUL.out]
         have HSOL2 := hid (show solK M V = if W ∈ ps then none else some (solJ W S ps ps.length) by rw [HSOL.out, er])
         rw [HUL.out, ← hsl] at KR5
         clear er i1 i2 i5 hE
         go_wp2_with fail
         (with_reducible refine (KR5.out).mono ?_)
         rintro e w6 ⟨a6, c6, pv, rfl, hmw, hp, hb, -⟩
         obtain ⟨a7, c7, rfl⟩ := natI_form hp
         have HMW := hid hmw
         have HPV := hid hp
         have HP := hid (Ints_nz hp).2
         have HB6 := hid (HB5.out.trans (hb.mono HB5.out.size))
         clear hmw hp hb
         have hin : (W ∈ ps ∧ ∃ h : 0 < ps.length, ps[ps.length - 1] = W) ∨ (¬ W ∈ ps ∧ (ps.length = 0 ∨ ∃ h : 0 < ps.length, ps[ps.length - 1] ≠ W)) := by
          by_cases hp0 : 0 < ps.length
          ·have := last_in HINC.out HI5.out hp0
           by_cases hm : W ∈ ps
           ·exact .inl ⟨hm, hp0, this.1 hm⟩
           ·exact .inr ⟨hm, .inr ⟨hp0, fun e => hm (this.2 e)⟩⟩
          ·have : ps = [] := List.eq_nil_of_length_eq_zero (by omega)
           subst this
           exact .inr ⟨by simp, .inl rfl⟩
         rcases hin with ⟨hin, hp0, hlast⟩ | ⟨hnin, hlast⟩
         ·obtain ⟨g5, o5, rfl, hc⟩ := HP.out (ps.length - 1) (by omega)
          rw [hlast] at hc
          have HN := hid (show solK M V = none by rw [HSOL2.out, if_pos hin])
          have b1 : (0 : Int) < ps.length := by omega
          have b2 : ((ps.length - 1 : Nat) : Int) = (ps.length : Int) - 1 := by omega
          have b3 : (0 : Int) ≤ (ps.length : Int) - 1 := by omega
          have b4 : (ps.length : Int) - 1 < ps.length := by omega
          have R := hid (NO.out HN.out _ HB6.out)
          clear hin hlast
          trace_state
          go_wp2
          refine bodyPost_ret (results_tmp2 rfl _ _ _) rfl ?_
          exact R.out
         ·have HYS := hid (show solK M V = some (solJ W S ps ps.length) by rw [HSOL2.out, if_neg hnin])
          have HPW := hid (show ∀ p ∈ ps, p < W from fun p hp => by
           have := HI5.out p hp
           have : p ≠ W := fun e => hnin (by rw [← e]; exact hp)
           omega)
          have KZ := hid (fun U => spec_VecZero (W : Int) (by omega) (by omega) U)
          rw [solJ_zero W S ps (by omega)] at KZ
          clear hnin
          rcases hlast with hlast | ⟨hp0, hlast⟩
          ·skip
           have hps : ps = [] := List.eq_nil_of_length_eq_zero hlast
           subst hps
           clear hlast
           simp only [List.length_nil] at KZ HYS ⊢
           go_wp2_with fail
           (with_reducible refine (KZ.out _).mono ?_)
           rintro e w7 ⟨av, nv, cv, rfl, hv, hb⟩
           obtain rfl : nv = W := by have := hv.num; rw [rv_len, solJ_len] at this; exact this
           have R := hid (show SolR false RS RB w (.returned (.tuple #[.slice av nv cv, .bool true])) w7 by
            rw [HRS.out, HRB.out, (sol_some HYS.out).1, (sol_some HYS.out).2]
            exact ⟨_, _, _, rfl, hv.wide HB6.out.size (Nat.le_refl _), HB6.out.trans (hb.mono HB6.out.size)⟩)
           clear hv hb
           go_wp2
           go_loopw [89] (fun i wr => i = .int .i64 0 ∧ w7 = wr) (fun _ _ => 0)
           case atStart => exact ⟨rfl, rfl⟩
           case round =>
            obtain ⟨rfl, rfl⟩ := hrel
            go_wp2
            refine bodyPost_ret (results_tmp2 rfl _ _ _) rfl ?_
            exact R.out
          ·obtain ⟨g5, o5, ea7, hc⟩ := HP.out (ps.length - 1) (by omega)
           have b1 : (0 : Int) < ps.length := by omega
           have b2 : ((ps.length - 1 : Nat) : Int) = (ps.length : Int) - 1 := by omega
           have b3 : (0 : Int) ≤ (ps.length : Int) - 1 := by omega
           have b4 : (ps.length : Int) - 1 < ps.length := by omega
           have b5 : ((ps[ps.length - 1] : Int) == (W : Int)) = false := beq_eq_false_iff_ne.2 (by omega)
           have b6 : ¬ (ps[ps.length - 1] : Int) = (W : Int) := by omega
           subst ea7
           generalize ps[ps.length - 1] = pl at hc b5 b6
           clear hlast
           go_wp2_with fail
           (with_reducible refine (KZ.out _).mono ?_)
           rintro e w7 ⟨av, nv, cv, rfl, hv, hb⟩
           clear b1
           obtain rfl : nv = W := by have := hv.num; rw [rv_len, solJ_len] at this; exact this
           have HV0 := hid hv
           have HB0 := hid hb
           clear hv hb
           go_wp2
           go_loopw [89] (fun i wr => ∃ j : Nat, j ≤ ps.length ∧ i = .int .i64 j ∧ Hid (VK false wr (.slice av nv cv) (rv (solJ nv S ps j)) w6.heap.size wr.heap.size) ∧ Hid (Below w6.heap.size w6 wr)) (fun i _ => ps.length - (intOf i).toNat)
           case atStart => exact ⟨0, Nat.zero_le _, rfl, HV0, HB0⟩
           case round =>
            obtain ⟨j, hj, rfl, hVV, HBB⟩ := hrel
            by_cases hlt : j < ps.length
            ·have hjS : j < S.length := by omega
             obtain ⟨g5, o5, ea7, hc⟩ := (Ints_nz (Ints_old HPV.out HBB.out)).2 j hlt
             first | subst ea7 | (simp only [Option.some.injEq, Addr.mk.injEq, and_true] at ea7; obtain ⟨rfl, rfl⟩ := ea7)
             obtain ⟨p, hp⟩ : ∃ p, p = ps[j] := ⟨_, rfl⟩
             have hpW : p < nv := by rw [hp]; exact HPW.out _ (List.getElem_mem hlt)
             have HSET := hid (show (solJ nv S ps j).set p (el S[j] nv) = solJ nv S ps (j + 1) by
              rw [solJ, hp, List.getD_eq_getElem?_getD, List.getElem?_eq_getElem hlt, Option.getD_some, List.getD_eq_getElem?_getD, List.getElem?_eq_getElem hjS, Option.getD_some])
             rw [← hp] at hc
             obtain ⟨g7, o7, b7, d7, ea6, hg7, q5, hvw⟩ := (HMW.out.old HBB.out).at (k := j) (by rw [List.length_map]; exact hjS)
             subst ea6
             rw [List.getElem_map, rv_len, (HRW.out.at hjS).1] at q5 hvw
             obtain ⟨g8, o8, s8, a8, n8, c8, e8, m8, d8, rfl, hg8, p0, p1, p2, R⟩ := hvw.elx (HRW.out.at hjS).2 (by rw [(HRW.out.at hjS).1]; omega) (k := nv) (by rw [(HRW.out.at hjS).1]; omega)
             have KN := hid (l04Copy_o R)
             have hjv : p < (rv (solJ nv S ps j)).length := by rw [rv_len, solJ_len]; exact hpW
             have hSMv := hid (Sm_rv (solJ_af (W := nv) HRW.out ps j) (by rw [solJ_len]; omega))
             obtain ⟨gv, -, -, -, -, -, -, eav, -⟩ := hVV.out.at hSMv.out hjv
             subst eav
             have b9 : (0 : Int) ≤ j := by omega
             have b10 : (j : Int) < ps.length := by omega
             have b11 : (0 : Int) ≤ p := by omega
             have b12 : (p : Int) < nv := by omega
             have b13 : (j : Int) < S.length := by omega
             have b14 : (0 : Int) ≤ nv := by omega
             have b15 : (nv : Int) < ((nv + 1 : Nat) : Int) := by omega
             clear hvw R hp
             go_wp2_with fail
             (with_reducible refine (KN.out).mono ?_)
             rintro e w8 ⟨s5, a5, n5, c5, b5, m5, d5, rfl, hro, hb⟩
             have VE := hid (hVV.out.old hb)
             have HRO := hid hro
             have HBE := hid (HBB.out.trans (hb.mono HBB.out.size))
             have hbz := hid hb.size
             have f0 := VE.out.free (p * 3)
             have f1 := VE.out.free (p * 3 + 1)
             have f2 := VE.out.free (p * 3 + 2)
             have hcs := VE.out.at hSMv.out hjv
             obtain ⟨gw, x31, x32, x33, x34, x35, x36, eg, -, p0, p1, p2, -⟩ := hcs
             have egv : gv = gw := by simpa using eg
             subst egv
             clear hro hb eg
             have hz5 := hbz.out
             have hz6 := HBB.out.size
             have HPP := hid (VE.out.put hjv HRO.out (Nat.le_refl _) (by omega) hz5)
             have hg := hid (show w6.heap.size ≤ gv by obtain ⟨E, hE, -⟩ := VE.out; exact (hE.lt gv rfl).1)
             have HBN := hid (((HBE.out.setCell (p := ⟨gv, p * 3, none⟩) hg.out (.bool s5)).setCell (p := ⟨gv, p * 3 + 1, none⟩) hg.out (.slice a5 n5 c5)).setCell (p := ⟨gv, p * 3 + 2, none⟩) hg.out (.slice b5 m5 d5))
             go_wp2
             go_roundw
             case rel => exact ⟨j + 1, by omega, by go_num, hid (by
              have := HPP.out
              rw [← rv_set', HSET.out] at this
              simpa [size_set] using this), HBN⟩
             case measure => simp [intOf]; omega
            ·obtain rfl : j = ps.length := by omega
             have R := hid (show SolR false RS RB w (.returned (.tuple #[.slice av nv cv, .bool true])) wr by
              rw [HRS.out, HRB.out, (sol_some HYS.out).1, (sol_some HYS.out).2]
              exact ⟨_, _, _, rfl, hVV.out.wide HB6.out.size (Nat.le_refl _), HB6.out.trans (HBB.out.mono HB6.out.size)⟩)
             go_wp2
             refine bodyPost_ret (results_tmp2 rfl _ _ _) rfl ?_
             exact R.out
end Go.Proofs.YtjjainnafihkdaaGreat
