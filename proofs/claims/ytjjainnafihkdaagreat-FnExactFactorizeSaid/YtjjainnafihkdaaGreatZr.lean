import Derived.Test.YtjjainnafihkdaaGreatZq
import Derived.Test.YtjjainnafihkdaaGreatZk
import Derived.Test.YtjjainnafihkdaaGreatYh
import Derived.Test.YtjjainnafihkdaaGreatXt
import Derived.IntWalk
set_option maxRecDepth 100000
set_option maxHeartbeats 25600000
set_option linter.unusedVariables false
set_option linter.unusedSimpArgs false
namespace Go.Proofs.YtjjainnafihkdaaGreat
open Go.RowKit
open Go.Lib (hid)
theorem VW.drop {w : World} {g o n : Nat} {K : List Fq} {lo hi m : Nat} (h : VW w (some ⟨g, o, none⟩) n K lo hi) (hm : m ≤ K.length) : VW w (some ⟨g, o + m * 3, none⟩) (n - m) (K.drop m) lo hi := by
 refine ⟨by rw [h.1, List.length_drop], fun h0 => ?_⟩
 rw [List.length_drop] at h0
 obtain ⟨g', o', e, h1, h2, h3, hc⟩ := h.2 (by omega)
 simp only [Option.some.injEq, Addr.mk.injEq, and_true] at e
 obtain ⟨rfl, rfl⟩ := e
 refine ⟨g, _, rfl, h1, h2, h3, fun i hi' => ?_⟩
 rw [List.length_drop] at hi'
 have := hc (m + i) (by omega)
 rw [List.getElem_drop, show o + m * 3 + i * 3 = o + (m + i) * 3 by omega]
 exact this
theorem take_at2 {S : List (List Rat)} {n k : Nat} (h : k < S.length) : ((S.take k).map fun X => rv (X.drop n)) ++ [rv (S[k].drop n)] = (S.take (k + 1)).map fun X => rv (X.drop n) := by
 rw [List.take_succ_eq_append_getElem h, List.map_append]; rfl
theorem spec_Inverse {a : Option Addr} {n c : Nat} {M : List (List Fq)} {lo hi : Nat} (hM : Sm2 M) (w : World) (h : MW w a n M lo hi) :
  Calls Tryz.prog 41 #[.slice a n c] w (InvS (invF M) (invB M) w) := by
 have HV := hid h
 have KM := hid (spec_MatOk_w (c := c) hM w h)
 obtain rfl := h.num
 have hkl := hM.2
 obtain ⟨RS, hRS⟩ : ∃ RS, RS = invF M := ⟨_, rfl⟩
 obtain ⟨RB, hRB⟩ : ∃ RB, RB = invB M := ⟨_, rfl⟩
 rw [← hRS, ← hRB]
 have HRS := hid hRS
 have HRB := hid hRB
 have NO := hid (fun (e : invM M = none) (w' : World) (hb : Below w.heap.size w w') => show InvS RS RB w (.returned (.tuple #[.slice none 0 0, .bool false])) w' from InvS_no (by rw [HRS.out]; exact (inv_none e).1) (by rw [HRB.out]; exact (inv_none e).2) hb)
 have HSM := hid hM
 clear h hRS hRB hM
 cases hmo : matOk M with
 |false =>
  rw [hmo] at KM
  have HN := hid (invM_no (M := M) (fun h => by rw [hmo] at h; exact absurd h.1.1 (by decide)))
  clear hmo
  go_enter Tryz.func41, Tryz.ntmps41
  go_wp2_with fail
  (with_reducible refine (KM.out).mono ?_)
  rintro e w1 ⟨rfl, hb⟩
  have HB1 := hid hb
  clear hb
  have R := hid (NO.out HN.out _ HB1.out)
  go_wp2
  refine bodyPost_ret (results_tmp2 rfl _ _ _) rfl ?_
  exact R.out
 |true =>
  rw [hmo] at KM
  by_cases h0 : M.length = 0
  case pos =>
   have e0 : ((M.length : Int) == 0) = true := by simp [h0]
   have HN := hid (invM_no (M := M) (fun h => h.1.2 h0))
   clear hmo h0
   go_enter Tryz.func41, Tryz.ntmps41
   go_wp2_with fail
   (with_reducible refine (KM.out).mono ?_)
   rintro e w1 ⟨rfl, hb⟩
   have HB1 := hid hb
   clear hb
   have R := hid (NO.out HN.out _ HB1.out)
   go_wp2
   refine bodyPost_ret (results_tmp2 rfl _ _ _) rfl ?_
   exact R.out
  case neg =>
   have e0 : ((M.length : Int) == 0) = false := beq_eq_false_iff_ne.2 (by omega)
   have a0 : (0 : Int) < M.length := by omega
   have hn40 := matOk_n hmo
   by_cases hl : M.length = matW M
   case neg =>
    have HN := hid (invM_no (M := M) (fun h => hl h.2.1))
    have e1 : ((matW M : Int) == (M.length : Int)) = false := beq_eq_false_iff_ne.2 (by omega)
    have e2 : ¬ (matW M : Int) = (M.length : Int) := by omega
    clear hmo hl
    go_enter Tryz.func41, Tryz.ntmps41
    go_wp2_with fail
    (with_reducible refine (KM.out).mono ?_)
    rintro e w1 ⟨rfl, hb⟩
    have HB1 := hid hb
    clear hb
    obtain ⟨g0, o0, b0, d0, rfl, hg0, q0, -⟩ := (HV.out.old HB1.out).at (k := 0) (by omega)
    rw [Nat.add_zero, ← matW_at (by omega)] at q0
    generalize matW M = W at q0 e1 e2
    have R := hid (NO.out HN.out _ HB1.out)
    go_wp2
    refine bodyPost_ret (results_tmp2 rfl _ _ _) rfl ?_
    exact R.out
   case pos =>
    obtain ⟨N2, hN2⟩ : ∃ N2, N2 = M.length + M.length := ⟨_, rfl⟩
    have hm2 : IntKind.i64.wrap (2 * (M.length : Int)) = (N2 : Int) := by
     have : (2 : Int) * (M.length : Int) = (N2 : Int) := by omega
     rw [this]; exact IntWalk.i64_in _ (by omega)
    obtain ⟨hbig, hsml⟩ := inv_join hmo h0 hl
    have HHL := hid hl
    by_cases h40 : 40 < N2
    case pos =>
     have HN := hid (invM_no (M := M) (fun h => by omega))
     have e3 : (40 : Int) < (N2 : Int) := by omega
     clear hmo hl hbig hsml hN2 h40
     go_enter Tryz.func41, Tryz.ntmps41
     go_wp2_with fail
     (with_reducible refine (KM.out).mono ?_)
     rintro e w1 ⟨rfl, hb⟩
     have HB1 := hid hb
     clear hb
     obtain ⟨g0, o0, b0, d0, rfl, hg0, q0, -⟩ := (HV.out.old HB1.out).at (k := 0) (by omega)
     rw [Nat.add_zero, ← matW_at (by omega)] at q0
     rw [← HHL.out] at q0
     have R := hid (NO.out HN.out _ HB1.out)
     go_wp2
     refine bodyPost_ret (results_tmp2 rfl _ _ _) rfl ?_
     exact R.out
    case neg =>
     have e3 : ¬ (40 : Int) < (N2 : Int) := by omega
     obtain ⟨hj1, hj2, hj3, hR, hI, hinv⟩ := hsml (by omega)
     have hII : M.length ≤ (matI (M.length : Int)).length := by rw [matI_len hn40]; exact Nat.le_refl _
     have KI := hid (fun U => spec_MatIdentity (M.length : Int) (by omega) (by omega) U)
     have HSI := hid (matI_sm hn40)
     have KB := hid (fun (U : World) (hb : Below w.heap.size w U) (x : Option Addr) (y z : Nat) (l h' : Nat) (hx : MW U x y (matI (M.length : Int)) l h') => l09Beside_any (c := c) (d := z) HSM.out HSI.out hII (fun K hK => by
      obtain ⟨k, hk, rfl⟩ := List.getElem_of_mem hK
      rw [(matI_row hn40 k hk).1]; omega) U (HV.out.old hb) hx)
     obtain ⟨J, hJ⟩ : ∃ J, J = joinF M (matI (M.length : Int)) := ⟨_, rfl⟩
     have hJl : J.length = M.length := by rw [hJ]; exact joinF_len hII
     rw [← hJ] at hj1 hj2 hj3 KB
     obtain ⟨u1, u2⟩ := un_rv hj1
     have hun := un_len J
     rw [hj2, ← hN2] at u2
     have HU2 := hid u2
     have KR := hid (fun (U : World) (x : Option Addr) (y z : Nat) (l h' : Nat) (hx : MW U x y J l h') => l09Reduce_any (c := z) (C := M.length) u2 (by omega) (by omega) (by omega) (by omega) U (show MW U x y ((un J).map rv) l h' by rw [← u1]; exact hx))
     have HUN := hid (show (un J).length = M.length by omega)
     have HINV := hid (show invM M = (match redK (un J) M.length with
       | none => none
       | some (S, ps) => if ps.length = M.length then some (S.map fun X => X.drop M.length) else none) by rw [hinv]; unfold invK; rw [← hj3]; rfl)
     have HN2 := hid hN2
     clear hmo hl hbig hsml hN2 h40 hj1 hj2 hj3 hR hI hinv hII hJ u1 u2 hun
     go_enter Tryz.func41, Tryz.ntmps41
     go_wp2_with fail
     (with_reducible refine (KM.out).mono ?_)
     rintro e w1 ⟨rfl, hb⟩
     have HB1 := hid hb
     clear hb
     obtain ⟨g0, o0, b0, d0, rfl, hg0, q0, -⟩ := (HV.out.old HB1.out).at (k := 0) (by omega)
     rw [Nat.add_zero, ← matW_at (by omega)] at q0
     rw [← HHL.out] at q0
     go_wp2_with fail
     (with_reducible refine (KI.out _).mono ?_)
     rintro e w2 ⟨a2, n2, c2, rfl, hm, hb⟩
     have HB2 := hid (HB1.out.trans (hb.mono HB1.out.size))
     have KB2 := hid (KB.out _ HB2.out _ _ c2 _ _ hm)
     clear hm hb q0
     go_wp2_with fail
     (with_reducible refine (KB2.out).mono ?_)
     rintro e w3 ⟨a3, n3, c3, rfl, hm, hb⟩
     have HB3 := hid (HB2.out.trans (hb.mono HB2.out.size))
     have KR3 := hid (KR.out _ _ _ c3 _ _ hm)
     clear hm hb
     cases er : redK (un J) M.length with
     |none =>
      rw [er] at KR3
      have HN := hid (show invM M = none by rw [HINV.out, er])
      clear er
      go_wp2_with fail
      (with_reducible refine (KR3.out).mono ?_)
      rintro e w4 ⟨rfl, hb⟩
      have R := hid (NO.out HN.out _ (HB3.out.trans (hb.mono HB3.out.size)))
      clear hb
      go_wp2
      refine bodyPost_ret (results_tmp2 rfl _ _ _) rfl ?_
      exact R.out
     |some q =>
      obtain ⟨S, ps⟩ := q
      rw [er] at KR3
      obtain ⟨i1, i2, i3, i4, i5⟩ := redK_inv HU2.out er
      have HRW := hid i1
      have hsl : S.length = M.length := by rw [i2, HUN.out]
      have HINV2 := hid (show invM M = if ps.length = M.length then some (S.map fun X => X.drop M.length) else none by rw [HINV.out, er])
      clear er i1 i2 i5
      rw [HUN.out] at KR3
      go_wp2_with fail
      (with_reducible refine (KR3.out).mono ?_)
      rintro e w4 ⟨a4, c4, pv, rfl, hmw, hp, hb, hcap⟩
      obtain ⟨a7, c7, rfl⟩ := natI_form hp
      have HMW := hid hmw
      have HCP := hid hcap
      have HB4 := hid (HB3.out.trans (hb.mono HB3.out.size))
      clear hmw hp hb hcap
      by_cases hpl : ps.length = M.length
      case neg =>
       have HN := hid (show invM M = none by rw [HINV2.out, if_neg hpl])
       have e4 : ((ps.length : Int) == (M.length : Int)) = false := beq_eq_false_iff_ne.2 (by omega)
       have e5 : ¬ (ps.length : Int) = (M.length : Int) := by omega
       have R := hid (NO.out HN.out _ HB4.out)
       clear hpl
       go_wp2
       refine bodyPost_ret (results_tmp2 rfl _ _ _) rfl ?_
       exact R.out
      case pos =>
       have HYS := hid (show invM M = some (S.map fun X => X.drop M.length) by rw [HINV2.out, if_pos hpl])
       have e4 : ((ps.length : Int) == (M.length : Int)) = true := beq_iff_eq.2 (by omega)
       have e5 : (ps.length : Int) = (M.length : Int) := by omega
       have V0 := hid (MR_lit0 false (w := w4) (lo := w4.heap.size) (Nat.le_refl _))
       have S0 := hid (show (w4.alloc (.cells #[] 42)).heap.size = w4.heap.size + 1 by simp)
       have B0 := hid (show Below w4.heap.size w4 (w4.alloc (.cells #[] 42)) from below_new')
       clear hpl
       go_wp2
       generalize w4.alloc (.cells #[] 42) = w5 at V0 S0 B0 ⊢
       go_loopw [8, 54] (fun v i wr => ∃ (k : Nat) (a' : Option Addr) (c' : Nat) (R : List Rw), k ≤ S.length ∧ i = .int .i64 k ∧ v = .slice a' k c' ∧ Hid (R.map Rw.K = (S.take k).map fun X => rv (X.drop M.length)) ∧ Hid (MR false wr (.slice a' k c') R w4.heap.size wr.heap.size) ∧ Hid (Below w4.heap.size w4 wr)) (fun _ i _ => S.length - (intOf i).toNat)
       case atStart => exact ⟨0, some ⟨w4.heap.size, 0, none⟩, 0, [], Nat.zero_le _, rfl, rfl, hid rfl, hid (V0.out.wide (Nat.le_refl _) (by rw [S0.out]; exact Nat.le_refl _)), B0⟩
       case round =>
        obtain ⟨k, a', c', R, hk, rfl, rfl, hK, hR, hB⟩ := hrel
        have HBW := hid (HB4.out.trans (hB.out.mono HB4.out.size))
        have hz := HBW.out.size
        by_cases hlt : k < S.length
        ·obtain ⟨g7, o7, b7, d7, ea4, hg7, q5, hvw⟩ := HMW.out.at (k := k) (by rw [List.length_map]; exact hlt)
         subst ea4
         rw [List.getElem_map, rv_len, (HRW.out.at hlt).1] at q5 hvw
         have hcap := HCP.out g7 o7 rfl k (by omega) _ _ _ q5
         have q5 := (hB.out.cell (p := ⟨g7, o7 + k, none⟩) hg7).trans q5
         have hkl2 : (rv S[k]).length = N2 := by rw [rv_len, (HRW.out.at hlt).1]
         obtain ⟨g8, o8, rfl, -, -, hg8, -⟩ := hvw.2 (by have := HN2.out; omega)
         have hvd := (hvw.drop (m := M.length) (by have := HN2.out; omega)).old hB.out
         rw [show (rv S[k]).drop M.length = rv (S[k].drop M.length) by rw [rv, rv, List.map_drop]] at hvd
         have hd1 : N2 - M.length = M.length := by have := HN2.out; omega
         rw [hd1] at hvd
         have hSD : Sm (rv (S[k].drop M.length)) := Sm_rv (fun x hx => (HRW.out.at hlt).2 x (List.mem_of_mem_drop hx)) (by rw [List.length_drop, (HRW.out.at hlt).1]; have := HN2.out; omega)
         have KC := hid (l06Copy_any (c := d7 - M.length) hSD wr hvd)
         have HT := hid (take_at2 (n := M.length) hlt)
         have HRl := hid (show R.length = k by have := congrArg List.length hK.out; rw [List.length_map, List.length_map, List.length_take] at this; omega)
         have a1' : (0 : Int) ≤ k := by omega
         have a2' : (k : Int) < S.length := by omega
         have a3' : (k : Int) < M.length := by omega
         have a4' : (0 : Int) ≤ M.length := by omega
         have a5' : (M.length : Int) ≤ N2 := by have := HN2.out; omega
         have a6' : ¬ d7 = M.length := by have := HN2.out; omega
         have a7' : (N2 : Int) ≤ d7 := by omega
         generalize rv (S[k].drop M.length) = KD at KC HT
         clear hvw hvd hSD hkl2
         go_wp2_with fail
         (with_reducible refine (KC.out).mono ?_)
         rintro e w6 ⟨a5, n5, c5, rfl, hv, hb⟩
         have hz2 := hb.size
         have HB5 := hid (HBW.out.trans (hb.mono hz))
         have HB6 := hid (HB5.out.alloc HB5.out.size (.cells #[.slice a5 n5 c5] 42))
         have HB7 := hid ((hB.out.trans (hb.mono hB.out.size)).alloc (Nat.le_trans hB.out.size hb.size) (.cells #[.slice a5 n5 c5] 42))
         have PM := hid ((hR.out.old hb).old (below_new' (o := .cells #[.slice a5 n5 c5] 42)))
         have PV := hid (hv.old (below_new' (o := .cells #[.slice a5 n5 c5] 42)))
         have PB := hid (heap_alloc_new w6 (.cells #[.slice a5 n5 c5] 42))
         clear hv hb q5
         have hz4 := hB.out.size
         go_wp2_with (at_builtin; refine wpList_pushM rfl _ _ rfl rfl PM.out PV.out (Nat.le_refl _) hz2 (by simp) hz4 rfl PB.out (by rw [HRl.out]; omega) (by simp; omega) (n := k + 1) (by rw [HRl.out]) ?_)
         intro gp cp wp hvp hbp
         have HB8 := hid (HB7.out.trans hbp)
         have HV8 := hid hvp
         clear hvp hbp
         go_wp2
         go_roundw
         case rel => exact ⟨k + 1, some ⟨gp, 0, none⟩, cp, R ++ [⟨.slice a5 n5 c5, KD, wr.heap.size, w6.heap.size⟩], by omega, by go_num, rfl, hid (by rw [List.map_append, hK.out, ← HT.out]; rfl), HV8, HB8⟩
         case measure => simp [intOf]; omega
        ·obtain rfl : k = S.length := by omega
         have R0 := hid (show InvS RS RB w (.returned (.tuple #[.slice a' S.length c', .bool true])) wr by
          rw [HRS.out, HRB.out, (inv_some HYS.out).1, (inv_some HYS.out).2]
          have h1 := hR.out.mw
          rw [hK.out, List.take_length] at h1
          refine ⟨_, _, _, rfl, ?_, HBW.out⟩
          rw [List.map_map]
          exact MW.wide h1 HB4.out.size (Nat.le_refl _))
         go_wp2
         refine bodyPost_ret (results_tmp2 rfl _ _ _) rfl ?_
         exact R0.out
end Go.Proofs.YtjjainnafihkdaaGreat
