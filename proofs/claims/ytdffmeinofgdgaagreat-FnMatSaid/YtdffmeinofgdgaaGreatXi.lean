/- Products of matrices and vectors (the program). -/
import Derived.Test.YtdffmeinofgdgaaGreatXw
import Derived.Test.YtdffmeinofgdgaaGreatXo
import Derived.Test.YtdffmeinofgdgaaGreatVdt
import Derived.Deep.RegionHeld3
import Derived.Deep.DeepCutAuto
namespace Go.Proofs.YtdffmeinofgdgaaGreat
open Go.RowKit
open Go.Lib (hid)
set_option linter.unusedVariables false

set_option maxRecDepth 100000 in
set_option maxHeartbeats 6400000 in
theorem impl_MatVec {a b : Option Addr} {n c m d : Nat} {M : List (List Fq)} {V : List Fq} {lo hi lo' hi' : Nat} (hM : Sm2 M) (hV : Sm V) (w : World) (h : MW w a n M lo hi) (h' : VW w b m V lo' hi') :
    Calls Tryz.prog 14 #[.slice a n c, .slice b m d] w (VecR true (matV M V) w) := by
  have HV := hid h
  have HW := hid h'
  obtain rfl := h.num
  obtain rfl := h'.num
  clear h h'
  have hkl := hM.2
  have hvl := hV.2
  have KO := hid (impl_MatOk (c := c) hM w HV.out)
  obtain ⟨RS, hRS⟩ : ∃ RS, RS = matV M V := ⟨_, rfl⟩
  rw [← hRS]
  have HRS := hid hRS
  clear hRS
  cases hok : matOk M with
  | false =>
    rw [hok] at KO
    have HR0 := hid (show RS = [] by rw [HRS.out]; unfold matV; rw [hok, if_neg (by decide)])
    clear hok
    go_enter Tryz.func14, Tryz.ntmps14
    go_wp2_with fail
    (with_reducible refine (KO.out).mono ?_)
    rintro e w2 ⟨rfl, hb⟩
    have R := hid (show VecR true RS w (.returned (.slice none 0 0)) w2 by rw [HR0.out]; exact ⟨_, _, _, rfl, VK_nil _ _ _ _, hb⟩)
    clear hb
    go_wp2
    go_ret
    exact R.out
  | true =>
    rw [hok] at KO
    obtain ⟨os, hos⟩ : ∃ os, os = M.map fun K => dotO K V := ⟨_, rfl⟩
    have HFit := hid (show ∀ o ∈ os, fitO o by rw [hos]; exact dots_fit M V)
    have HOL := hid (show os.length = M.length by rw [hos, List.length_map])
    have HOA := hid (fun k (h : k < M.length) (h' : k < os.length) => show os[k] = dotO M[k] V by simp [hos])
    have HR1 := hid (show RS = vres os by rw [HRS.out]; unfold matV; rw [if_pos hok, hos])
    clear hok hos
    go_enter Tryz.func14, Tryz.ntmps14
    go_wp2_with fail
    (with_reducible refine (KO.out).mono ?_)
    rintro e w2 ⟨rfl, hb⟩
    have HB2 := hid hb
    clear hb
    go_wp2
    go_loopw [5, 13] (fun v i wr => ∃ (k : Nat) (a' : Option Addr) (c' : Nat), k ≤ M.length ∧ i = .int .i64 k ∧ v = .slice a' k c' ∧ Hid (VK true wr (.slice a' k c') ((os.take k).map fqo) w.heap.size wr.heap.size) ∧ Below w.heap.size w wr) (fun _ i _ => M.length - (intOf i).toNat)
    case atStart => exact ⟨0, none, 0, Nat.zero_le _, rfl, rfl, hid (VK_nil _ _ _ _), HB2.out⟩
    case round =>
      obtain ⟨k, a', c', hk, rfl, rfl, hA, hbel⟩ := hrel
      have HB := hid hbel
      have hz := hbel.size
      by_cases hlt : k < M.length
      · obtain ⟨g, o, b1, d1, rfl, hg, q0, X⟩ := (HV.out.old hbel).at hlt
        have hSK := hM.at hlt
        have hko : k < os.length := by rw [HOL.out]; exact hlt
        have hoo := HOA.out k hlt hko
        obtain ⟨K, hKK⟩ : ∃ K, M[k]'(hlt) = K := ⟨_, rfl⟩
        simp only [hKK] at q0 X hSK hoo
        have KF := hid (impl_VecDot_w (c := d1) (d := d) hSK hV wr X (HW.out.old hbel))
        generalize dotO K V = oo at KF hoo
        have HTM := hid (take_map hko hoo)
        have hln := hid (show ((os.take k).map fqo).length = k by rw [List.length_map, List.length_take, HOL.out]; omega)
        have a1' : (0 : Int) ≤ k := by omega
        have a2 : (k : Int) < M.length := by omega
        clear hbel hKK X hoo
        go_wp2_with fail
        (with_reducible refine (KF.out).mono ?_)
        rintro e w2 ⟨s4, a4, n4, c4, b4, m4, d4, rfl, hr, hb⟩
        have V2 := hid (hA.out.old hb)
        have R2 := hid hr
        have hz2 := hb.size
        have HB2 := hid ((HB.out.trans (hb.mono hz)).alloc (Nat.le_trans hz hz2) (.cells #[.bool s4, .slice a4 n4 c4, .slice b4 m4 d4] 65))
        clear hr hb q0
        have PV := hid (V2.out.old (below_new' (o := .cells #[.bool s4, .slice a4 n4 c4, .slice b4 m4 d4] 65)))
        have PR := hid (R2.out.old (below_new' (o := .cells #[.bool s4, .slice a4 n4 c4, .slice b4 m4 d4] 65)))
        have PB := hid (heap_alloc_new w2 (.cells #[.bool s4, .slice a4 n4 c4, .slice b4 m4 d4] 65))
        go_wp2_with (at_builtin; refine wpList_pushN rfl _ _ rfl rfl PV.out (Nat.le_refl _) hz PR.out rfl PB.out (by rw [hln.out]; omega) (by simp; omega) (n := k + 1) (by rw [hln.out]) ?_)
        intro gp cp wp hvp hbp
        rw [← List.map_take, HTM.out] at hvp
        have HB3 := hid (HB2.out.trans hbp)
        have HV3 := hid hvp
        clear hvp hbp
        go_wp2
        go_roundw
        case rel => exact ⟨k + 1, some ⟨gp, 0, none⟩, cp, by omega, by go_num, rfl, HV3, HB3.out⟩
        case measure => simp [intOf]; omega
      · obtain rfl : k = M.length := by omega
        have HA := hid (show VK true wr (.slice a' M.length c') (os.map fqo) w.heap.size wr.heap.size from by have h1 := hA.out; rwa [List.take_of_length_le (by rw [HOL.out]; exact Nat.le_refl _)] at h1)
        have hSM : Sm (os.map fqo) := Sm.map HFit.out (by rw [HOL.out]; exact hkl)
        have KV := hid (impl_VecOk hSM wr HA.out)
        rw [vals_map HFit.out] at KV
        clear hbel hA hSM
        cases hoks : oks os with
        | false =>
          rw [hoks] at KV
          have HR0 := hid (show RS = [] by rw [HR1.out]; unfold vres; rw [hoks, if_neg (by decide)])
          clear hoks
          go_wp2_with fail
          (with_reducible refine (KV.out).mono ?_)
          rintro e w3 ⟨rfl, hb⟩
          have R := hid (show VecR true RS w (.returned (.slice none 0 0)) w3 by rw [HR0.out]; exact ⟨_, _, _, rfl, VK_nil _ _ _ _, HB.out.trans (hb.mono hz)⟩)
          clear hb
          go_wp2
          go_ret
          exact R.out
        | true =>
          rw [hoks] at KV
          have HR0 := hid (show RS = os.map fqo by rw [HR1.out]; unfold vres; rw [if_pos hoks])
          clear hoks
          go_wp2_with fail
          (with_reducible refine (KV.out).mono ?_)
          rintro e w3 ⟨rfl, hb⟩
          have R := hid (show VecR true RS w (.returned (.slice a' M.length c')) w3 by rw [HR0.out]; exact ⟨_, _, _, rfl, (HA.out.old hb).wide (Nat.le_refl _) hb.size, HB.out.trans (hb.mono hz)⟩)
          clear hb
          go_wp2
          go_ret
          exact R.out
set_option maxRecDepth 100000 in
set_option maxHeartbeats 6400000 in
theorem sumOfRows_any {a b : Option Addr} {n c m d : Nat} {M : List (List Fq)} {V : List Fq} {lo hi lo' hi' : Nat} (hM : Sm2 M) (hV : Sm V) (hok : matOk M = true) (hl : V.length = M.length) (w : World) (h : VW w b m V lo' hi') (h' : MW w a n M lo hi) :
    Calls Tryz.prog 37 #[.slice b m d, .slice a n c] w (VecR true (vres (colS (matW M) M V M.length)) w) := by
  have HV := hid h
  have HW := hid h'
  obtain rfl := h.num
  obtain rfl := h'.num
  clear h h'
  have hkl := hM.2
  have hw40 := matOk_w hok
  have HRow := hid (fun k (hk : k < M.length) => (matOk_row hok hk).1)
  have KW := hid (impl_matWidth (c := c) hM w HW.out)
  obtain ⟨Wd, hWd⟩ : ∃ Wd, matW M = Wd := ⟨_, rfl⟩
  rw [hWd] at hw40 KW ⊢
  have HWd := hid hWd
  have HRowW := hid (show ∀ k (hk : k < M.length), M[k].length = Wd from fun k hk => by rw [HRow.out k hk, hWd])
  clear hWd hok
  have KZ := hid (fun W => impl_VecZero (Wd : Int) (by omega) (by omega) W)
  have HZ := hid (colS_zero Wd M V hw40)
  obtain ⟨S, hS⟩ : ∃ S : Nat → List (Option Rat), S = colS Wd M V := ⟨_, rfl⟩
  have HSt := hid (fun k (hk : k < M.length) => show vzip addF (vres (S k)) (vscale M[k] (elt V k).o) = vres (S (k + 1)) by rw [hS]; exact colS_step HRowW.out hw40 hk)
  have HSf := hid (show ∀ k, ∀ o ∈ S k, fitO o by rw [hS]; exact colS_fit Wd M V)
  rw [← hS] at HZ ⊢
  clear hS
  go_enter Tryz.func37, Tryz.ntmps37
  go_wp2_with fail
  (with_reducible refine (KW.out).mono ?_)
  rintro e w2 ⟨rfl, rfl⟩
  go_wp2_with fail
  (with_reducible refine (KZ.out _).mono ?_)
  rintro e w2 ⟨a5, n5, c5, rfl, hv, hb⟩
  have HV0 := hid (show VK true w2 (.slice a5 n5 c5) (vres (S 0)) w.heap.size w2.heap.size by rw [HZ.out]; exact hv)
  have HB0 := hid hb
  clear hv hb
  go_wp2
  go_loopw [5, 13] (fun v i wr => ∃ (k : Nat) (a' : Option Addr) (n' c' : Nat), k ≤ M.length ∧ i = .int .i64 k ∧ v = .slice a' n' c' ∧ Hid (VK true wr (.slice a' n' c') (vres (S k)) w.heap.size wr.heap.size) ∧ Below w.heap.size w wr) (fun _ i _ => M.length - (intOf i).toNat)
  case atStart => exact ⟨0, a5, n5, c5, Nat.zero_le _, rfl, rfl, HV0, HB0.out⟩
  case round =>
    obtain ⟨k, a', n', c', hk, rfl, rfl, hA, hbel⟩ := hrel
    have HB := hid hbel
    have hz := hbel.size
    by_cases hlt : k < M.length
    · obtain ⟨g, o, b1, d1, rfl, hg, q0, X⟩ := (HW.out.old hbel).at hlt
      have hSK := hM.at hlt
      have hkv : k < V.length := by omega
      have hst := HSt.out k hlt
      rw [elt_at hkv] at hst
      obtain ⟨K, hKK⟩ : ∃ K, M[k]'(hlt) = K := ⟨_, rfl⟩
      simp only [hKK] at q0 X hSK hst
      obtain ⟨g1, p1, a3, n3, c3, b3, m3, d3, rfl, hg1, q1, q2, q3, R1⟩ := (HV.out.old hbel).at hV hkv
      obtain ⟨⟨s1, A1, D1⟩, hf1⟩ : ∃ f, V[k]'(hkv) = f := ⟨_, rfl⟩
      simp only [hf1] at q1 R1 hst
      obtain ⟨o1, ho1⟩ : ∃ o, Fq.o ⟨s1, A1, D1⟩ = o := ⟨_, rfl⟩
      rw [ho1] at hst
      have HST := hid hst
      have KS := hid (impl_VecScale_w (c := d1) hSK wr X (show RA wr s1 (.slice a3 n3 c3) (.slice b3 m3 d3) o1 from ⟨A1, D1, R1, ho1⟩))
      have hkk := Sm.of (K := vres (S k)) (by have := vres_sz' (HSf.out k); omega)
      have hsc := Sm.of (K := vscale K o1) (by have := vres_sz' (smO_fit K o1); unfold vscale; omega)
      have a1' : (0 : Int) ≤ k := by omega
      have a2 : (k : Int) < M.length := by omega
      have a3' : (k : Int) < V.length := by omega
      clear hbel hKK X hst hf1 ho1 R1
      go_wp2_with fail
      (with_reducible refine (KS.out).mono ?_)
      rintro e w3 ⟨a6, n6, c6, rfl, hv6, hb6⟩
      have KA := hid (impl_VecAdd hkk hsc w3 (hA.out.old hb6) hv6)
      rw [HST.out] at KA
      have hz6 := hb6.size
      have HB6 := hid (HB.out.trans (hb6.mono hz))
      clear hv6 hb6 q0 q1 q2 q3
      go_wp2_with fail
      (with_reducible refine (KA.out).mono ?_)
      rintro e w4 ⟨a7, n7, c7, rfl, hv7, hb7⟩
      have HV7 := hid (hv7.wide (lo' := w.heap.size) (by omega) (Nat.le_refl _))
      have HB7 := hid (HB6.out.trans (hb7.mono (by omega)))
      clear hv7 hb7
      go_wp2
      go_roundw
      case rel => exact ⟨k + 1, a7, n7, c7, by omega, by go_num, rfl, HV7, HB7.out⟩
      case measure => simp [intOf]; omega
    · obtain rfl : k = M.length := by omega
      have R := hid (show VecR true (vres (S M.length)) w (.returned (.slice a' n' c')) wr from ⟨_, _, _, rfl, hA.out, HB.out⟩)
      clear hbel
      go_wp2
      go_ret
      exact R.out
set_option maxRecDepth 100000 in
set_option maxHeartbeats 6400000 in
theorem impl_VecMat {a b : Option Addr} {n c m d : Nat} {M : List (List Fq)} {V : List Fq} {lo hi lo' hi' : Nat} (hV : Sm V) (hM : Sm2 M) (w : World) (h : VW w b m V lo' hi') (h' : MW w a n M lo hi) :
    Calls Tryz.prog 15 #[.slice b m d, .slice a n c] w (VecR true (vecM V M) w) := by
  have HV := hid h
  have HW := hid h'
  obtain rfl := h.num
  obtain rfl := h'.num
  clear h h'
  have hkl := hM.2
  have hvl := hV.2
  have KV := hid (impl_VecOk_w (c := d) hV w HV.out)
  have KO := hid (fun (U : World) (hb : Below w.heap.size w U) => impl_MatOk (c := c) hM U (HW.out.old hb))
  obtain ⟨RS, hRS⟩ : ∃ RS, RS = vecM V M := ⟨_, rfl⟩
  rw [← hRS]
  have HRS := hid hRS
  clear hRS
  cases hov : oks (vals V) with
  | false =>
    rw [hov] at KV
    have HR0 := hid (show RS = [] by rw [HRS.out]; unfold vecM; rw [hov, if_neg (by simp)])
    clear hov
    go_enter Tryz.func15, Tryz.ntmps15
    go_wp2_with fail
    (with_reducible refine (KV.out).mono ?_)
    rintro e w2 ⟨rfl, hb⟩
    have R := hid (show VecR true RS w (.returned (.slice none 0 0)) w2 by rw [HR0.out]; exact ⟨_, _, _, rfl, VK_nil _ _ _ _, hb⟩)
    clear hb
    go_wp2
    go_ret
    exact R.out
  | true =>
    rw [hov] at KV
    cases hok : matOk M with
    | false =>
      rw [hok] at KO
      have HR0 := hid (show RS = [] by rw [HRS.out]; unfold vecM; rw [hok, if_neg (by simp)])
      clear hok hov
      go_enter Tryz.func15, Tryz.ntmps15
      go_wp2_with fail
      (with_reducible refine (KV.out).mono ?_)
      rintro e w2 ⟨rfl, hb⟩
      have HB := hid hb
      clear hb
      go_wp2_with fail
      (with_reducible refine (KO.out _ HB.out).mono ?_)
      rintro e w3 ⟨rfl, hb⟩
      have R := hid (show VecR true RS w (.returned (.slice none 0 0)) w3 by rw [HR0.out]; exact ⟨_, _, _, rfl, VK_nil _ _ _ _, HB.out.trans (hb.mono HB.out.size)⟩)
      clear hb
      go_wp2
      go_ret
      exact R.out
    | true =>
      rw [hok] at KO
      by_cases hl : V.length = M.length
      · have HR0 := hid (show RS = vres (colS (matW M) M V M.length) by rw [HRS.out]; unfold vecM; rw [if_pos ⟨⟨hok, hov⟩, hl⟩])
        have KS := hid (fun (U : World) (hb : Below w.heap.size w U) => sumOfRows_any (c := c) (d := d) hM hV hok hl U (HV.out.old hb) (HW.out.old hb))
        rw [← HR0.out] at KS
        rw [hl] at KV KS HV
        rw [hl]
        clear hok hov hl
        go_enter Tryz.func15, Tryz.ntmps15
        go_wp2_with fail
        (with_reducible refine (KV.out).mono ?_)
        rintro e w2 ⟨rfl, hb⟩
        have HB := hid hb
        clear hb
        go_wp2_with fail
        (with_reducible refine (KO.out _ HB.out).mono ?_)
        rintro e w3 ⟨rfl, hb⟩
        have HB3 := hid (HB.out.trans (hb.mono HB.out.size))
        clear hb
        go_wp2_with fail
        (with_reducible refine (KS.out _ HB3.out).mono ?_)
        rintro e w4 ⟨a5, n5, c5, rfl, hv, hb⟩
        have R := hid (show VecR true RS w (.returned (.slice a5 n5 c5)) w4 from ⟨_, _, _, rfl, hv.wide HB3.out.size (Nat.le_refl _), HB3.out.trans (hb.mono HB3.out.size)⟩)
        clear hv hb
        go_wp2
        go_ret
        exact R.out
      · have HR0 := hid (show RS = [] by rw [HRS.out]; unfold vecM; rw [if_neg fun e => hl e.2])
        obtain ⟨e1, e2⟩ := ne_facts hl
        clear hok hov hl
        go_enter Tryz.func15, Tryz.ntmps15
        go_wp2_with fail
        (with_reducible refine (KV.out).mono ?_)
        rintro e w2 ⟨rfl, hb⟩
        have HB := hid hb
        clear hb
        go_wp2_with fail
        (with_reducible refine (KO.out _ HB.out).mono ?_)
        rintro e w3 ⟨rfl, hb⟩
        have R := hid (show VecR true RS w (.returned (.slice none 0 0)) w3 by rw [HR0.out]; exact ⟨_, _, _, rfl, VK_nil _ _ _ _, HB.out.trans (hb.mono HB.out.size)⟩)
        clear hb
        go_wp2
        go_ret
        exact R.out
end Go.Proofs.YtdffmeinofgdgaaGreat
