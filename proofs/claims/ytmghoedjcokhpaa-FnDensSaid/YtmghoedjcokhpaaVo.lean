/- The numerators' divisor (the program and the reference). -/
import Derived.Test.YtmghoedjcokhpaaVn
import Derived.Deep.RegionHeld3
import Derived.Deep.DeepCutAuto
namespace Go.Proofs.Ytmghoedjcokhpaa
open Go.RowKit
open Go.Lib (hid)
set_option linter.unusedVariables false

theorem gcd_bd {g x : Nat} {B : Int} (hg : (g : Int) < B) (hx : (x : Int) < B) : ((Nat.gcd g x : Nat) : Int) < B := by
  by_cases h : x = 0
  · subst h; rw [Nat.gcd_zero_right]; exact hg
  · have := Nat.gcd_le_right (n := x) g (by omega)
    omega
theorem ngcd_nil {os : List (Option Rat)} (h : cdenO os = []) : ngcdO os = [] := by unfold ngcdO; rw [if_pos h]
theorem ngcd_yes {os : List (Option Rat)} (h : cdenO os ≠ []) : ngcdO os = rep (gcdN os) := by unfold ngcdO; rw [if_neg h]
theorem some_at {K : List Fq} (h : ∀ o ∈ vals K, o.isSome = true) {k : Nat} (hk : k < K.length) : ∃ x, K[k].o = some x :=
  Option.isSome_iff_exists.1 (h _ (by rw [← vals_at hk]; exact List.getElem_mem _))
set_option maxRecDepth 100000 in
set_option maxHeartbeats 6400000 in
theorem impl_NumeratorGcd {p : Bool} {a : Option Addr} {n c : Nat} {K : List Fq} {lo hi : Nat} (hK : Sm K) (w : World) (h : VK p w (.slice a n c) K lo hi) :
    Calls Try.prog 41 #[.slice a n c] w (OwnP (ngcdO (vals K)) w) := by
  have HV := hid h
  have KC := hid (impl_CommonDenominator hK w h)
  obtain rfl := h.num
  clear h
  have hkl := hK.2
  have hcl := cden_len (vals K)
  obtain ⟨M, hM⟩ : ∃ M, M = cdenO (vals K) := ⟨_, rfl⟩
  rw [← hM] at KC hcl
  have HM := hid hM
  clear hM
  obtain ⟨R0, hR0⟩ : ∃ R, R = ngcdO (vals K) := ⟨_, rfl⟩
  rw [← hR0]
  have HR0 := hid hR0
  clear hR0
  by_cases hnil : M = []
  · have HN := hid (show R0 = [] by rw [HR0.out]; exact ngcd_nil (by rw [← HM.out]; exact hnil))
    subst hnil
    go_enter Try.func41, Try.ntmps41
    go_wp2_with fail
    (with_reducible refine (KC.out).mono ?_)
    rintro e w1 ⟨v1, rfl, i1, hb1⟩
    have B1 := hid hb1
    obtain ⟨a1, c1, rfl, -⟩ := Ints_form i1
    clear i1 hb1
    go_wp2
    go_ret
    exact ⟨_, rfl, by rw [HN.out]; exact Ints_nil _ _, B1.out⟩
  obtain ⟨hall, hlt24, hMe⟩ := cden_nil (os := vals K) (by rw [← HM.out]; exact hnil)
  rw [← HM.out] at hMe
  have HALL := hid hall
  have HL24 := hid hlt24
  have HME := hid hMe
  have HY := hid (show R0 = rep (gcdN (vals K)) by rw [HR0.out]; exact ngcd_yes (by rw [← HM.out]; exact hnil))
  have hMl : 0 < M.length := List.length_pos_iff.mpr hnil
  have hM0 : ((M.length : Int) == 0) = false := beq_eq_false_iff_ne.2 (by omega)
  clear hall hlt24 hMe hnil
  go_enter Try.func41, Try.ntmps41
  go_wp2_with fail
  (with_reducible refine (KC.out).mono ?_)
  rintro e w1 ⟨v1, rfl, i1, hb1⟩
  have B1 := hid hb1
  obtain ⟨a1, c1, rfl, -⟩ := Ints_form i1
  clear i1 hb1
  go_wp2
  go_loopw [3, 12] (fun v i wr => ∃ (k g0 : Nat) (a' : Option Addr) (L' : List Int) (c' : Nat), k ≤ K.length ∧ i = .int .i64 k ∧ v = .slice a' L'.length c' ∧ Hid (L' = rep g0) ∧ Hid (g0 = gcdN ((vals K).take k)) ∧ Hid ((g0 : Int) < pw 24) ∧ Hid (Ints wr w.heap.size (.slice a' L'.length c') L') ∧ Below w.heap.size w wr) (fun _ i _ => K.length - (intOf i).toNat)
  case atStart => exact ⟨0, 0, none, [], 0, Nat.zero_le _, rfl, rfl, hid rep_zero.symm, hid (by simp [gcdN]), hid (by decide), hid (Ints_nil _ _), B1.out⟩
  case round =>
    obtain ⟨k, g0, a', L', c', hk, rfl, rfl, hL', hg0, hgb, hI, hbel⟩ := hrel
    by_cases hlt : k < K.length
    · have V := hid (HV.out.old hbel)
      obtain ⟨x, hx⟩ := some_at HALL.out hlt
      obtain ⟨g, a3, n3, c3, b3, m3, d3, rfl, hg, q0, q1, q2, R⟩ := V.out.at hK hlt
      obtain ⟨⟨s, A, D⟩, hf⟩ : ∃ f, K[k]'(hlt) = f := ⟨_, rfl⟩
      simp only [hf] at q0 R
      have HF := hid hf
      clear hf
      have HB := hid (hbel.alloc hbel.size (.cells #[.bool s, .slice a3 n3 c3, .slice b3 m3 d3] 45))
      have hz := hbel.size
      have I2 := hid (Ints_old hI.out (below_new' (o := .cells #[.bool s, .slice a3 n3 c3, .slice b3 m3 d3] 45)))
      rw [HF.out] at hx
      obtain ⟨hA, -, ha24, -⟩ := RL_lists R hx
      have HG := hid (show gcdN ((vals K).take (k + 1)) = Nat.gcd g0 (ndp (some x)).1 by rw [gcdN_take (by rw [vals_len]; exact hlt), vals_at hlt, HF.out, hx, hg0.out])
      have hp := hid pw24_60
      have HA24 := hid ha24
      have KG := hid (show Calls Try.prog 79 #[.slice a' L'.length c', .slice a3 n3 c3] (wr.alloc (.cells #[.bool s, .slice a3 n3 c3, .slice b3 m3 d3] 45)) _ from by
        obtain ⟨b', hb'⟩ := R.a
        exact gcd_v (x := g0) (y := (ndp (some x)).1) (by have := hp.out; have := hgb.out; omega) (by have := hp.out; omega) (by rw [← hL'.out]; exact I2.out) (by rw [← hA]; exact Ints_old hb' below_new'))
      have HGB := hid (gcd_bd hgb.out HA24.out)
      rw [← HG.out] at HGB KG
      have a1' : (0 : Int) ≤ k := by omega
      have a2 : (k : Int) < K.length := by omega
      clear hbel hx hA ha24 R
      go_wp2_with fail
      (with_reducible refine (KG.out).mono ?_)
      rintro e w2 ⟨v2, rfl, i2, hb⟩
      have HB2 := hid (HB.out.trans (hb.mono HB.out.size))
      have I3 := hid (Ints_base i2 HB.out.size)
      obtain ⟨g1, hg1⟩ : ∃ g1, g1 = gcdN ((vals K).take (k + 1)) := ⟨_, rfl⟩
      rw [← hg1] at I3 HGB
      have HG1 := hid hg1
      obtain ⟨L6, hL6⟩ : ∃ L6, L6 = rep g1 := ⟨_, rfl⟩
      rw [← hL6] at I3
      have HL6 := hid hL6
      obtain ⟨a6, c6, rfl, -⟩ := Ints_form I3.out
      clear i2 hb hg1 hL6 q0 q1 q2
      go_wp2
      go_roundw
      case rel => exact ⟨k + 1, g1, _, L6, _, by omega, by go_num, rfl, HL6, HG1, HGB, I3, HB2.out⟩
      case measure => simp [intOf]; omega
    · obtain rfl : k = K.length := by omega
      have HB := hid hbel
      have HZ := hid (show R0 = L' by
        have h1 := hg0.out
        rw [List.take_of_length_le (by rw [vals_len]; exact Nat.le_refl _)] at h1
        rw [HY.out, ← h1, hL'.out])
      clear hbel
      go_wp2
      go_ret
      exact ⟨_, rfl, by rw [HZ.out]; exact hI.out, HB.out⟩
set_option maxRecDepth 100000 in
set_option maxHeartbeats 6400000 in
theorem spec_NumeratorGcd {p : Bool} {a : Option Addr} {n c : Nat} {K : List Fq} {lo hi : Nat} (hK : Sm K) (w : World) (h : VK p w (.slice a n c) K lo hi) :
    Calls Try.prog 50 #[.slice a n c] w (OwnP (ngcdO (vals K)) w) := by
  have HV := hid h
  have KC := hid (spec_CommonDenominator hK w h)
  obtain rfl := h.num
  clear h
  have hkl := hK.2
  have hcl := cden_len (vals K)
  obtain ⟨M, hM⟩ : ∃ M, M = cdenO (vals K) := ⟨_, rfl⟩
  rw [← hM] at KC hcl
  have HM := hid hM
  clear hM
  obtain ⟨R0, hR0⟩ : ∃ R, R = ngcdO (vals K) := ⟨_, rfl⟩
  rw [← hR0]
  have HR0 := hid hR0
  clear hR0
  by_cases hnil : M = []
  · have HN := hid (show R0 = [] by rw [HR0.out]; exact ngcd_nil (by rw [← HM.out]; exact hnil))
    subst hnil
    go_enter Try.func50, Try.ntmps50
    go_wp2_with fail
    (with_reducible refine (KC.out).mono ?_)
    rintro e w1 ⟨v1, rfl, i1, hb1⟩
    have B1 := hid hb1
    obtain ⟨a1, c1, rfl, -⟩ := Ints_form i1
    clear i1 hb1
    go_wp2
    go_ret
    exact ⟨_, rfl, by rw [HN.out]; exact Ints_nil _ _, B1.out.alloc B1.out.size _⟩
  obtain ⟨hall, hlt24, hMe⟩ := cden_nil (os := vals K) (by rw [← HM.out]; exact hnil)
  rw [← HM.out] at hMe
  have HALL := hid hall
  have HL24 := hid hlt24
  have HME := hid hMe
  have HY := hid (show R0 = rep (gcdN (vals K)) by rw [HR0.out]; exact ngcd_yes (by rw [← HM.out]; exact hnil))
  have hMl : 0 < M.length := List.length_pos_iff.mpr hnil
  have hM0 : ((M.length : Int) == 0) = false := beq_eq_false_iff_ne.2 (by omega)
  clear hall hlt24 hMe hnil
  have HDD := hid (fun k (h : k < (vals K).length) => lcmN_den (os := vals K) h)
  have HMP := hid (lcmN_pos HALL.out)
  have HGS := hid (gcd_same HALL.out)
  generalize lcmN (vals K) = mm at HL24 HME HDD HMP HGS
  go_enter Try.func50, Try.ntmps50
  go_wp2_with fail
  (with_reducible refine (KC.out).mono ?_)
  rintro e w1 ⟨v1, rfl, i1, hb1⟩
  have IM := hid (Ints_old i1 (below_new' (o := .cells #[] 3)))
  have B1 := hid (hb1.alloc hb1.size (.cells #[] 3))
  have I0 := hid (Ints_lit0 (w := w1) rfl)
  have hz1 := hb1.size
  obtain ⟨a1, c1, rfl, -⟩ := Ints_form i1
  clear i1 hb1
  have HS1 := hid (show (w1.alloc (.cells #[] 3)).heap.size = w1.heap.size + 1 by simp)
  go_wp2
  generalize hW1 : w1.alloc (.cells #[] 3) = W1 at IM B1 I0 HS1 ⊢
  go_loopw [4, 17] (fun v i wr => ∃ (k g0 : Nat) (a' : Option Addr) (L' : List Int) (c' : Nat), k ≤ K.length ∧ i = .int .i64 k ∧ v = .slice a' L'.length c' ∧ Hid (L' = rep g0) ∧ Hid (g0 = gcdS mm ((vals K).take k)) ∧ Hid ((g0 : Int) < pw 60) ∧ Hid (Ints wr w.heap.size (.slice a' L'.length c') L') ∧ Hid (Below W1.heap.size W1 wr) ∧ Below w.heap.size w wr) (fun _ i _ => K.length - (intOf i).toNat)
  case atStart => exact ⟨0, 0, _, [], 0, Nat.zero_le _, rfl, rfl, hid rep_zero.symm, hid (by simp [gcdS]), hid (by decide), hid (Ints_base I0.out hz1), hid (Below.refl _ _), B1.out⟩
  case round =>
    obtain ⟨k, g0, a', L', c', hk, rfl, rfl, hL', hg0, hgb, hI, hBW, hbel⟩ := hrel
    by_cases hlt : k < K.length
    · have V := hid (HV.out.old hbel)
      obtain ⟨x, hx⟩ := some_at HALL.out hlt
      obtain ⟨g, a3, n3, c3, b3, m3, d3, rfl, hg, q0, q1, q2, R⟩ := V.out.at hK hlt
      obtain ⟨⟨s, A, D⟩, hf⟩ : ∃ f, K[k]'(hlt) = f := ⟨_, rfl⟩
      simp only [hf] at q0 R
      have HF := hid hf
      clear hf
      have HB := hid (hbel.alloc hbel.size (.cells #[.bool s, .slice a3 n3 c3, .slice b3 m3 d3] 45))
      have LE := hid (LocA.new (w := wr) (T := 45) (cs := #[.bool s, .slice a3 n3 c3, .slice b3 m3 d3]))
      have hz := hbel.size
      have I2 := hid (Ints_old hI.out (below_new' (o := .cells #[.bool s, .slice a3 n3 c3, .slice b3 m3 d3] 45)))
      have IM2 := hid (Ints_old (Ints_old IM.out hBW.out) (below_new' (o := .cells #[.bool s, .slice a3 n3 c3, .slice b3 m3 d3] 45)))
      have HBW2 := hid (hBW.out.alloc hBW.out.size (.cells #[.bool s, .slice a3 n3 c3, .slice b3 m3 d3] 45))
      rw [HF.out] at hx
      obtain ⟨hA, hD, ha24, hd24, hd0⟩ := RL_lists R hx
      have HG := hid (show gcdS mm ((vals K).take (k + 1)) = Nat.gcd g0 ((ndp (some x)).1 * (mm / (ndp (some x)).2)) by rw [gcdS_take (by rw [vals_len]; exact hlt), vals_at hlt, HF.out, hx, hg0.out])
      have hp := hid pw24_60
      have HNA := hid (show ∀ W, Below wr.heap.size wr W → ∃ b, Ints W b (.slice a3 n3 c3) (rep (ndp (some x)).1) from fun W hb => by
        obtain ⟨b', hb'⟩ := R.a
        exact ⟨b', by rw [← hA]; exact Ints_old hb' hb⟩)
      have HND := hid (show ∀ W, Below wr.heap.size wr W → ∃ b, Ints W b (.slice b3 m3 d3) (rep (ndp (some x)).2) from fun W hb => by
        obtain ⟨b', hb'⟩ := R.d
        exact ⟨b', by rw [← hD]; exact Ints_old hb' hb⟩)
      generalize (ndp (some x)).1 = na at HG HNA ha24
      generalize (ndp (some x)).2 = nd at HG HND hd24 hd0
      have HA24 := hid ha24
      have HD24 := hid hd24
      have hql := hid (Nat.div_le_self mm nd)
      have KD := hid (show Calls Try.prog 90 #[.slice a1 M.length c1, .slice b3 m3 d3] (wr.alloc (.cells #[.bool s, .slice a3 n3 c3, .slice b3 m3 d3] 45)) _ from by
        obtain ⟨b', hb'⟩ := HND.out _ (below_new' (o := .cells #[.bool s, .slice a3 n3 c3, .slice b3 m3 d3] 45))
        exact sdiv_v (x := mm) (y := nd) (by have := hp.out; have := HL24.out; omega) (by have := hp.out; omega) hd0 (by rw [← HME.out]; exact IM2.out) hb')
      have HPB := hid (mul_lt24 (x := na) (y := mm / nd) ha24 (by have := HL24.out; have := hql.out; omega))
      have HGB := hid (gcd_bd hgb.out HPB.out)
      rw [← HG.out] at HGB
      have a1' : (0 : Int) ≤ k := by omega
      have a2 : (k : Int) < K.length := by omega
      clear hbel hx hA hD ha24 hd24 hd0 R
      go_wp2_with fail
      (with_reducible refine (KD.out).mono ?_)
      rintro e w2 ⟨v2, u2, rfl, i2, -, hb⟩
      have HB2 := hid (HB.out.trans (hb.mono HB.out.size))
      have I3 := hid (Ints_old I2.out hb)
      have LE2 := hid (LE.out.old hb)
      have BW := hid ((below_new' (o := .cells #[.bool s, .slice a3 n3 c3, .slice b3 m3 d3] 45)).trans (hb.mono (by simp)))
      have HBW3 := hid (HBW2.out.trans (hb.mono HBW2.out.size))
      obtain ⟨ba, hba⟩ := HNA.out w2 BW.out
      have KM := hid (smul_v (x := na) (y := mm / nd) (by have := hp.out; have := HA24.out; omega) (by have := hp.out; have := HL24.out; have := hql.out; omega) hba i2)
      obtain ⟨a2', c2, rfl, -⟩ := Ints_form i2
      have x1 := LE2.out.c 1 (v := .slice a3 n3 c3) rfl
      clear i2 hb q0 q1 q2 hba
      go_wp2_with fail
      (with_reducible refine (KM.out).mono ?_)
      rintro e w3 ⟨v3, rfl, i3, hb⟩
      have HB3 := hid (HB2.out.trans (hb.mono HB2.out.size))
      have I4 := hid (Ints_old I3.out hb)
      have HBW4 := hid (HBW3.out.trans (hb.mono HBW3.out.size))
      have KG := hid (sgcd_v (x := g0) (y := na * (mm / nd)) hgb.out HPB.out (show Ints w3 w.heap.size (.slice a' L'.length c') (rep g0) from by rw [← hL'.out]; exact I4.out) i3)
      rw [← HG.out] at KG
      obtain ⟨a7, c7, rfl, -⟩ := Ints_form i3
      clear i3 hb x1
      go_wp2_with fail
      (with_reducible refine (KG.out).mono ?_)
      rintro e w4 ⟨v4, rfl, i4, hb⟩
      have HB4 := hid (HB3.out.trans (hb.mono HB3.out.size))
      have HBW5 := hid (HBW4.out.trans (hb.mono HBW4.out.size))
      have I5 := hid (Ints_base i4 HB3.out.size)
      obtain ⟨g1, hg1⟩ : ∃ g1, g1 = gcdS mm ((vals K).take (k + 1)) := ⟨_, rfl⟩
      rw [← hg1] at I5 HGB
      have HG1 := hid hg1
      obtain ⟨L6, hL6⟩ : ∃ L6, L6 = rep g1 := ⟨_, rfl⟩
      rw [← hL6] at I5
      have HL6 := hid hL6
      obtain ⟨a6, c6, rfl, -⟩ := Ints_form I5.out
      clear i4 hb hg1 hL6
      go_wp2
      go_roundw
      case rel => exact ⟨k + 1, g1, _, L6, _, by omega, by go_num, rfl, HL6, HG1, HGB, I5, HBW5, HB4.out⟩
      case measure => simp [intOf]; omega
    · obtain rfl : k = K.length := by omega
      have HB := hid hbel
      have HZ := hid (show R0 = L' by
        have h1 := hg0.out
        rw [List.take_of_length_le (by rw [vals_len]; exact Nat.le_refl _), HGS.out] at h1
        rw [HY.out, ← h1, hL'.out])
      clear hbel
      go_wp2
      go_ret
      exact ⟨_, rfl, by rw [HZ.out]; exact hI.out, HB.out⟩
end Go.Proofs.Ytmghoedjcokhpaa
