/- A quotient's limb taken out, and the remainder: the walks. -/
import Derived.Test.YtdlkiklhffafhabDoorTak
namespace Go.Proofs.YtdlkiklhffafhabDoor
open Go.RowKit
open Go.Lib (hid)
set_option linter.unusedVariables false
variable {Q : Rest}

theorem take_end {R D t : Int} (hD : 0 < D) (h1 : t * D ≤ R) (h2 : R < (t + 2) * D) :
    (D ≤ R - t * D → t + 1 = R / D ∧ R - t * D - D = R % D) ∧ (R - t * D < D → t = R / D ∧ R - t * D = R % D) := by
  have e : (t + 2) * D = t * D + D + D := by grind
  have f : (t + 1) * D = t * D + D := by grind
  constructor
  · intro h
    have := dg_end (T := R) (y := D) (q := t + 1) hD (by omega) (by rw [show t + 1 + 1 = t + 2 by omega]; omega)
    exact ⟨this.1, by have := this.2; omega⟩
  · intro h
    exact dg_end (T := R) (y := D) (q := t) hD h1 (by omega)

/-- The limb of the quotient is taken out: the remainder stays. -/
def TakeP (Q : Rest) (S : Nat → Prop) (N : Nat) (R D : Int) (w : World) (e : Ending) (w' : World) : Prop := e = .returned (.int .i64 (R / D)) ∧ (∃ v, IsNat Q w' S N v (rep (R % D).toNat)) ∧ Only S w w'
theorem rep_bd {V : Int} (h0 : 0 ≤ V) {n : Nat} (h : V < pw n) : (rep V.toNat).length ≤ n := rep_len' h

set_option maxRecDepth 100000 in
set_option maxHeartbeats 3200000 in
theorem takeOut_any (S : Nat → Prop) (N : Nat) (v : Value) (L M : List Int) (am : Option Addr) (nm cm : Nat) (s : Nat) (hs : s ≤ 1000) (hl : L.length ≤ 1000) (hm : M.length ≤ 1000) (hL : Can L) (hM : Can M) (hne : M ≠ [])
    (hR : val L < 1000000000 * (val M * pw s)) (w : World) (h : IsNat Q w S N v L) (hS : ∀ k, w.heap.size ≤ k → S k) (hr : RowI w am nm M) (ha : Apart S am) :
    Calls Tryd.prog 65 #[.pointer (some ⟨N, 0, none⟩), .slice am nm cm, .int .i64 s] w (TakeP Q S N (val L) (val M * pw s) w) := by
  obtain ⟨R, hRe⟩ : ∃ R, R = val L := ⟨_, rfl⟩
  obtain ⟨D, hDe⟩ : ∃ D, D = val M * pw s := ⟨_, rfl⟩
  have hD0 : 0 < D := by
    rw [hDe]
    have h1 := Can_ge hM hne
    have h2 := pw_pos (M.length - 1)
    exact Int.mul_pos (by omega) (pw_pos s)
  have hR0 : 0 ≤ R := by rw [hRe]; exact val_nonneg hL.1
  have hR2 : R < pw 1000 := by
    rw [hRe]
    exact (Can_len hL).1 hl
  have TE := hid (fun t h1 h2 => take_end (R := R) (D := D) (t := t) hD0 h1 h2)
  have KE := hid (estimate_any S N v L M am nm cm s (by omega) (by omega) (by omega) hL.1 hM hne hR w h hr)
  have CL := hid hL
  have CM := hid hM
  have HNE := hid hne
  have H := hid h
  have HS := hid hS
  have HR := hid hr
  have HA := hid ha
  have HRE := hid hRe
  have HDE := hid hDe
  rw [← hRe, ← hDe] at KE
  rw [← hRe, ← hDe]
  clear hL hM hne hR h hS hr ha hRe hDe
  go_enter Tryd.func65, Tryd.ntmps65
  go_wp2_with fail
  with_reducible refine KE.out.mono ?_
  rintro e w1 ⟨t, d, rfl, t0, t1, hle, hlt, rfl⟩
  have H := hid (H.out.drewN d)
  have HR := hid (RowI_drewN HR.out d)
  have HO := hid ((Only.refl S w).drewN d)
  have TE := hid (TE.out t hle hlt)
  have HLE := hid hle
  have HLT := hid hlt
  obtain ⟨w2, hw2⟩ : ∃ w2, w2 = w.drewN d := ⟨_, rfl⟩
  rw [← hw2] at H HR HO ⊢
  clear hle hlt hw2 KE
  obtain ⟨f, hf⟩ : ∃ f, f = -t := ⟨_, rfl⟩
  have ef : -t = f := hf.symm
  have hV : val L + f * val M * pw ((s : Nat) : Int).toNat = R - t * D := by
    rw [Int.toNat_natCast, hf, HRE.out, HDE.out]; grind
  have hV0 : 0 ≤ R - t * D := by have := HLE.out; omega
  have KA := hid (addMultiple_any S N v L M am nm cm f s (by omega) (by omega) (by omega) (by omega) CL.out.1 CM.out.1 (by omega) (by omega) (by rw [hV]; exact hV0) w2 H.out (fun k hk => HS.out k (Nat.le_trans HO.out.size hk)) HR.out HA.out)
  rw [hV] at KA
  clear hV hf
  go_wp2_with fail
  with_reducible refine KA.out.mono ?_
  rintro e w3 ⟨rfl, ⟨v2, h2⟩, o2⟩
  have H := hid h2
  have HR := hid (RowI_only HR.out o2 HA.out)
  have HO := hid (HO.out.trans o2)
  clear h2 o2 KA
  have hRt : R - t * D < pw 1000 := by
    have : 0 ≤ t * D := Int.mul_nonneg t0 (by omega)
    omega
  have hlen2 : (rep (R - t * D).toNat).length ≤ 1000 := rep_len' hRt
  have hvr : val (rep (R - t * D).toNat) = R - t * D := val_rep' hV0
  obtain ⟨P, hP⟩ : ∃ P, P = rep (R - t * D).toNat := ⟨_, rfl⟩
  have CP := hid (show Can P by rw [hP]; exact Can_rep _)
  have PE := hid hP
  rw [← hP] at H hlen2 hvr
  clear hP
  have KC := hid (contains_any S N v2 P M am nm cm s (by omega) (by omega) (by omega) CP.out CM.out HNE.out w3 H.out HR.out)
  rw [hvr, ← HDE.out] at KC
  have HVR := hid hvr
  clear hvr
  go_wp2_with fail
  with_reducible refine KC.out.mono ?_
  rintro e w4 ⟨rfl, d2, rfl⟩
  have H := hid (H.out.drewN d2)
  have HR := hid (RowI_drewN HR.out d2)
  have HO := hid (HO.out.drewN d2)
  obtain ⟨w5, hw5⟩ : ∃ w5, w5 = w3.drewN d2 := ⟨_, rfl⟩
  rw [← hw5] at H HR HO ⊢
  clear hw5 KC
  by_cases hc : D ≤ R - t * D
  · have hT := hid (TE.out.1 hc)
    rw [decide_eq_true hc]
    have hV2 : val P + (-1) * val M * pw ((s : Nat) : Int).toNat = R - t * D - D := by
      rw [Int.toNat_natCast, HVR.out, HDE.out]; grind
    have KA := hid (addMultiple_any S N v2 P M am nm cm (-1) s (by omega) (by omega) (by omega) (by omega) CP.out.1 CM.out.1 (by decide) (by decide) (by rw [hV2]; omega) w5 H.out (fun k hk => HS.out k (Nat.le_trans HO.out.size hk)) HR.out HA.out)
    rw [hV2, hT.out.2] at KA
    clear hV2 hc
    go_wp2_with fail
    with_reducible refine KA.out.mono ?_
    rintro e w6 ⟨rfl, ⟨v3, h3⟩, o3⟩
    have H := hid h3
    have HO := hid (HO.out.trans o3)
    clear h3 o3 KA
    go_wp2
    go_ret
    exact ⟨by rw [← hT.out.1]; rfl, ⟨_, H.out⟩, HO.out⟩
  · have hT := hid (TE.out.2 (by omega))
    rw [decide_eq_false hc]
    rw [PE.out, hT.out.2] at H
    clear hc
    go_wp2
    go_ret
    exact ⟨by rw [← hT.out.1]; rfl, ⟨_, H.out⟩, HO.out⟩

/-- R stays the same modulo D when a multiple of it is taken out. -/
theorem mod_mod {R D P : Int} (hD : 0 < D) (hP : 0 < P) : R % (D * P) % D = R % D := by
  have e := Int.emod_add_ediv_mul R (D * P)
  have : R = R % (D * P) + D * (P * (R / (D * P))) := by
    have : R / (D * P) * (D * P) = D * (P * (R / (D * P))) := by grind
    omega
  have h := Int.add_mul_emod_self_left (R % (D * P)) D (P * (R / (D * P)))
  rw [← this] at h
  exact h.symm
theorem start_lt {L M : List Int} (hL : Can L) (hM : Can M) (hne : M ≠ []) {k : Nat} (hk : L.length = M.length + k ∨ L.length < M.length ∧ k = 0) : val L < val M * pw (k + 1) := by
  have h1 := val_lt hL.1
  have h2 := Can_ge hM hne
  have hl : 0 < M.length := List.length_pos_iff.mpr hne
  have h3 : pw (M.length - 1) * pw (k + 1) ≤ val M * pw (k + 1) := Int.mul_le_mul_of_nonneg_right h2 (by have := pw_pos (k + 1); omega)
  rw [← pw_add] at h3
  have h4 := pw_le (m := L.length) (n := M.length - 1 + (k + 1)) (by omega)
  omega

set_option maxRecDepth 100000 in
set_option maxHeartbeats 3200000 in
theorem reduce_any (S : Nat → Prop) (N : Nat) (v : Value) (L M : List Int) (am : Option Addr) (nm cm : Nat) (hl : L.length ≤ 900) (hm : M.length ≤ 900) (hL : Can L) (hM : Can M) (hne : M ≠ [])
    (w : World) (h : IsNat Q w S N v L) (hS : ∀ k, w.heap.size ≤ k → S k) (hr : RowI w am nm M) (ha : Apart S am) :
    Calls Tryd.prog 53 #[.pointer (some ⟨N, 0, none⟩), .slice am nm cm] w (MethP Q S N (rep (val L % val M).toNat) w) := by
  obtain rfl : nm = M.length := hr.1
  have hc := h.cell
  have hM0 : 0 < val M := by
    have h1 := Can_ge hM hne
    have h2 := pw_pos (M.length - 1)
    omega
  have H := hid h
  have HS := hid hS
  have HR := hid hr
  have HA := hid ha
  have CL := hid hL
  have CM := hid hM
  have HNE := hid hne
  have HM0 := hid hM0
  have ST := hid (fun k hk => start_lt hL hM hne (k := k) hk)
  obtain ⟨a, c, rfl, -, -, -⟩ := Ints_form h.ints
  clear h hS hr ha hL hM hne hM0
  go_enter Tryd.func53, Tryd.ntmps53
  go_wp2
  clear hc
  by_cases hlm : L.length < M.length
  · have hsm := hid (show val L % val M = val L by
      have h1 := ST.out 0 (.inr ⟨hlm, rfl⟩)
      have h2 : val M * pw 1 = val M * 1000000000 := by simp [pw]
      have h3 : val L < val M := by
        have a1 := val_lt CL.out.1
        have a2 := Can_ge CM.out HNE.out
        have a3 := pw_le (m := L.length) (n := M.length - 1) (by omega)
        omega
      exact Int.emod_eq_of_lt (val_nonneg CL.out.1) h3)
    have hneg : ¬ (0 : Int) ≤ (L.length : Int) - M.length := by omega
    go_loopw [4] (fun z wr => z = .int .i64 ((L.length : Int) - M.length) ∧ wr = w) (fun _ _ => 0)
    case atStart => exact ⟨rfl, rfl⟩
    case round =>
      obtain ⟨rfl, rfl⟩ := hrel
      go_wp2
      go_end0
      exact MethP_mk H.out (by rw [hsm.out, rep_val CL.out]) (Only.refl _ _)
  · obtain ⟨k0, hk0⟩ : ∃ k0, L.length = M.length + k0 := ⟨L.length - M.length, by omega⟩
    have HK := hid hk0
    have hk9 : k0 ≤ 900 := by omega
    have ed : (L.length : Int) - M.length = (k0 : Int) := by omega
    have ST0 := hid (ST.out k0 (.inl hk0))
    clear hk0
    rw [ed]
    clear ed
    go_loopw [4] (fun z wr => ∃ (k : Nat) (P : List Int) (u : Value), k ≤ k0 + 1 ∧ z = .int .i64 ((k : Int) - 1) ∧ IsNat Q wr S N u P ∧ Only S w wr ∧ Hid (Can P) ∧ P.length ≤ 1000 ∧ Hid (val P < val M * pw k) ∧ Hid (val P % val M = val L % val M)) (fun z _ => (intOf z + 1).toNat)
    case atStart => exact ⟨k0 + 1, L, _, Nat.le_refl _, by congr 1; omega, H.out, Only.refl _ _, CL, by omega, ST0, hid rfl⟩
    case round =>
      clear H ST0
      obtain ⟨k, P, u, hk, rfl, hI, hO, hCP, hPl, hlt, hmod⟩ := hrel
      have H := hid hI
      have HO := hid hO
      clear hI hO
      cases k with
      | zero =>
        have hE := hid (show P = rep (val L % val M).toNat by
          have h1 := hlt.out
          simp only [pw, Int.mul_one] at h1
          rw [← hmod.out, Int.emod_eq_of_lt (val_nonneg hCP.out.1) h1, rep_val hCP.out])
        go_wp2
        go_end0
        exact MethP_mk H.out hE.out HO.out
      | succ k =>
        have e1 : ((k + 1 : Nat) : Int) - 1 = k := by omega
        rw [e1]
        clear e1
        have hk0' : (0 : Int) ≤ k := by omega
        have KT := hid (takeOut_any S N u P M am M.length cm k (by omega) hPl (by omega) hCP.out CM.out HNE.out (by have := hlt.out; have e : val M * pw (k + 1) = 1000000000 * (val M * pw k) := by simp only [pw]; grind
                                                                                                                    omega) _ H.out (fun j hj => HS.out j (Nat.le_trans HO.out.size hj)) (RowI_only HR.out HO.out HA.out) HA.out)
        have hpk := pw_pos k
        have hDk : 0 < val M * pw k := Int.mul_pos HM0.out hpk
        have N1 := hid (show val P % (val M * pw k) < val M * pw k ∧ 0 ≤ val P % (val M * pw k) from ⟨Int.emod_lt_of_pos _ hDk, Int.emod_nonneg _ (by omega)⟩)
        have N2 := hid ((mod_mod (R := val P) HM0.out hpk).trans hmod.out)
        have N3 := hid (show val P % (val M * pw k) < pw 1000 by
          have a1 := (Can_len hCP.out).1 hPl
          have a2 := val_nonneg hCP.out.1
          have a4 := Int.emod_add_ediv_mul (val P) (val M * pw k)
          have a5 := Int.mul_nonneg (Int.ediv_nonneg a2 (show 0 ≤ val M * pw k by omega)) (show 0 ≤ val M * pw k by omega)
          omega)
        clear hpk hDk
        go_wp2_with fail
        with_reducible refine KT.out.mono ?_
        rintro e w2 ⟨rfl, ⟨v2, h2⟩, o2⟩
        have H := hid h2
        have HO := hid (HO.out.trans o2)
        obtain ⟨V, hV⟩ : ∃ V, V = val P % (val M * pw k) := ⟨_, rfl⟩
        rw [← hV] at H N1 N2 N3
        clear h2 o2 KT hV
        obtain ⟨Q, hQ⟩ : ∃ Q, Q = val P / (val M * pw k) := ⟨_, rfl⟩
        rw [← hQ]
        clear hQ
        have hlen := rep_len' N3.out
        go_wp2
        go_roundw
        case rel =>
          have hvv := val_rep' N1.out.2
          exact ⟨k, _, _, by omega, rfl, H.out, HO.out, hid (Can_rep _), hlen, hid (by rw [hvv]; exact N1.out.1), hid (by rw [hvv]; exact N2.out)⟩
        case measure => simp [intOf]
end Go.Proofs.YtdlkiklhffafhabDoor
