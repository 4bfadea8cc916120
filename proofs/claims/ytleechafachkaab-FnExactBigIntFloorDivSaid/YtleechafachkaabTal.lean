/- A quotient's limb taken out, and the remainder: the walks. -/
import Derived.Test.YtleechafachkaabTak
namespace Go.Proofs.Ytleechafachkaab
open Go.RowKit
open Go.Lib (hid)
set_option linter.unusedVariables false
variable {Q : Rest}

theorem take_end {R D t : Int} (hD : 0 < D) (h1 : t * D ≤ R) (h2 : R < (t + 2) * D) :
    (D ≤ R - t * D → t + 1 = R / D ∧ R - t * D - D = R % D) ∧ (R - t * D < D → t = R / D ∧ R - t * D = R % D) := by
  have e : (t + 2) * D = t * D + D + D := by grind
  have f : (t + 1) * D = t * D + D := by grind
  constructor
  · intro h
    have := dg_end (T := R) (y := D) (q := t + 1) hD (by omega) (by rw [show t + 1 + 1 = t + 2 by omega]; omega)
    exact ⟨this.1, by have := this.2; omega⟩
  · intro h
    exact dg_end (T := R) (y := D) (q := t) hD h1 (by omega)

/-- The limb of the quotient is taken out: the remainder stays. -/
def TakeP (Q : Rest) (S : Nat → Prop) (N : Nat) (R D : Int) (w : World) (e : Ending) (w' : World) : Prop := e = .returned (.int .i64 (R / D)) ∧ (∃ v, IsNat Q w' S N v (rep (R % D).toNat)) ∧ Only S w w'
theorem rep_bd {V : Int} (h0 : 0 ≤ V) {n : Nat} (h : V < pw n) : (rep V.toNat).length ≤ n := rep_len' h

set_option maxRecDepth 100000 in
set_option maxHeartbeats 3200000 in
theorem takeOut_any (S : Nat → Prop) (N : Nat) (v : Value) (L M : List Int) (am : Option Addr) (nm cm : Nat) (s : Nat) (hs : s ≤ 1000) (hl : L.length ≤ 1000) (hm : M.length ≤ 1000) (hL : Can L) (hM : Can M) (hne : M ≠ [])
    (hR : val L < 1000000000 * (val M * pw s)) (w : World) (h : IsNat Q w S N v L) (hS : ∀ k, w.heap.size ≤ k → S k) (hr : RowI w am nm M) (ha : Apart S am) :
    Calls Try.prog 37 #[.pointer (some ⟨N, 0, none⟩), .slice am nm cm, .int .i64 s] w (TakeP Q S N (val L) (val M * pw s) w) := by
  obtain ⟨R, hRe⟩ : ∃ R, R = val L := ⟨_, rfl⟩
  obtain ⟨D, hDe⟩ : ∃ D, D = val M * pw s := ⟨_, rfl⟩
  have hD0 : 0 < D := by
    rw [hDe]
    have h1 := Can_ge hM hne
    have h2 := pw_pos (M.length - 1)
    exact Int.mul_pos (by omega) (pw_pos s)
  have hR0 : 0 ≤ R := by rw [hRe]; exact val_nonneg hL.1
  have hR2 : R < pw 1000 := by
    rw [hRe]
    exact (Can_len hL).1 hl
  have TE := hid (fun t h1 h2 => take_end (R := R) (D := D) (t := t) hD0 h1 h2)
  have KE := hid (estimate_any S N v L M am nm cm s (by omega) (by omega) (by omega) hL.1 hM hne hR w h hr)
  have CL := hid hL
  have CM := hid hM
  have HNE := hid hne
  have H := hid h
  have HS := hid hS
  have HR := hid hr
  have HA := hid ha
  have HRE := hid hRe
  have HDE := hid hDe
  rw [← hRe, ← hDe] at KE
  rw [← hRe, ← hDe]
  clear hL hM hne hR h hS hr ha hRe hDe
  go_enter Try.func37, Try.ntmps37
  go_wp2_with fail
  with_reducible refine KE.out.mono ?_
  rintro e w1 ⟨t, d, rfl, t0, t1, hle, hlt, rfl⟩
  have H := hid (H.out.drewN d)
  have HR := hid (RowI_drewN HR.out d)
  have HO := hid ((Only.refl S w).drewN d)
  have TE := hid (TE.out t hle hlt)
  have HLE := hid hle
  have HLT := hid hlt
  obtain ⟨w2, hw2⟩ : ∃ w2, w2 = w.drewN d := ⟨_, rfl⟩
  rw [← hw2] at H HR HO ⊢
  clear hle hlt hw2 KE
  obtain ⟨f, hf⟩ : ∃ f, f = -t := ⟨_, rfl⟩
  have ef : -t = f := hf.symm
  have hV : val L + f * val M * pw ((s : Nat) : Int).toNat = R - t * D := by
    rw [Int.toNat_natCast, hf, HRE.out, HDE.out]; grind
  have hV0 : 0 ≤ R - t * D := by have := HLE.out; omega
  have KA := hid (addMultiple_any S N v L M am nm cm f s (by omega) (by omega) (by omega) (by omega) CL.out.1 CM.out.1 (by omega) (by omega) (by rw [hV]; exact hV0) w2 H.out (fun k hk => HS.out k (Nat.le_trans HO.out.size hk)) HR.out HA.out)
  rw [hV] at KA
  clear hV hf
  go_wp2_with fail
  with_reducible refine KA.out.mono ?_
  rintro e w3 ⟨rfl, ⟨v2, h2⟩, o2⟩
  have H := hid h2
  have HR := hid (RowI_only HR.out o2 HA.out)
  have HO := hid (HO.out.trans o2)
  clear h2 o2 KA
  have hRt : R - t * D < pw 1000 := by
    have : 0 ≤ t * D := Int.mul_nonneg t0 (by omega)
    omega
  have hlen2 : (rep (R - t * D).toNat).length ≤ 1000 := rep_len' hRt
  have hvr : val (rep (R - t * D).toNat) = R - t * D := val_rep' hV0
  obtain ⟨P, hP⟩ : ∃ P, P = rep (R - t * D).toNat := ⟨_, rfl⟩
  have CP := hid (show Can P by rw [hP]; exact Can_rep _)
  have PE := hid hP
  rw [← hP] at H hlen2 hvr
  clear hP
  have KC := hid (contains_any S N v2 P M am nm cm s (by omega) (by omega) (by omega) CP.out CM.out HNE.out w3 H.out HR.out)
  rw [hvr, ← HDE.out] at KC
  have HVR := hid hvr
  clear hvr
  go_wp2_with fail
  with_reducible refine KC.out.mono ?_
  rintro e w4 ⟨rfl, d2, rfl⟩
  have H := hid (H.out.drewN d2)
  have HR := hid (RowI_drewN HR.out d2)
  have HO := hid (HO.out.drewN d2)
  obtain ⟨w5, hw5⟩ : ∃ w5, w5 = w3.drewN d2 := ⟨_, rfl⟩
  rw [← hw5] at H HR HO ⊢
  clear hw5 KC
  by_cases hc : D ≤ R - t * D
  · have hT := hid (TE.out.1 hc)
    rw [decide_eq_true hc]
    have hV2 : val P + (-1) * val M * pw ((s : Nat) : Int).toNat = R - t * D - D := by
      rw [Int.toNat_natCast, HVR.out, HDE.out]; grind
    have KA := hid (addMultiple_any S N v2 P M am nm cm (-1) s (by omega) (by omega) (by omega) (by omega) CP.out.1 CM.out.1 (by decide) (by decide) (by rw [hV2]; omega) w5 H.out (fun k hk => HS.out k (Nat.le_trans HO.out.size hk)) HR.out HA.out)
    rw [hV2, hT.out.2] at KA
    clear hV2 hc
    go_wp2_with fail
    with_reducible refine KA.out.mono ?_
    rintro e w6 ⟨rfl, ⟨v3, h3⟩, o3⟩
    have H := hid h3
    have HO := hid (HO.out.trans o3)
    clear h3 o3 KA
    go_wp2
    go_ret
    exact ⟨by rw [← hT.out.1]; rfl, ⟨_, H.out⟩, HO.out⟩
  · have hT := hid (TE.out.2 (by omega))
    rw [decide_eq_false hc]
    rw [PE.out, hT.out.2] at H
    clear hc
    go_wp2
    go_ret
    exact ⟨by rw [← hT.out.1]; rfl, ⟨_, H.out⟩, HO.out⟩

/-- R stays the same modulo D when a multiple of it is taken out. -/
theorem mod_mod {R D P : Int} (hD : 0 < D) (hP : 0 < P) : R % (D * P) % D = R % D := by
  have e := Int.emod_add_ediv_mul R (D * P)
  have : R = R % (D * P) + D * (P * (R / (D * P))) := by
    have : R / (D * P) * (D * P) = D * (P * (R / (D * P))) := by grind
    omega
  have h := Int.add_mul_emod_self_left (R % (D * P)) D (P * (R / (D * P)))
  rw [← this] at h
  exact h.symm
theorem start_lt {L M : List Int} (hL : Can L) (hM : Can M) (hne : M ≠ []) {k : Nat} (hk : L.length = M.length + k ∨ L.length < M.length ∧ k = 0) : val L < val M * pw (k + 1) := by
  have h1 := val_lt hL.1
  have h2 := Can_ge hM hne
  have hl : 0 < M.length := List.length_pos_iff.mpr hne
  have h3 : pw (M.length - 1) * pw (k + 1) ≤ val M * pw (k + 1) := Int.mul_le_mul_of_nonneg_right h2 (by have := pw_pos (k + 1); omega)
  rw [← pw_add] at h3
  have h4 := pw_le (m := L.length) (n := M.length - 1 + (k + 1)) (by omega)
  omega

end Go.Proofs.Ytleechafachkaab
