/- The estimate of a quotient's limb: the limbs at the top of the number against those of the divisor. -/
import Derived.Test.YtdlkiklhffafhabDoorNat4

import Derived.Shelf.Spec.BitsCarry
namespace Go.Proofs.YtdlkiklhffafhabDoor
open Go.RowKit
open Go.Lib (hid)
set_option linter.unusedVariables false

/-- A limb, zero on both sides of the list. -/
def at0 (L : List Int) (i : Int) : Int := if 0 ≤ i ∧ i < L.length then L.getD i.toNat 0 else 0
theorem at0_lim {L : List Int} (h : Lim L) (i : Int) : 0 ≤ at0 L i ∧ at0 L i < 1000000000 := by
  unfold at0
  split
  · next hh =>
    have hk : i.toNat < L.length := by omega
    have := Lim_at h hk
    simpa [hk] using this
  · omega
theorem at0_in {L : List Int} {k : Nat} (hk : k < L.length) : at0 L k = L[k] := by
  unfold at0
  rw [if_pos ⟨by omega, by omega⟩]
  simp [hk]
theorem at0_out {L : List Int} {i : Int} (h : i < 0 ∨ (L.length : Int) ≤ i) : at0 L i = 0 := by
  unfold at0
  rw [if_neg (by omega)]
theorem drop_at0 {L : List Int} (k : Nat) : val (L.drop k) = at0 L k + 1000000000 * val (L.drop (k + 1)) := by
  by_cases hk : k < L.length
  · rw [val_drop hk, at0_in hk]
  · rw [at0_out (.inr (by omega)), val_drop_end (by omega), val_drop_end (by omega)]; rfl
theorem take_at0 {L : List Int} (k : Nat) : val (L.take (k + 1)) = val (L.take k) + pw k * at0 L k := by
  by_cases hk : k < L.length
  · rw [val_take_succ hk, at0_in hk]
  · rw [at0_out (.inr (by omega)), List.take_of_length_le (by omega), List.take_of_length_le (by omega)]; simp
theorem split_at0 (L : List Int) (k : Nat) : val L = val (L.take k) + pw k * val (L.drop k) := by
  by_cases hk : k ≤ L.length
  · exact val_split L hk
  · rw [List.take_of_length_le (by omega), val_drop_end (by omega)]; simp
theorem take_lt {L : List Int} (h : Lim L) (k : Nat) : 0 ≤ val (L.take k) ∧ val (L.take k) < pw k := by
  refine ⟨val_nonneg (Lim_take h k), ?_⟩
  have h1 := val_lt (Lim_take h k)
  have h2 := pw_le (m := (L.take k).length) (n := k) (by rw [List.length_take]; omega)
  omega
/-- The three limbs at and below place j, times B^(j-1), are the number times B up to less than B^(j-1): where no limb lies above j. -/
theorem window {L : List Int} (h : Lim L) {j : Nat} (hj : 1 ≤ j) (hv : val L < pw (j + 1)) :
    ∃ r, 0 ≤ r ∧ r < pw (j - 1) ∧ val L * 1000000000 = ((at0 L j * 1000000000 + at0 L (j - 1 : Int)) * 1000000000 + at0 L (j - 2 : Int)) * pw (j - 1) + r := by
  have s1 := split_at0 L (j + 1)
  have t1 := take_lt h (j + 1)
  have d0 : val (L.drop (j + 1)) = 0 := by
    have hd := val_nonneg (Lim_drop h (j + 1))
    rcases Int.lt_or_le 0 (val (L.drop (j + 1))) with hp | hp
    · have : pw (j + 1) * 1 ≤ pw (j + 1) * val (L.drop (j + 1)) := Int.mul_le_mul_of_nonneg_left (by omega) (by have := pw_pos (j + 1); omega)
      omega
    · omega
  rw [d0] at s1
  have e1 := take_at0 (L := L) j
  obtain ⟨m, rfl⟩ : ∃ m, j = m + 1 := ⟨j - 1, by omega⟩
  have e2 := take_at0 (L := L) m
  have i1 : ((m + 1 : Nat) : Int) - 1 = (m : Int) := by omega
  rw [i1, Nat.add_sub_cancel]
  cases m with
  | zero =>
    refine ⟨0, by decide, by decide, ?_⟩
    have z : at0 L (((0 + 1 : Nat) : Int) - 2) = 0 := at0_out (.inl (by omega))
    rw [z]
    have t0 : val (L.take 0) = 0 := by simp [val]
    rw [t0] at e2
    simp only [pw] at e1 e2 s1 ⊢
    have hx : at0 L ((0 + 1 : Nat) : Int) = at0 L 1 := rfl
    have hy : at0 L ((0 : Nat) : Int) = at0 L 0 := rfl
    omega
  | succ m =>
    have e3 := take_at0 (L := L) m
    have t3 := take_lt h m
    have i2 : ((m + 1 + 1 : Nat) : Int) - 2 = (m : Int) := by omega
    rw [i2]
    refine ⟨val (L.take m) * 1000000000, by omega, by simp only [pw]; omega, ?_⟩
    simp only [pw] at *
    grind
theorem est_le {R D nv d1 r d' P : Int} (hP : 0 < P) (hD : D = d1 * P + d') (hd0 : 0 ≤ d') (hd1 : d' < P) (hdv : 1000000000 ≤ d1) (hR : R = nv * P + r) (hr0 : 0 ≤ r) (hr1 : r < P) (hn : 0 ≤ nv) (hRD : R < 1000000000 * D) :
    (nv / (d1 + 1)) * D ≤ R ∧ R < (nv / (d1 + 1) + 2) * D ∧ 0 ≤ nv / (d1 + 1) ∧ nv / (d1 + 1) < 1000000000 := by
  obtain ⟨t, ht⟩ : ∃ t, t = nv / (d1 + 1) := ⟨_, rfl⟩
  have a := Int.emod_add_ediv_mul nv (d1 + 1)
  have b := Int.emod_nonneg nv (show d1 + 1 ≠ 0 by omega)
  have c := Int.emod_lt_of_pos nv (show 0 < d1 + 1 by omega)
  have t0 := Int.ediv_nonneg hn (show 0 ≤ d1 + 1 by omega)
  rw [← ht] at a t0 ⊢
  obtain ⟨m, hm⟩ : ∃ m, m = nv % (d1 + 1) := ⟨_, rfl⟩
  rw [← hm] at a b c
  have hle : t * D ≤ R := by
    have h1 : t * D ≤ t * ((d1 + 1) * P) := Int.mul_le_mul_of_nonneg_left (by rw [hD, Int.add_mul]; omega) t0
    have h2 : t * ((d1 + 1) * P) ≤ nv * P := by
      rw [← Int.mul_assoc]
      exact Int.mul_le_mul_of_nonneg_right (by omega) (by omega)
    omega
  have hDpos : 0 < D := by
    have : 0 < d1 * P := Int.mul_pos (by omega) hP
    omega
  have ht9 : t < 1000000000 := by
    have : t * D < 1000000000 * D := by omega
    exact Int.lt_of_mul_lt_mul_right this (by omega)
  refine ⟨hle, ?_, t0, ht9⟩
  have h3 : nv * P + P ≤ (t + 1) * (d1 + 1) * P := by
    have : nv + 1 ≤ (t + 1) * (d1 + 1) := by rw [Int.add_mul]; omega
    have h := Int.mul_le_mul_of_nonneg_right this (show 0 ≤ P by omega)
    rw [Int.add_mul] at h; omega
  have h4 : (t + 1) * (d1 + 1) * P = (t + 1) * (d1 * P) + (t + 1) * P := by grind
  have h5 : (t + 1) * P ≤ d1 * P := Int.mul_le_mul_of_nonneg_right (by omega) (by omega)
  have h6 : (t + 1) * (d1 * P) ≤ (t + 1) * D := Int.mul_le_mul_of_nonneg_left (by omega) (by omega)
  have h7 : (t + 2) * D = (t + 1) * D + D := by grind
  omega
end Go.Proofs.YtdlkiklhffafhabDoor
