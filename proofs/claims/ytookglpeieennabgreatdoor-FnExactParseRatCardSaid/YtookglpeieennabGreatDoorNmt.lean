/- Decimal numerals: what the digits spell, and when a text is the numeral of an int. No program text. -/
import Derived.Test.YtookglpeieennabGreatDoorDtx
import Derived.Lib.AtoiAll
import Derived.Lib.AtoiAllCases
namespace Go.Proofs.YtookglpeieennabGreatDoor
open Go.RowKit
open Go.Lib (hid)

def isD (c : UInt8) : Prop := 48 ≤ c.toNat ∧ c.toNat ≤ 57
def valFrom (a : Nat) (l : List UInt8) : Nat := l.foldl (fun acc c => acc * 10 + (c.toNat - 48)) a
def valL (l : List UInt8) : Nat := valFrom 0 l
theorem valL_snoc (l : List UInt8) (c : UInt8) : valL (l ++ [c]) = valL l * 10 + (c.toNat - 48) := by
  simp [valL, valFrom]
theorem valFrom_ge (l : List UInt8) : ∀ a, a ≤ valFrom a l := by
  induction l with
  | nil => intro a; exact Nat.le_refl _
  | cons c r ih => intro a; have := ih (a * 10 + (c.toNat - 48)); show a ≤ valFrom (a * 10 + (c.toNat - 48)) r; omega
theorem valL_take_le (l : List UInt8) (k : Nat) : valL (l.take k) ≤ valL l := by
  have h : valL l = valFrom (valL (l.take k)) (l.drop k) := by
    unfold valL valFrom
    rw [← List.foldl_append, List.take_append_drop]
  rw [h]
  exact valFrom_ge _ _
theorem dig1_is {u : Nat} (h : u < 10) : (dig1 (48 + (u : Int))).toNat = 48 + u := by
  simp [dig1]; omega
theorem valL_dec (u : Nat) : valL (Lib.decDigits u) = u := by
  induction u using Nat.strongRecOn with
  | _ u ih =>
    by_cases h : u < 10
    · rw [dec_small h]
      show 0 * 10 + ((dig1 (48 + (u : Int))).toNat - 48) = u
      rw [dig1_is h]; omega
    · rw [dec_big h, valL_snoc, ih (u / 10) (by omega), dig1_is (by omega)]
      omega
theorem dec_digits (u : Nat) : ∀ c ∈ Lib.decDigits u, isD c := by
  induction u using Nat.strongRecOn with
  | _ u ih =>
    by_cases h : u < 10
    · rw [dec_small h]
      intro c hc
      simp at hc
      subst hc
      have := dig1_is h
      unfold isD; omega
    · rw [dec_big h]
      intro c hc
      rw [List.mem_append] at hc
      rcases hc with hc | hc
      · exact ih (u / 10) (by omega) c hc
      · simp at hc
        subst hc
        have := dig1_is (u := u % 10) (by omega)
        unfold isD; simp at this ⊢; omega
theorem dec_ne (u : Nat) : Lib.decDigits u ≠ [] := by
  intro h
  have := Lib.decDigits_length u
  have h2 := Lib.nDigits_pos u
  rw [h] at this
  simp at this; omega
theorem dec_len19 (u : Nat) (h : u ≤ 9223372036854775808) : (Lib.decDigits u).length ≤ 19 := by
  rw [Lib.decDigits_length]
  rcases Nat.lt_or_ge (Lib.nDigits u) 20 with h1 | h1
  · omega
  · have h2 : ∀ k u, k + 1 ≤ Lib.nDigits u → 10 ^ k ≤ u ∨ k = 0 := by
      intro k
      induction k with
      | zero => intro u _; exact .inr rfl
      | succ k ih =>
        intro u hu
        left
        by_cases hb : u < 10
        · rw [Lib.nDigits_small hb] at hu; omega
        · rw [Lib.nDigits_big hb] at hu
          rcases ih (u / 10) (by omega) with h3 | h3
          · rw [Nat.pow_succ]; omega
          · subst h3; omega
    rcases h2 19 u (by omega) with h3 | h3 <;> omega

theorem parse_digits (l : List UInt8) : ∀ a, (∀ c ∈ l, isD c) → valFrom a l ≤ 9223372036854775808 → Lib.parseUint10 a l = .ok (valFrom a l) := by
  induction l with
  | nil => intro a _ _; rfl
  | cons c r ih =>
    intro a hd hv
    have hc := hd c (by simp)
    have hge := valFrom_ge r (a * 10 + (c.toNat - 48))
    have hv' : valFrom (a * 10 + (c.toNat - 48)) r ≤ 9223372036854775808 := hv
    unfold isD at hc
    rw [Lib.parseUint10, if_pos hc, if_neg (by omega), if_neg (by omega)]
    exact ih _ (fun x hx => hd x (by simp [hx])) hv'
theorem mag_dec {u : Nat} (h : u ≤ 9223372036854775808) : Lib.parseMag (Lib.decDigits u) = .ok u := by
  unfold Lib.parseMag
  rw [if_neg (dec_ne u), parse_digits _ 0 (dec_digits u) (by show valL _ ≤ _; rw [valL_dec]; exact h)]
  show Lib.NumEnd.ok (valL _) = _
  rw [valL_dec]
def inR (v : Int) : Prop := -9223372036854775808 ≤ v ∧ v ≤ 9223372036854775807
theorem dec_head {u : Nat} {c : UInt8} {r : List UInt8} (h : Lib.decDigits u = c :: r) : isD c := dec_digits u c (by rw [h]; simp)
theorem atoi_itoa {v : Int} (h : inR v) : Lib.atoiAll (Lib.itoa v) = .ok v := by
  unfold inR at h
  unfold Lib.itoa
  by_cases hn : v < 0
  · rw [if_pos hn, Lib.atoiAll]
    have h45 : (45 : UInt8).toNat = 45 := rfl
    simp only [h45, or_true, if_true]
    rw [mag_dec (by omega)]
    simp only [not_true_eq_false, false_and, if_false, true_and]
    rw [if_neg (by omega)]
    congr 1
    omega
  · rw [if_neg hn]
    cases hd : Lib.decDigits v.toNat with
    | nil => exact absurd hd (dec_ne _)
    | cons c r =>
      have hc := dec_head hd
      unfold isD at hc
      rw [Lib.atoiAll_plain c r (by omega) (by omega), ← hd, mag_dec (by omega)]
      simp only [Lib.signless]
      rw [if_neg (by omega)]
      congr 1
      exact Int.toNat_of_nonneg (by omega)
theorem itoa_inj {v u : Int} (hv : inR v) (hu : inR u) (h : Lib.itoa v = Lib.itoa u) : v = u := by
  have h1 := atoi_itoa hv
  have h2 := atoi_itoa hu
  rw [h, h2] at h1
  injection h1 with h3
  exact h3.symm
end Go.Proofs.YtookglpeieennabGreatDoor
