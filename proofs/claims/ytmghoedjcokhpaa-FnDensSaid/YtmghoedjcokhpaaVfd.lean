/- Common denominators of small fractions: the mathematics. -/
import Derived.Test.YtmghoedjcokhpaaVo
import Derived.Test.YtmghoedjcokhpaaVmv
import Derived.Test.YtmghoedjcokhpaaFlm
import Derived.Deep.RegionHeld3
import Derived.Deep.DeepCutAuto
namespace Go.Proofs.Ytmghoedjcokhpaa
open Go.RowKit
open Go.Lib (hid)
set_option linter.unusedVariables false

theorem Few1.at {K : List Fq} (h : Few1 K) {k : Nat} (hk : k < K.length) : ∃ x : Rat, K[k].o = some x ∧ szq x 1 ∧ K[k] = fqo (some x) := by
  obtain ⟨x, e, hx⟩ := h _ (List.getElem_mem hk)
  exact ⟨x, by rw [e]; exact fqo_o (fitO_some (szq_fit hx (by decide))), hx, e⟩
theorem Few1.some {K : List Fq} (h : Few1 K) : ∀ o ∈ vals K, o.isSome = true := by
  intro o ho
  obtain ⟨k, hk, rfl⟩ := List.getElem_of_mem ho
  rw [vals_len] at hk
  rw [vals_at hk]
  obtain ⟨x, e, -, -⟩ := h.at hk
  rw [e]; rfl
theorem few_lcm {K : List Fq} (h : Few1 K) : ∀ k, k ≤ K.length → ((lcmN ((vals K).take k) : Nat) : Int) ≤ pw k
  | 0, _ => by simp [lcmN, pw]
  | k + 1, hk => by
    have ih := few_lcm h k (by omega)
    have hv : k < (vals K).length := by rw [vals_len]; omega
    obtain ⟨x, e, hx, -⟩ := h.at (k := k) (by omega)
    have e2 : (vals K)[k] = some x := by rw [vals_at (by omega)]; exact e
    have hd : (ndp (some x)).2 = x.den := by simp [ndp, qd]
    rw [lcmN_take hv, e2, hd]
    have h0 : 0 < lcmN ((vals K).take k) := lcmN_pos fun o ho => h.some o (List.mem_of_mem_take ho)
    have h1 : Nat.lcm (lcmN ((vals K).take k)) x.den ≤ lcmN ((vals K).take k) * x.den := Nat.le_of_dvd (Nat.mul_pos h0 x.den_pos) (Nat.lcm_dvd_mul _ _)
    have h2 : ((lcmN ((vals K).take k) * x.den : Nat) : Int) ≤ pw k * pw 1 := by
      have h3 := Int.mul_le_mul ih (Int.le_of_lt hx.2) (Int.natCast_nonneg _) (Int.le_of_lt (pw_pos k))
      simpa using h3
    rw [pw_add k 1]
    omega
theorem nat_gzl {z : Int} (h0 : 0 ≤ z) (h : z < pw 24) : gzl z = rep z.toNat := by
  have := pw24_60
  unfold gzl
  rw [show ((z.natAbs : Nat) : Int) = z by omega, capped_of (by omega)]
theorem gcdN_dvd (os : List (Option Rat)) (k : Nat) : gcdN os ∣ gcdN (os.take k) := by
  have : gcdN os = Nat.gcd (gcdN (os.take k)) (gcds ((os.drop k).map ndp)) := by
    rw [← gcd_fold]
    unfold gcdN
    rw [← List.foldl_append, List.take_append_drop]
  rw [this]
  exact Nat.gcd_dvd_left _ _
theorem few_M {K : List Fq} (h : Few1 K) (hl : K.length = 3) : 0 < lcmN (vals K) ∧ ((lcmN (vals K) : Nat) : Int) ≤ pw 3 ∧ cdenO (vals K) = rep (lcmN (vals K)) ∧ ngcdO (vals K) = rep (gcdN (vals K)) := by
  have h0 := lcmN_pos h.some
  have h1 := few_lcm h 3 (by omega)
  rw [List.take_of_length_le (by rw [vals_len]; omega)] at h1
  have h24 : pw 3 < pw 24 := by decide
  have e := cden_yes h.some (by omega)
  have hne : cdenO (vals K) ≠ [] := by
    rw [e]
    intro hc
    have := val_rep (lcmN (vals K))
    rw [hc] at this
    simp [val] at this
    omega
  exact ⟨h0, h1, e, ngcd_yes hne⟩
/-- A natural as a fraction. -/
theorem nat_rval {M : Nat} (h : (M : Int) < pw 24) : rval false (rep M) [1] = some ((M : Int) : Rat) := by
  have hl : (rep M).length ≤ 24 := (Can_len (Can_rep M) (k := 24)).2 (by rw [val_rep]; exact h)
  have n1 : nok (rep M) = true := nok_iff.2 ⟨by omega, Can_rep M⟩
  have hr : rok false (rep M) [1] = true := rok_iff.2 ⟨bok_iff.2 ⟨n1, fun e => by cases e⟩, by decide, by decide, hl, by decide, by rw [show val [1] = 1 by decide]; unfold G; simp⟩
  obtain ⟨x, e, hn, hd, -⟩ := rval_yes hr
  rw [val_rep] at hn
  have hn2 : x.num = (M : Int) := hn
  have hd2 : x.den = 1 := by
    have h1 : (x.den : Int) = val [1] := hd
    rw [show val [1] = 1 by decide] at h1
    omega
  rw [e]
  congr 1
  exact Rat.ext (by rw [hn2]; rfl) (by rw [hd2]; rfl)
/-- A fraction by a multiple of its denominator. -/
theorem int_divInt (z : Int) : ((z : Int) : Rat) = Rat.divInt z 1 := (Rat.num_divInt_den (z : Rat)).symm
theorem mul_mult {x : Rat} {t M : Nat} (h : M = x.den * t) : x * ((M : Int) : Rat) = ((x.num * t : Int) : Rat) := by
  subst h
  have hd : (x.den : Int) ≠ 0 := by have := x.den_pos; omega
  rw [int_divInt, int_divInt (x.num * t)]
  have h1 : x * Rat.divInt ((x.den * t : Nat) : Int) 1 = Rat.divInt x.num x.den * Rat.divInt ((x.den * t : Nat) : Int) 1 := by rw [Rat.num_divInt_den]
  rw [h1, Rat.divInt_mul_divInt]
  rw [show x.num * ((x.den * t : Nat) : Int) = (x.den : Int) * (x.num * t) by rw [Int.natCast_mul]; grind]
  exact Rat.divInt_mul_left hd
theorem isint_v {w : World} {s : Bool} {v u : Value} {x : Rat} {p : Bool} (h : RA w s v u (some x)) (hp : decide (x.den = 1) = p) : Calls Try.prog 43 #[.agg #[.bool s, v, u]] w (RetB (.bool p) w) := by
  have hf := h.fitO x rfl
  obtain ⟨A, D, r, e⟩ := h
  obtain ⟨-, -, e2⟩ := rval_lists e
  have hr : rok s A D = true := by rw [rok_isSome, e]; rfl
  have hh := impl_RatIsInt s v u A D w r
  have f2 := hf.2
  rw [nat_gzl (by omega) f2] at e2
  rw [hr, Bool.true_and, show decide (D = [1]) = p from by rw [← hp, ← e2]; exact decide_eq_decide.2 rep_one] at hh
  exact hh
/-- What the law asks of element k: the product with the common denominator, its numerator's remainder. -/
theorem few_elem {K : List Fq} (h : Few1 K) (hl : K.length = 3) {k : Nat} (hk : k < K.length) {x : Rat} (hx : K[k].o = some x) (hs : szq x 1) :
    ∃ z : Int, bq mulF (some x) (rval false (rep (lcmN (vals K))) [1]) = some (z : Rat) ∧ fit (z : Rat) ∧ (gcdN (vals K) = 0 → x.num = 0) ∧ (0 < gcdN (vals K) → z.natAbs % gcdN (vals K) = 0) := by
  obtain ⟨m0, m1, -, -⟩ := few_M h hl
  have h24 : pw 3 < pw 24 := by decide
  have hv : k < (vals K).length := by rw [vals_len]; exact hk
  have e2 : (vals K)[k] = some x := by rw [vals_at hk]; exact hx
  have hd := lcmN_den hv
  rw [e2, show (ndp (some x)).2 = x.den by simp [ndp, qd]] at hd
  obtain ⟨t, ht⟩ := hd
  have hg : gcdN (vals K) ∣ x.num.natAbs := by
    have h1 : gcdN ((vals K).take (k + 1)) ∣ x.num.natAbs := by
      rw [gcdN_take hv, e2, show (ndp (some x)).1 = x.num.natAbs by simp [ndp, qn]]
      exact Nat.gcd_dvd_right _ _
    exact Nat.dvd_trans (gcdN_dvd _ _) h1
  have hm : x * ((lcmN (vals K) : Int) : Rat) = ((x.num * t : Int) : Rat) := mul_mult ht
  have hM : szq ((lcmN (vals K) : Int) : Rat) 4 := ⟨by
    show (((lcmN (vals K) : Int)).natAbs : Int) < pw 4
    have : pw 3 < pw 4 := by decide
    omega, by show ((1 : Nat) : Int) < pw 4; decide⟩
  have hf : fit ((x.num * t : Int) : Rat) := by
    rw [← hm]
    exact szq_fit (szq_mul hs hM) (by decide)
  refine ⟨x.num * t, ?_, hf, fun h0 => ?_, fun _ => ?_⟩
  · rw [nat_rval (by omega), bq_some]
    unfold mulF
    rw [hm]
    exact capF_yes hf
  · rw [h0] at hg
    have := Nat.eq_zero_of_zero_dvd hg
    omega
  · rw [Int.natAbs_mul]
    exact Nat.mod_eq_zero_of_dvd (Nat.dvd_trans hg (Nat.dvd_mul_right _ _))
end Go.Proofs.Ytmghoedjcokhpaa
