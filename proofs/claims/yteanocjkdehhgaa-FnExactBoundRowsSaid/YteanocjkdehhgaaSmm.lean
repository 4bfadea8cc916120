/- Merged: Smp Smr. -/
import Derived.Test.YteanocjkdehhgaaFra
/- The simplest fraction of an interval, and how deep its search goes: arithmetic of natural numbers. No program text. -/
namespace Go.Proofs.Yteanocjkdehhgaa
set_option linter.unusedVariables false

/-- The simplest fraction from a / b to c / d: numerator and denominator. -/
def sst (a b c d : Nat) : Nat × Nat :=
  if h : b = 0 ∨ d = 0 ∨ a % b = 0 ∨ a / b < c / d then (if a % b = 0 then a / b else a / b + 1, 1)
  else (a / b * (sst d (c % d) b (a % b)).1 + (sst d (c % d) b (a % b)).2, (sst d (c % d) b (a % b)).1)
termination_by b + d
decreasing_by
  all_goals
    have h1 := Nat.mod_lt a (show 0 < b by omega)
    have h2 := Nat.mod_lt c (show 0 < d by omega)
    omega
theorem sst_stop {a b c d : Nat} (h : a % b = 0 ∨ a / b < c / d) : sst a b c d = (if a % b = 0 then a / b else a / b + 1, 1) := by
  rw [sst, dif_pos (.inr (.inr h))]
theorem sst_go {a b c d : Nat} (hb : 0 < b) (hd : 0 < d) (h : ¬ (a % b = 0 ∨ a / b < c / d)) : sst a b c d = (a / b * (sst d (c % d) b (a % b)).1 + (sst d (c % d) b (a % b)).2, (sst d (c % d) b (a % b)).1) := by
  rw [sst, dif_neg]
  rintro (e | e | e)
  · omega
  · omega
  · exact h e

structure Best (a b c d : Nat) (r : Nat × Nat) : Prop where
  p : 0 < r.1
  q : 0 < r.2
  lo : a * r.2 ≤ r.1 * b
  hi : r.1 * d ≤ c * r.2
  co : Nat.gcd r.1 r.2 = 1
  mi : ∀ m n, 0 < n → a * n ≤ m * b → m * d ≤ c * n → r.1 ≤ m ∧ r.2 ≤ n
/-- If the search goes on, both ends have the same floor. -/
theorem same_floor {a b c d : Nat} (hb : 0 < b) (hd : 0 < d) (hle : a * d ≤ c * b) (h : ¬ a / b < c / d) : c / d = a / b := by
  have h1 : a / b * b ≤ a := Nat.div_mul_le_self a b
  have h2 : a / b * d * b ≤ c * b := by
    have := Nat.mul_le_mul_right d h1
    rw [Nat.mul_right_comm]; omega
  have h3 : a / b * d ≤ c := Nat.le_of_mul_le_mul_right h2 hb
  have h4 : a / b ≤ c / d := (Nat.le_div_iff_mul_le hd).2 h3
  omega
theorem go_parts {a b c d : Nat} (hb : 0 < b) (hd : 0 < d) (hle : a * d ≤ c * b) (h : ¬ (a % b = 0 ∨ a / b < c / d)) : a = a / b * b + a % b ∧ c = a / b * d + c % d ∧ 0 < a % b ∧ 0 < c % d ∧ a % b < b ∧ c % d < d ∧ d * (a % b) ≤ b * (c % d) := by
  have hs := same_floor hb hd hle (fun e => h (.inr e))
  have e1 : a = a / b * b + a % b := by have := Nat.div_add_mod a b; rw [Nat.mul_comm] at this; omega
  have e2 : c = a / b * d + c % d := by have := Nat.div_add_mod c d; rw [hs, Nat.mul_comm] at this; omega
  have h1 : 0 < a % b := by have : a % b ≠ 0 := fun e => h (.inl e); omega
  have h3 := Nat.mod_lt a hb
  have h4 := Nat.mod_lt c hd
  obtain ⟨f, hf⟩ : ∃ f, f = a / b := ⟨_, rfl⟩
  obtain ⟨v, hv⟩ : ∃ v, v = a % b := ⟨_, rfl⟩
  obtain ⟨u, hu⟩ : ∃ u, u = c % d := ⟨_, rfl⟩
  rw [← hf, ← hv] at e1
  rw [← hf, ← hu] at e2
  rw [← hv] at h1 h3
  rw [← hu] at h4
  have h5 : d * v ≤ b * u := by
    rw [e1, e2, Nat.add_mul, Nat.add_mul, Nat.mul_right_comm] at hle
    have c1 := Nat.mul_comm v d
    have c2 := Nat.mul_comm u b
    omega
  have h6 : 0 < u := by
    rcases Nat.eq_zero_or_pos u with e | e
    · subst e
      have := Nat.mul_pos hd h1
      omega
    · exact e
  rw [← hf, ← hv, ← hu]
  exact ⟨e1, e2, h1, h6, h3, h4, h5⟩
theorem sst_best : ∀ (n a b c d : Nat), b + d ≤ n → 0 < a → 0 < b → 0 < d → a * d ≤ c * b → Best a b c d (sst a b c d) := by
  intro n
  induction n with
  | zero => intro a b c d h1 h2 h3; omega
  | succ n ih =>
    intro a b c d hn ha hb hd hle
    by_cases h : a % b = 0 ∨ a / b < c / d
    · rw [sst_stop h]
      by_cases h0 : a % b = 0
      · rw [if_pos h0]
        have e1 : a = b * (a / b) := by have := Nat.div_add_mod a b; omega
        obtain ⟨f, hf⟩ : ∃ f, f = a / b := ⟨_, rfl⟩
        rw [← hf] at e1 ⊢
        have hf0 : 0 < f := by
          rcases Nat.eq_zero_or_pos f with e | e
          · subst e; omega
          · exact e
        refine ⟨hf0, Nat.one_pos, ?_, ?_, Nat.gcd_one_right _, ?_⟩
        · show a * 1 ≤ f * b
          rw [Nat.mul_comm f b]; omega
        · show f * d ≤ c * 1
          rw [Nat.mul_one]
          refine Nat.le_of_mul_le_mul_right (c := b) ?_ hb
          rw [e1, Nat.mul_comm b f, Nat.mul_right_comm] at hle
          exact hle
        · intro m k hk hm _
          refine ⟨?_, hk⟩
          show f ≤ m
          have h2 : f * k * b ≤ m * b := by rw [e1, Nat.mul_comm b f, Nat.mul_right_comm] at hm; exact hm
          have h3 := Nat.le_of_mul_le_mul_right h2 hb
          have h4 : f * 1 ≤ f * k := Nat.mul_le_mul_left f hk
          omega
      · rw [if_neg h0]
        have hlt : a / b < c / d := h.resolve_left h0
        have e1 := Nat.div_add_mod a b
        have e2 := Nat.mod_lt a hb
        obtain ⟨f, hf⟩ : ∃ f, f = a / b := ⟨_, rfl⟩
        rw [← hf] at e1 hlt ⊢
        refine ⟨Nat.succ_pos _, Nat.one_pos, ?_, ?_, Nat.gcd_one_right _, ?_⟩
        · show a * 1 ≤ (f + 1) * b
          rw [Nat.add_mul, Nat.mul_comm f b]; omega
        · show (f + 1) * d ≤ c * 1
          have h9 : (f + 1) * d ≤ c := (Nat.le_div_iff_mul_le hd).1 hlt
          omega
        · intro m k hk hm _
          refine ⟨?_, hk⟩
          show f + 1 ≤ m
          rcases Nat.lt_or_ge f m with e | e
          · exact e
          · have h1 := Nat.mul_le_mul_right b e
            have h2 : a * 1 ≤ a * k := Nat.mul_le_mul_left a hk
            rw [Nat.mul_comm f b] at h1
            omega
    · rw [sst_go hb hd h]
      obtain ⟨e1, e2, h1, h2, h3, h4, h5⟩ := go_parts hb hd hle h
      have B := ih d (c % d) b (a % b) (by omega) hd h2 h1 h5
      obtain ⟨r, hr⟩ : ∃ r, r = sst d (c % d) b (a % b) := ⟨_, rfl⟩
      rw [← hr] at B ⊢
      clear hr hle h
      obtain ⟨f, hf⟩ : ∃ f, f = a / b := ⟨_, rfl⟩
      obtain ⟨v, hv⟩ : ∃ v, v = a % b := ⟨_, rfl⟩
      obtain ⟨u, hu⟩ : ∃ u, u = c % d := ⟨_, rfl⟩
      rw [← hf, ← hv] at e1
      rw [← hf, ← hu] at e2
      rw [← hv, ← hu] at B
      rw [← hf]
      rw [← hv] at h1 h3
      rw [← hu] at h2 h4
      clear hf hv hu ih
      subst e1 e2
      obtain ⟨p0, q0, lo, hi, co, mi⟩ := B
      obtain ⟨p, q⟩ := r
      simp only at p0 q0 lo hi co mi ⊢
      refine ⟨?_, p0, ?_, ?_, ?_, ?_⟩
      · show 0 < f * p + q
        omega
      · show (f * b + v) * p ≤ (f * p + q) * b
        rw [Nat.add_mul, Nat.add_mul, Nat.mul_right_comm]
        have c1 := Nat.mul_comm v p
        have c2 := Nat.mul_comm q b
        omega
      · show (f * p + q) * d ≤ (f * d + u) * p
        rw [Nat.add_mul, Nat.add_mul, Nat.mul_right_comm]
        have c1 := Nat.mul_comm q d
        have c2 := Nat.mul_comm u p
        omega
      · show Nat.gcd (f * p + q) p = 1
        rw [Nat.add_comm, Nat.gcd_add_mul_right_left, Nat.gcd_comm]
        exact co
      · intro m n hn0 hm1 hm2
        show f * p + q ≤ m ∧ p ≤ n
        have g1 : f * n ≤ m := by
          refine Nat.le_of_mul_le_mul_right (c := b) ?_ (by omega)
          rw [Nat.add_mul, Nat.mul_right_comm] at hm1
          omega
        obtain ⟨k, rfl⟩ := Nat.exists_eq_add_of_le g1
        have g2 : v * n ≤ k * b := by
          rw [Nat.add_mul, Nat.add_mul, Nat.mul_right_comm] at hm1
          omega
        have g3 : k * d ≤ u * n := by
          rw [Nat.add_mul, Nat.add_mul, Nat.mul_right_comm] at hm2
          omega
        have g4 : 0 < k := by
          rcases Nat.eq_zero_or_pos k with e | e
          · subst e
            have := Nat.mul_pos h1 hn0
            omega
          · exact e
        have := mi n k g4 (by rw [Nat.mul_comm d, Nat.mul_comm n]; omega) (by rw [Nat.mul_comm n, Nat.mul_comm b]; omega)
        have c1 := Nat.mul_le_mul_left f this.1
        omega

/-- The search ends within k steps. -/
def deep : Nat → Nat → Nat → Nat → Nat → Prop
  | 0, a, b, c, d => a % b = 0 ∨ a / b < c / d
  | k + 1, a, b, c, d => (a % b = 0 ∨ a / b < c / d) ∨ deep k d (c % d) b (a % b)
theorem half_mod {c d : Nat} (hd : 0 < d) (h : d ≤ c) : 2 * (c % d) ≤ c := by
  have h1 := Nat.div_add_mod c d
  have h2 := Nat.mod_lt c hd
  have h3 : 1 ≤ c / d := (Nat.le_div_iff_mul_le hd).2 (by omega)
  have h4 : d * 1 ≤ d * (c / d) := Nat.mul_le_mul_left d h3
  omega
theorem half_mul {c d k : Nat} (hd : 0 < d) (h : d ≤ c) (hk : c * d < 2 ^ (k + 1)) : d * (c % d) < 2 ^ k := by
  have h1 := Nat.mul_le_mul_left d (half_mod hd h)
  have h2 : d * (2 * (c % d)) = 2 * (d * (c % d)) := by rw [← Nat.mul_assoc, Nat.mul_comm d 2, Nat.mul_assoc]
  rw [Nat.mul_comm c d] at hk
  rw [Nat.pow_succ] at hk
  omega
theorem deep_of : ∀ (k a b c d : Nat), 0 < b → 0 < d → a * d ≤ c * b → b ≤ a → d ≤ c → a * b < 2 ^ k → c * d < 2 ^ k → deep k a b c d := by
  intro k
  induction k with
  | zero =>
    intro a b c d hb hd hle hba hdc h1 h2
    have := Nat.mul_pos (show 0 < a by omega) hb
    omega
  | succ k ih =>
    intro a b c d hb hd hle hba hdc h1 h2
    by_cases h : a % b = 0 ∨ a / b < c / d
    · exact .inl h
    · obtain ⟨e1, e2, g1, g2, g3, g4, g5⟩ := go_parts hb hd hle h
      exact .inr (ih d (c % d) b (a % b) g2 g1 g5 (Nat.le_of_lt g4) (Nat.le_of_lt g3) (half_mul hd hdc h2) (half_mul hb hba h1))
theorem deep_first {k a b c d : Nat} (hb : 0 < b) (hd : 0 < d) (hle : a * d ≤ c * b) (h1 : a * b < 2 ^ k) (h2 : c * d < 2 ^ k) : deep (k + 1) a b c d := by
  by_cases h : a % b = 0 ∨ a / b < c / d
  · exact .inl h
  · obtain ⟨e1, e2, g1, g2, g3, g4, g5⟩ := go_parts hb hd hle h
    refine .inr (deep_of k d (c % d) b (a % b) g2 g1 g5 (Nat.le_of_lt g4) (Nat.le_of_lt g3) ?_ ?_)
    · have := Nat.mul_le_mul_left d (Nat.mod_le c d)
      rw [Nat.mul_comm c d] at h2
      omega
    · have := Nat.mul_le_mul_left b (Nat.mod_le a b)
      rw [Nat.mul_comm a b] at h1
      omega
theorem pw_two : ∀ n : Nat, pw n ≤ (((2 ^ 30) ^ n : Nat) : Int) := by
  intro n
  induction n with
  | zero => decide
  | succ n ih =>
    rw [Nat.pow_succ]
    obtain ⟨z, hz⟩ : ∃ z, z = (2 ^ 30) ^ n := ⟨_, rfl⟩
    rw [← hz] at ih ⊢
    show 1000000000 * pw n ≤ ((z * 2 ^ 30 : Nat) : Int)
    have := pw_pos n
    omega
theorem two_mul_lt {x y n : Nat} (hx : x ≤ (2 ^ 30) ^ n) (hy : y < (2 ^ 30) ^ n) : x * y < 2 ^ (60 * n) := by
  have e : 2 ^ (60 * n) = (2 ^ 30) ^ n * (2 ^ 30) ^ n := by
    rw [← Nat.pow_mul, ← Nat.pow_add]
    congr 1
    omega
  rw [e]
  have h0 : 0 < (2 ^ 30) ^ n := by omega
  exact Nat.lt_of_le_of_lt (Nat.mul_le_mul_right y hx) (Nat.mul_lt_mul_of_pos_left hy h0)
theorem mul_lt_pow {x y n N : Nat} (hN : 60 * n ≤ N) (hx : x ≤ (2 ^ 30) ^ n) (hy : y < (2 ^ 30) ^ n) : x * y < 2 ^ N := Nat.lt_of_lt_of_le (two_mul_lt hx hy) (Nat.pow_le_pow_right (by decide) hN)
theorem deep_all {a b c d n N : Nat} (hN : 60 * n ≤ N) (hb : 0 < b) (hd : 0 < d) (hle : a * d ≤ c * b) (h1 : (a : Int) < pw n) (h2 : (b : Int) < pw n) (h3 : (c : Int) < pw n) (h4 : (d : Int) < pw n) : deep (N + 1) a b c d := by
  have key : ∀ x y : Nat, (x : Int) < pw n → (y : Int) < pw n → x * y < 2 ^ N := by
    intro x y hx hy
    have p := pw_two n
    exact mul_lt_pow hN (Int.ofNat_le.1 (Int.le_trans (Int.le_of_lt hx) p)) (Int.ofNat_lt.1 (Int.lt_of_lt_of_le hy p))
  exact deep_first hb hd hle (key a b h1 h2) (key c d h3 h4)
/-- Fractions of at most 24 limbs: 4000 steps are enough. -/
theorem deep_4000 {a b c d : Nat} (hb : 0 < b) (hd : 0 < d) (hle : a * d ≤ c * b) (h1 : (a : Int) < pw 24) (h2 : (b : Int) < pw 24) (h3 : (c : Int) < pw 24) (h4 : (d : Int) < pw 24) : deep 4000 a b c d :=
  deep_all (n := 24) (N := 3999) (by decide) hb hd hle h1 h2 h3 h4
end Go.Proofs.Yteanocjkdehhgaa

/- Floors, ceilings and the simplest fraction, as values. No program text. -/
namespace Go.Proofs.Yteanocjkdehhgaa
open Go.RowKit
open Go.Lib (hid)
set_option linter.unusedVariables false

theorem num_pos' {x : Rat} : 0 < x.num ↔ 0 < x := by
  rw [Rat.lt_iff, Rat.zero_num, Rat.zero_den]
  omega
theorem lt_le {x y : Rat} (h : 0 < x) (h' : x ≤ y) : 0 < y := by
  by_cases e : 0 < y
  · exact e
  · exact absurd (Rat.le_trans h' (Rat.not_lt.1 e)) (Rat.not_le.2 h)
def flF (x : Rat) : Rat := ((x.floor : Int) : Rat)
def ceF (x : Rat) : Rat := ((x.ceil : Int) : Rat)
theorem flF_num (x : Rat) : (flF x).num = x.num / x.den := by unfold flF; rw [Rat.num_intCast, Rat.floor_def]
theorem flF_den (x : Rat) : (flF x).den = 1 := Rat.den_intCast _
theorem fit_int {z : Int} (h : (z.natAbs : Int) < pw 24) : fit ((z : Int) : Rat) := ⟨by rw [Rat.num_intCast]; exact h, by rw [Rat.den_intCast]; decide⟩
theorem fit_fl {x : Rat} (h : fit x) : fit (flF x) := by
  refine fit_int ?_
  rw [Rat.floor_def]
  have := Int.natAbs_ediv_le_natAbs x.num x.den
  have := h.1
  omega
theorem fit_neg {x : Rat} (h : fit x) : fit (-x) := ⟨by rw [Rat.neg_num, Int.natAbs_neg]; exact h.1, h.2⟩
theorem ce_neg (x : Rat) : ceF x = -flF (-x) := by
  unfold ceF flF
  rw [Rat.ceil_eq_neg_floor_neg, Rat.intCast_neg]
theorem fit_ce {x : Rat} (h : fit x) : fit (ceF x) := by rw [ce_neg]; exact fit_neg (fit_fl (fit_neg h))

/-- A fraction of natural numbers. -/
def frq (r : Nat × Nat) : Rat := Rat.divInt r.1 r.2
theorem frq_parts {r : Nat × Nat} (hq : 0 < r.2) (hc : Nat.gcd r.1 r.2 = 1) : (frq r).num = r.1 ∧ (frq r).den = r.2 := by
  have e : frq r = ⟨(r.1 : Int), r.2, by omega, hc⟩ := Rat.mk_eq_divInt.symm
  rw [e]
  exact ⟨rfl, rfl⟩
theorem frq_of {x : Rat} (h : 0 < x) : x = frq (x.num.toNat, x.den) := by
  have h1 : 0 < x.num := num_pos'.2 h
  unfold frq
  show x = Rat.divInt ((x.num.toNat : Nat) : Int) (x.den : Int)
  rw [Int.toNat_of_nonneg (by omega), Rat.num_divInt_den]
/-- The simplest fraction from x to y. -/
def sqF (x y : Rat) : Rat := frq (sst x.num.toNat x.den y.num.toNat y.den)
structure Ends (x y : Rat) : Prop where
  a : 0 < x.num.toNat
  b : 0 < x.den
  d : 0 < y.den
  le : x.num.toNat * y.den ≤ y.num.toNat * x.den
theorem ends_of {x y : Rat} (h : 0 < x) (hle : x ≤ y) : Ends x y := by
  have h1 : 0 < x.num := num_pos'.2 h
  have h2 : 0 < y.num := num_pos'.2 (lt_le h hle)
  refine ⟨by omega, x.den_pos, y.den_pos, ?_⟩
  have := (Rat.le_iff _ _).1 hle
  have h3 : ((x.num.toNat * y.den : Nat) : Int) ≤ ((y.num.toNat * x.den : Nat) : Int) := by
    rw [Int.natCast_mul, Int.natCast_mul, Int.toNat_of_nonneg (by omega), Int.toNat_of_nonneg (by omega)]
    exact this
  exact Int.ofNat_le.1 h3
theorem Ends.best {x y : Rat} (h : Ends x y) : Best x.num.toNat x.den y.num.toNat y.den (sst x.num.toNat x.den y.num.toNat y.den) := sst_best _ _ _ _ _ (Nat.le_refl _) h.a h.b h.d h.le
theorem sqF_parts {x y : Rat} (h : Ends x y) : (sqF x y).num = (sst x.num.toNat x.den y.num.toNat y.den).1 ∧ (sqF x y).den = (sst x.num.toNat x.den y.num.toNat y.den).2 := frq_parts h.best.q h.best.co
theorem sqF_fit {x y : Rat} (h : Ends x y) (hx : fit x) : fit (sqF x y) := by
  obtain ⟨e1, e2⟩ := sqF_parts h
  have := h.best.mi x.num.toNat x.den h.b (Nat.le_refl _) h.le
  have f1 := hx.1
  have f2 := hx.2
  exact ⟨by rw [e1]; omega, by rw [e2]; omega⟩
theorem sqF_pos {x y : Rat} (h : Ends x y) : 0 < sqF x y := by
  have := h.best.p
  rw [← num_pos', (sqF_parts h).1]
  omega
theorem ceil_parts (x : Rat) (h : 0 < x) : x.ceil = if x.num.toNat % x.den = 0 then ((x.num.toNat / x.den : Nat) : Int) else ((x.num.toNat / x.den : Nat) : Int) + 1 := by
  have h1 : 0 < x.num := num_pos'.2 h
  have hd : 0 < x.den := x.den_pos
  have e : x = frq (x.num.toNat, x.den) := frq_of h
  obtain ⟨a, ha⟩ : ∃ a, a = x.num.toNat := ⟨_, rfl⟩
  obtain ⟨b, hb⟩ : ∃ b, b = x.den := ⟨_, rfl⟩
  have hn : x.num = a := by omega
  rw [Rat.ceil_eq_neg_floor_neg, Rat.floor_def, Rat.neg_num, Rat.neg_den, ← ha, ← hb, hn]
  have d1 := Nat.div_add_mod a b
  have d2 := Nat.mod_lt a (show 0 < b by omega)
  have d1' : (b : Int) * ((a / b : Nat) : Int) + ((a % b : Nat) : Int) = a := by
    rw [← Int.natCast_mul, ← Int.natCast_add, d1]
  by_cases h0 : a % b = 0
  · rw [if_pos h0]
    rw [h0] at d1'
    have : (-(a : Int)) / b = -((a / b : Nat) : Int) := by
      rw [show (-(a : Int)) = -((a / b : Nat) : Int) * b by rw [Int.neg_mul, Int.mul_comm]; omega]
      exact Int.mul_ediv_cancel _ (by omega)
    omega
  · rw [if_neg h0]
    have : (-(a : Int)) / b = -((a / b : Nat) : Int) - 1 := by
      rw [show (-(a : Int)) = ((b : Int) - ((a % b : Nat) : Int)) + b * (-((a / b : Nat) : Int) - 1) by
        rw [Int.mul_sub, Int.mul_neg]; omega]
      rw [Int.add_mul_ediv_left _ _ (by omega), Int.ediv_eq_zero_of_lt (by omega) (by omega)]
      omega
    omega
theorem floor_nat (x : Rat) (h : 0 < x) : x.floor = ((x.num.toNat / x.den : Nat) : Int) := by
  have h1 : 0 < x.num := num_pos'.2 h
  rw [Rat.floor_def, Int.natCast_ediv, Int.toNat_of_nonneg (by omega)]
theorem int_le_iff (z : Int) (y : Rat) : ((z : Int) : Rat) ≤ y ↔ z ≤ y.floor := Rat.le_floor_iff.symm
/-- The search stops exactly if the next integer is in the interval. -/
theorem sq_stop {x y : Rat} (h : 0 < x) (hle : x ≤ y) : (x.num.toNat % x.den = 0 ∨ x.num.toNat / x.den < y.num.toNat / y.den) ↔ ceF x ≤ y := by
  have hy : 0 < y := lt_le h hle
  have E := ends_of h hle
  unfold ceF
  rw [int_le_iff, ceil_parts x h, floor_nat y hy]
  have mono : x.num.toNat / x.den ≤ y.num.toNat / y.den := by
    have h1 := Rat.floor_monotone hle
    rw [floor_nat x h, floor_nat y hy] at h1
    omega
  by_cases h0 : x.num.toNat % x.den = 0
  · simp only [h0, if_true, true_or, true_iff]
    omega
  · simp only [h0, if_false, false_or]
    omega
theorem sq_base {x y : Rat} (h : 0 < x) (hle : x ≤ y) (hc : ceF x ≤ y) : sqF x y = ceF x := by
  have hb := (sq_stop h hle).2 hc
  unfold sqF frq ceF
  rw [sst_stop hb, ceil_parts x h]
  by_cases h0 : x.num.toNat % x.den = 0
  · rw [if_pos h0, if_pos h0]
    show Rat.divInt _ ((1 : Nat) : Int) = _
    rw [Rat.divInt_ofNat, Rat.mkRat_one]
  · rw [if_neg h0, if_neg h0]
    show Rat.divInt _ ((1 : Nat) : Int) = _
    rw [Rat.divInt_ofNat, Rat.mkRat_one, Int.natCast_add]
    rfl
theorem sub_floor (y : Rat) (f : Nat) (c d u : Nat) (hd : 0 < d) (hy : y = frq (c, d)) (hc : c = f * d + u) : y - ((f : Int) : Rat) = frq (u, d) := by
  have e1 : ((f : Int) : Rat) = Rat.divInt (f : Int) ((1 : Nat) : Int) := by rw [Rat.divInt_ofNat, Rat.mkRat_one]
  rw [hy, e1]
  unfold frq
  rw [Rat.divInt_sub_divInt _ _ (by omega) (by decide)]
  congr 1
  · rw [hc]
    push_cast
    omega
  · push_cast
    omega
theorem one_div_frq (u d : Nat) : 1 / frq (u, d) = frq (d, u) := by
  unfold frq
  rw [Rat.div_def, Rat.one_mul, Rat.inv_divInt]
theorem red_nat {x : Rat} (h : 0 < x) : Nat.gcd x.num.toNat x.den = 1 ∧ x.num.natAbs = x.num.toNat := by
  have h1 : 0 < x.num := num_pos'.2 h
  have := x.reduced
  rw [show x.num.natAbs = x.num.toNat by omega] at this
  exact ⟨this, by omega⟩
theorem frq_nz (r : Nat × Nat) (h : 0 < (frq r).num) : frq r ≠ 0 := fun e => by rw [e] at h; exact absurd h (by decide)
structure GoOn (f : Nat) (x y : Rat) (z : Rat) (a b c d : Nat) : Prop where
  f1 : fit (y - ((f : Int) : Rat))
  f2 : fit (x - ((f : Int) : Rat))
  n1 : y - ((f : Int) : Rat) ≠ 0
  n2 : x - ((f : Int) : Rat) ≠ 0
  g1 : fit (1 / (y - ((f : Int) : Rat)))
  g2 : fit (1 / (x - ((f : Int) : Rat)))
  p0 : 0 < 1 / (y - ((f : Int) : Rat))
  le : 1 / (y - ((f : Int) : Rat)) ≤ 1 / (x - ((f : Int) : Rat))
  a' : (1 / (y - ((f : Int) : Rat))).num.toNat = d
  b' : (1 / (y - ((f : Int) : Rat))).den = c % d
  c' : (1 / (x - ((f : Int) : Rat))).num.toNat = b
  d' : (1 / (x - ((f : Int) : Rat))).den = a % b
  nz : sqF (1 / (y - ((f : Int) : Rat))) (1 / (x - ((f : Int) : Rat))) ≠ 0
  hf : fit (1 / sqF (1 / (y - ((f : Int) : Rat))) (1 / (x - ((f : Int) : Rat))))
  eq : ((f : Int) : Rat) + 1 / sqF (1 / (y - ((f : Int) : Rat))) (1 / (x - ((f : Int) : Rat))) = z
theorem sq_go_nat {x y : Rat} {a b c d : Nat} (h : 0 < x) (hle : x ≤ y) (ha : x.num.toNat = a) (hb : x.den = b) (hc : y.num.toNat = c) (hd : y.den = d) (hx : fit x) (hy : fit y)
    (hgo : ¬ (a % b = 0 ∨ a / b < c / d)) : GoOn (a / b) x y (sqF x y) a b c d := by
  have hy0 : 0 < y := lt_le h hle
  have E := ends_of h hle
  have E1 := E.a
  have E2 := E.b
  have E3 := E.d
  have E4 := E.le
  rw [ha] at E1
  rw [hb] at E2
  rw [hd] at E3
  rw [ha, hb, hc, hd] at E4
  have ex := frq_of h
  have ey := frq_of hy0
  obtain ⟨cx, nx⟩ := red_nat h
  obtain ⟨cy, ny⟩ := red_nat hy0
  obtain ⟨fx1, fx2⟩ := hx
  obtain ⟨fy1, fy2⟩ := hy
  have hs : sqF x y = frq (sst x.num.toNat x.den y.num.toNat y.den) := rfl
  rw [nx, ha] at fx1
  rw [ny, hc] at fy1
  rw [hb] at fx2
  rw [hd] at fy2
  rw [ha, hb] at ex cx
  rw [hc, hd] at ey cy
  rw [ha, hb, hc, hd, sst_go E2 E3 hgo] at hs
  obtain ⟨e1, e2, h1, h2, h3, h4, h5⟩ := go_parts E2 E3 E4 hgo
  have B := sst_best _ _ _ _ _ (Nat.le_refl _) E3 h2 h1 h5
  have hma := B.mi d (c % d) h2 (Nat.le_refl _) h5
  have cu : Nat.gcd (c % d) d = 1 := by
    have e := cy
    rw [e2, Nat.add_comm, Nat.gcd_add_mul_right_left] at e
    exact e
  have cv : Nat.gcd (a % b) b = 1 := by
    have e := cx
    rw [e1, Nat.add_comm, Nat.gcd_add_mul_right_left] at e
    exact e
  have s1 := sub_floor y (a / b) c d (c % d) E3 ey e2
  have s2 := sub_floor x (a / b) a b (a % b) E2 ex e1
  obtain ⟨f, hf⟩ : ∃ f, f = a / b := ⟨_, rfl⟩
  obtain ⟨v, hv⟩ : ∃ v, v = a % b := ⟨_, rfl⟩
  obtain ⟨u, hu⟩ : ∃ u, u = c % d := ⟨_, rfl⟩
  rw [← hf, ← hv, ← hu] at hs
  rw [← hf, ← hu] at s1
  rw [← hf, ← hv] at s2
  rw [← hu] at cu h2 h4
  rw [← hv] at cv h1 h3
  rw [← hv, ← hu] at B hma h5
  rw [← hf, hs]
  have p1 := frq_parts (r := (u, d)) E3 cu
  have p2 := frq_parts (r := (v, b)) E2 cv
  have p3 := frq_parts (r := (d, u)) h2 (by rw [Nat.gcd_comm]; exact cu)
  have p4 := frq_parts (r := (b, v)) h1 (by rw [Nat.gcd_comm]; exact cv)
  simp only at p1 p2 p3 p4
  have t1 : 1 / (y - ((f : Int) : Rat)) = frq (d, u) := by rw [s1, one_div_frq]
  have t2 : 1 / (x - ((f : Int) : Rat)) = frq (b, v) := by rw [s2, one_div_frq]
  have hsq : sqF (frq (d, u)) (frq (b, v)) = frq (sst d u b v) := by
    unfold sqF
    rw [p3.1, p3.2, p4.1, p4.2]
    rfl
  obtain ⟨r, hr⟩ : ∃ r, r = sst d u b v := ⟨_, rfl⟩
  rw [← hr] at hsq B hma ⊢
  obtain ⟨p, q⟩ := r
  have p5 := frq_parts B.q B.co
  have p7 := frq_parts (r := (q, p)) B.p (by rw [Nat.gcd_comm]; exact B.co)
  have Bp := B.p
  have Bq := B.q
  simp only at p5 p7 Bp Bq hma
  refine ⟨?_, ?_, ?_, ?_, ?_, ?_, ?_, ?_, ?_, ?_, ?_, ?_, ?_, ?_, ?_⟩
  · rw [s1]; exact ⟨by rw [p1.1]; omega, by rw [p1.2]; omega⟩
  · rw [s2]; exact ⟨by rw [p2.1]; omega, by rw [p2.2]; omega⟩
  · rw [s1]; exact frq_nz _ (by rw [p1.1]; omega)
  · rw [s2]; exact frq_nz _ (by rw [p2.1]; omega)
  · rw [t1]; exact ⟨by rw [p3.1]; omega, by rw [p3.2]; omega⟩
  · rw [t2]; exact ⟨by rw [p4.1]; omega, by rw [p4.2]; omega⟩
  · rw [t1, ← num_pos', p3.1]; omega
  · rw [t1, t2, Rat.le_iff, p3.1, p3.2, p4.1, p4.2]
    exact_mod_cast h5
  · rw [t1, p3.1]; rfl
  · rw [t1, p3.2, hu]
  · rw [t2, p4.1]; rfl
  · rw [t2, p4.2, hv]
  · rw [t1, t2, hsq]; exact frq_nz _ (by rw [p5.1]; omega)
  · rw [t1, t2, hsq, one_div_frq]
    exact ⟨by rw [p7.1]; omega, by rw [p7.2]; omega⟩
  · rw [t1, t2, hsq, one_div_frq]
    have e1 : ((f : Int) : Rat) = Rat.divInt (f : Int) ((1 : Nat) : Int) := by rw [Rat.divInt_ofNat, Rat.mkRat_one]
    unfold frq
    rw [e1, Rat.divInt_add_divInt _ _ (by decide) (by simp only; omega)]
    congr 1
    · push_cast
      omega
    · push_cast
      omega
/-- The search goes on: both ends without their floor, turned over. -/
theorem sq_go {x y : Rat} (h : 0 < x) (hle : x ≤ y) (hc : ¬ ceF x ≤ y) (hx : fit x) (hy : fit y) :
    fit (y - flF x) ∧ y - flF x ≠ 0 ∧ fit (x - flF x) ∧ x - flF x ≠ 0 ∧ fit (1 / (y - flF x)) ∧ fit (1 / (x - flF x)) ∧ 0 < 1 / (y - flF x) ∧ 1 / (y - flF x) ≤ 1 / (x - flF x) ∧
    (∀ k, deep (k + 1) x.num.toNat x.den y.num.toNat y.den → deep k (1 / (y - flF x)).num.toNat (1 / (y - flF x)).den (1 / (x - flF x)).num.toNat (1 / (x - flF x)).den) ∧
    sqF (1 / (y - flF x)) (1 / (x - flF x)) ≠ 0 ∧ fit (1 / sqF (1 / (y - flF x)) (1 / (x - flF x))) ∧ flF x + 1 / sqF (1 / (y - flF x)) (1 / (x - flF x)) = sqF x y := by
  have hb : ¬ (x.num.toNat % x.den = 0 ∨ x.num.toNat / x.den < y.num.toNat / y.den) := fun e => hc ((sq_stop h hle).1 e)
  have G := sq_go_nat h hle rfl rfl rfl rfl hx hy hb
  have hff : flF x = (((x.num.toNat / x.den : Nat) : Int) : Rat) := by unfold flF; rw [floor_nat x h]
  rw [hff]
  refine ⟨G.f1, G.n1, G.f2, G.n2, G.g1, G.g2, G.p0, G.le, fun k hk => ?_, G.nz, G.hf, G.eq⟩
  rw [G.a', G.b', G.c', G.d']
  exact hk.resolve_left hb
theorem deep_rat {x y : Rat} (h : 0 < x) (hle : x ≤ y) (hx : fit x) (hy : fit y) : deep 4000 x.num.toNat x.den y.num.toNat y.den := by
  have E := ends_of h hle
  have := num_pos'.2 h
  have := num_pos'.2 (lt_le h hle)
  have f1 := hx.1
  have f2 := hx.2
  have f3 := hy.1
  have f4 := hy.2
  exact deep_4000 E.b E.d E.le (by omega) (by omega) (by omega) (by omega)
end Go.Proofs.Yteanocjkdehhgaa
