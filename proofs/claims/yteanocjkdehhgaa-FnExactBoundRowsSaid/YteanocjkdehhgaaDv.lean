/- The division of two words by one: a digit of base 2^32 out of its guess. No program text. -/
import Derived.Test.YteanocjkdehhgaaNam
import Derived.Lib.ItoaNum
namespace Go.Proofs.Yteanocjkdehhgaa

theorem dg_init {U y1 : Int} (u y y0 : Int) (hy : y = y1 * 4294967296 + y0) (h0 : 0 ≤ y0) (h1 : 0 < y1) (hU : 0 ≤ U) (hu : u < 4294967296) :
    U / y1 * y1 + U % y1 = U ∧ 0 ≤ U / y1 ∧ 0 ≤ U % y1 ∧ U % y1 < y1 ∧ U * 4294967296 + u < (U / y1 + 1) * y := by
  have a := Int.emod_add_ediv_mul U y1
  have b := Int.emod_nonneg U (show y1 ≠ 0 by omega)
  have c := Int.emod_lt_of_pos U h1
  have d := Int.ediv_nonneg hU (show 0 ≤ y1 by omega)
  refine ⟨by omega, d, b, c, ?_⟩
  have e : (U / y1 + 1) * y = (U / y1 * y1 + y1) * 4294967296 + (U / y1 + 1) * y0 := by rw [hy]; grind
  have f : 0 ≤ (U / y1 + 1) * y0 := Int.mul_nonneg (by omega) h0
  omega
theorem dg_test {U u y y1 y0 q r : Int} (hy : y = y1 * 4294967296 + y0) (h : q * y1 + r = U) : (4294967296 * r + u < q * y0 ↔ U * 4294967296 + u < q * y) := by
  have e : q * y = q * y1 * 4294967296 + q * y0 := by rw [hy]; grind
  omega
theorem dg_big {U u y q : Int} (hU : U < y) (hu : u < 4294967296) (hu0 : 0 ≤ U) (hq : 4294967296 ≤ q) : U * 4294967296 + u < q * y := by
  have : 4294967296 * y ≤ q * y := Int.mul_le_mul_of_nonneg_right hq (by omega)
  omega
theorem dg_break {U u y y1 y0 q r : Int} (hy : y = y1 * 4294967296 + y0) (h0 : 0 ≤ y0) (h0' : y0 < 4294967296) (h1 : 0 < y1) (hU : U < y) (hu : 0 ≤ u) (hq : 0 ≤ q) (h : q * y1 + r = U) (hr : 4294967296 ≤ r) : q * y ≤ U * 4294967296 + u := by
  have hqM : q < 4294967296 := by
    rcases Int.lt_or_le q 4294967296 with h2 | h2
    · exact h2
    · have : 4294967296 * y1 ≤ q * y1 := Int.mul_le_mul_of_nonneg_right h2 (by omega)
      omega
  have e : q * y = q * y1 * 4294967296 + q * y0 := by rw [hy]; grind
  have f : q * y0 ≤ 4294967296 * 4294967296 := Int.mul_le_mul (by omega) (by omega) h0 (by omega)
  omega
theorem dg_end {T y q : Int} (hy : 0 < y) (h1 : q * y ≤ T) (h2 : T < (q + 1) * y) : q = T / y ∧ T - q * y = T % y := by
  have e := Int.emod_add_ediv_mul T y
  have a := Int.emod_nonneg T (show y ≠ 0 by omega)
  have b := Int.emod_lt_of_pos T hy
  have hq : q = T / y := by
    rw [Int.add_mul] at h2
    have h3 : q * y < (T / y + 1) * y := by rw [Int.add_mul]; omega
    have h4 : T / y * y < (q + 1) * y := by rw [Int.add_mul]; omega
    have h5 := Int.lt_of_mul_lt_mul_right h3 (by omega)
    have h6 := Int.lt_of_mul_lt_mul_right h4 (by omega)
    omega
  subst hq
  exact ⟨rfl, by omega⟩
/-- The shift that brings y to the top. -/
theorem lead {y : Nat} (h0 : y ≠ 0) (h : y < 2 ^ 64) : ∃ s, s ≤ 63 ∧ Lib.bitLen y = 64 - s ∧ 9223372036854775808 ≤ y * 2 ^ s ∧ y * 2 ^ s < 18446744073709551616 := by
  obtain ⟨h1, h2, h3⟩ := Lib.bitLenAux_bounds 64 y h h0
  have hb : Lib.bitLenAux 64 y ≤ 64 := Lib.bitLen_le y 64 (Nat.le_refl _) h
  obtain ⟨b, hbe⟩ : ∃ b, b = Lib.bitLenAux 64 y := ⟨_, rfl⟩
  rw [← hbe] at h1 h2 h3 hb
  refine ⟨64 - b, by omega, ?_, ?_, ?_⟩
  · show Lib.bitLenAux 64 y = _
    rw [← hbe]; omega
  · have : 2 ^ (b - 1) * 2 ^ (64 - b) = 9223372036854775808 := by
      rw [← Nat.pow_add, show b - 1 + (64 - b) = 63 by omega]
    have h4 := Nat.mul_le_mul_right (2 ^ (64 - b)) h2
    omega
  · have : 2 ^ b * 2 ^ (64 - b) = 18446744073709551616 := by
      rw [← Nat.pow_add, show b + (64 - b) = 64 by omega]
    have h4 := Nat.mul_lt_mul_of_pos_right h3 (show 0 < 2 ^ (64 - b) from Nat.pow_pos (by decide))
    omega
/-- Everything shifted by s: the dividend's upper and lower word, the divisor. -/
structure Norm (hi lo y : Int) (s : Nat) (Y U L : Int) : Prop where
  hY : Y = y * 2 ^ s
  top : 9223372036854775808 ≤ Y
  bot : Y < 18446744073709551616
  hU : U = hi * 2 ^ s + lo / 2 ^ (64 - s)
  sub : hi * 2 ^ s < 18446744073709551616
  rem : 0 ≤ lo / 2 ^ (64 - s) ∧ lo / 2 ^ (64 - s) < 2 ^ s
  hL : L = lo * 2 ^ s % 18446744073709551616
  all : (hi * 18446744073709551616 + lo) * 2 ^ s = U * 18446744073709551616 + L
  low : U < Y
  pos : 0 ≤ U
theorem norm {hi lo y : Int} {s : Nat} (hs : s ≤ 63) (h0 : 0 ≤ hi) (h1 : hi < y) (hl0 : 0 ≤ lo) (hl1 : lo < 18446744073709551616) (ht : 9223372036854775808 ≤ y * 2 ^ s) (hb : y * 2 ^ s < 18446744073709551616) :
    ∃ Y U L, Norm hi lo y s Y U L := by
  obtain ⟨P, hP⟩ : ∃ P : Int, P = 2 ^ s := ⟨_, rfl⟩
  obtain ⟨D, hD⟩ : ∃ D : Int, D = 2 ^ (64 - s) := ⟨_, rfl⟩
  have hP0 : 0 < P := by rw [hP]; exact Int.pow_pos (by decide)
  have hD0 : 0 < D := by rw [hD]; exact Int.pow_pos (by decide)
  have hPD : P * D = 18446744073709551616 := by
    rw [hP, hD, ← Int.pow_add, show s + (64 - s) = 64 by omega]; decide
  have d1 := Int.emod_add_ediv_mul lo D
  have d2 := Int.emod_nonneg lo (show D ≠ 0 by omega)
  have d3 := Int.emod_lt_of_pos lo hD0
  have d4 := Int.ediv_nonneg hl0 (show 0 ≤ D by omega)
  have d5 : lo / D < P := by
    apply Int.ediv_lt_of_lt_mul hD0
    rw [hPD]; exact hl1
  have e1 : lo * P = lo % D * P + lo / D * 18446744073709551616 := by
    rw [← hPD]
    have : lo * P = (lo % D + lo / D * D) * P := by rw [d1]
    rw [this]; grind
  have e2 : 0 ≤ lo % D * P := Int.mul_nonneg d2 (by omega)
  have e3 : lo % D * P < 18446744073709551616 := by
    rw [← hPD, Int.mul_comm P D]
    exact Int.mul_lt_mul_of_pos_right d3 hP0
  have e4 : hi * P + P ≤ y * P := by
    have : (hi + 1) * P ≤ y * P := Int.mul_le_mul_of_nonneg_right (by omega) (by omega)
    rw [Int.add_mul] at this; omega
  have e5 : 0 ≤ hi * P := Int.mul_nonneg h0 (by omega)
  rw [← hP] at ht hb
  refine ⟨y * P, hi * P + lo / D, lo * P % 18446744073709551616, ?_⟩
  constructor
  · rw [hP]
  · exact ht
  · exact hb
  · rw [hP, hD]
  · rw [← hP]; omega
  · rw [← hP, ← hD]; exact ⟨d4, d5⟩
  · rw [hP]
  · rw [← hP, Int.add_mul]
    have : hi * 18446744073709551616 * P = hi * P * 18446744073709551616 := by grind
    omega
  · omega
  · omega
theorem digits_end {hi lo y Y U L u1 u0 q1 r1 q0 : Int} {s : Nat} (n : Norm hi lo y s Y U L) (hu : L = u1 * 4294967296 + u0) (h1 : q1 = (U * 4294967296 + u1) / Y) (h2 : r1 = (U * 4294967296 + u1) % Y) (h3 : q0 = (r1 * 4294967296 + u0) / Y) :
    q1 * 4294967296 + q0 = (hi * 18446744073709551616 + lo) / y := by
  have hY0 : 0 < Y := by have := n.top; omega
  have hP0 : (0 : Int) < 2 ^ s := Int.pow_pos (by decide)
  have a1 := Int.emod_add_ediv_mul (U * 4294967296 + u1) Y
  have a2 := Int.emod_add_ediv_mul (r1 * 4294967296 + u0) Y
  have b1 := Int.emod_nonneg (r1 * 4294967296 + u0) (show Y ≠ 0 by omega)
  have b2 := Int.emod_lt_of_pos (r1 * 4294967296 + u0) hY0
  rw [← h1, ← h2] at a1
  rw [← h3] at a2
  have e : (hi * 18446744073709551616 + lo) * 2 ^ s = (q1 * 4294967296 + q0) * Y + (r1 * 4294967296 + u0) % Y := by
    rw [n.all, hu, Int.add_mul]
    have : q1 * 4294967296 * Y = q1 * Y * 4294967296 := by grind
    omega
  have f : (hi * 18446744073709551616 + lo) / y = (hi * 18446744073709551616 + lo) * 2 ^ s / Y := by
    rw [n.hY, Int.mul_ediv_mul_of_pos_left _ _ hP0]
  rw [f, e]
  exact ((dg_end hY0 (by omega) (by rw [Int.add_mul _ 1]; omega)).1)
end Go.Proofs.Yteanocjkdehhgaa
