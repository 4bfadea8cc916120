/- The library's division of two words by one, for divisors below 2^60: the quotient. -/
import Derived.Test.YteanocjkdehhgaaDv
import Derived.Test.YteanocjkdehhgaaBas
import Derived.Test.YteanocjkdehhgaaShelf
import Derived.Laws.BitsAllLaws
namespace Go.Proofs.Yteanocjkdehhgaa
open Go.RowKit
open Go.Lib (hid)
set_option linter.unusedVariables false

theorem mask32 {x : Int} (h0 : 0 ≤ x) (h1 : x < 18446744073709551616) : bits .and .u64 x 4294967295 = x % 4294967296 := by
  rw [u64_and x 4294967295 h0 h1 (by decide) (by decide)]
  have e : (4294967295 : Int).toNat = 2 ^ 32 - 1 := by decide
  rw [e, Nat.and_two_pow_sub_one_eq_mod]
  omega
theorem or_sum {a b : Int} {s : Nat} (ha : 0 ≤ a) (hb0 : 0 ≤ b) (hb : b < 2 ^ s) (h : a * 2 ^ s + b < 18446744073709551616) : bits .or .u64 (a * 2 ^ s) b = a * 2 ^ s + b := by
  have hP0 : (0 : Int) < 2 ^ s := Int.pow_pos (by decide)
  have h0 : 0 ≤ a * 2 ^ s := Int.mul_nonneg ha (by omega)
  rw [u64_or _ _ h0 (by omega) hb0 (by omega)]
  obtain ⟨A, rfl⟩ := Int.eq_ofNat_of_zero_le ha
  obtain ⟨B, rfl⟩ := Int.eq_ofNat_of_zero_le hb0
  have e : ((A : Int) * 2 ^ s).toNat = 2 ^ s * A := by
    have : (A : Int) * 2 ^ s = ((2 ^ s * A : Nat) : Int) := by push_cast; rw [Int.mul_comm]
    rw [this, Int.toNat_natCast]
  have hB : B < 2 ^ s := by
    have : ((2 ^ s : Nat) : Int) = (2 : Int) ^ s := by push_cast; rfl
    omega
  rw [e, Int.toNat_natCast, ← Nat.two_pow_add_eq_or_of_lt hB]
  push_cast
  rw [Int.mul_comm]
theorem wrap_u64_in {x : Int} (h0 : 0 ≤ x) (h1 : x < 18446744073709551616) : IntKind.u64.wrap x = x := by
  rw [IntKind.wrap_u64]; omega
/-- The remainder behind a digit, as the words compute it. -/
theorem rem_wrap {U u Y q : Int} (hq : q = (U * 4294967296 + u) / Y) (hY : 0 < Y) (hY1 : Y < 18446744073709551616) :
    IntKind.u64.wrap (IntKind.u64.wrap (IntKind.u64.wrap (U * 4294967296) + u) - IntKind.u64.wrap (q * Y)) = (U * 4294967296 + u) % Y := by
  have a := Int.emod_add_ediv_mul (U * 4294967296 + u) Y
  have b := Int.emod_nonneg (U * 4294967296 + u) (show Y ≠ 0 by omega)
  have c := Int.emod_lt_of_pos (U * 4294967296 + u) hY
  rw [← hq] at a
  simp only [IntKind.wrap_u64]
  omega

def DivP (Q : Int) (w : World) (e : Ending) (w' : World) : Prop := (∃ r : Int, e = .returned (.tuple #[.int .u64 Q, .int .u64 r])) ∧ w = w'
theorem DivP_mk {Q q r : Int} {w : World} (h : q = Q) : DivP Q w (.returned (.tuple #[.int .u64 q, .int .u64 r])) w := by subst h; exact ⟨⟨r, rfl⟩, rfl⟩

set_option maxRecDepth 100000 in
set_option maxHeartbeats 800000 in
theorem Div64_low (lo y : Int) (h1 : 0 < y) (hy1 : y < 1152921504606846976) (hl0 : 0 ≤ lo) (hl1 : lo < 18446744073709551616) (w : World) :
    Calls Try.prog 166 #[.int .u64 0, .int .u64 lo, .int .u64 y] w (fun e w' => ∃ r d, e = .returned (.tuple #[.int .u64 (lo / y), .int .u64 r]) ∧ w' = w.drewN d) := by
  have e1 : (y == 0) = false := beq_eq_false_iff_ne.2 (by omega)
  have e3 : ¬ y ≤ 0 := by omega
  go_enter Try.func166, Try.ntmps166
  go_wp2_with fail
  go_quiet (fail)
  go_wp2_with fail
  go_ret2
  exact ⟨_, _, rfl, rfl⟩

set_option maxRecDepth 100000 in
set_option maxHeartbeats 6400000 in
theorem Div64_high (hi lo y : Int) (h0 : 0 < hi) (h1 : hi < y) (hy1 : y < 1152921504606846976) (hl0 : 0 ≤ lo) (hl1 : lo < 18446744073709551616) (w : World) :
    Calls Try.prog 166 #[.int .u64 hi, .int .u64 lo, .int .u64 y] w (DivP ((hi * 18446744073709551616 + lo) / y) w) := by
  have KL := hid (fun W => Try.bits_LeadingZeros64 y W (by omega) (by omega))
  have e1 : (y == 0) = false := beq_eq_false_iff_ne.2 (by omega)
  have e2 : (hi == 0) = false := beq_eq_false_iff_ne.2 (by omega)
  have e3 : ¬ y ≤ hi := by omega
  obtain ⟨s, hs, hbl, hn1, hn2⟩ := lead (y := y.toNat) (by omega) (by omega)
  rw [hbl] at KL
  have hyn : (y.toNat : Int) = y := by omega
  have hn1' : 9223372036854775808 ≤ y * 2 ^ s := by
    have : ((y.toNat * 2 ^ s : Nat) : Int) = y * 2 ^ s := by push_cast; rw [hyn]
    omega
  have hn2' : y * 2 ^ s < 18446744073709551616 := by
    have : ((y.toNat * 2 ^ s : Nat) : Int) = y * 2 ^ s := by push_cast; rw [hyn]
    omega
  obtain ⟨Y, U, L, nm⟩ := norm hs (by omega) h1 hl0 hl1 hn1' hn2'
  have NM := hid nm
  have KT := hid (fun (u1 u0 q1 r1 q0 : Int) a b c d => digits_end (u1 := u1) (u0 := u0) (q1 := q1) (r1 := r1) (q0 := q0) NM.out a b c d)
  have KT2 := hid (show 0 ≤ (hi * 18446744073709551616 + lo) / y ∧ (hi * 18446744073709551616 + lo) / y < 18446744073709551616 from ⟨Int.ediv_nonneg (by omega) (by omega), Int.ediv_lt_of_lt_mul (by omega) (by omega)⟩)
  obtain ⟨T, hT⟩ : ∃ T, T = (hi * 18446744073709551616 + lo) / y := ⟨_, rfl⟩
  rw [← hT] at KT KT2 ⊢
  clear hT
  have eY : IntKind.u64.wrap (y * 2 ^ s) = Y := by rw [← nm.hY]; exact wrap_u64_in (by have := nm.top; omega) nm.bot
  have hi0 : 0 ≤ hi * 2 ^ s := Int.mul_nonneg (by omega) (by have : (0 : Int) < 2 ^ s := Int.pow_pos (by decide)
                                                             omega)
  have eH : IntKind.u64.wrap (hi * 2 ^ s) = hi * 2 ^ s := wrap_u64_in hi0 nm.sub
  have eU : bits BinOp.or IntKind.u64 (hi * 2 ^ s) (lo / 2 ^ (64 - s)) = U := by
    have hU2 : U < 18446744073709551616 := by have := nm.low; have := nm.bot; omega
    rw [nm.hU] at hU2 ⊢
    exact or_sum (by omega) nm.rem.1 nm.rem.2 hU2
  have eL : IntKind.u64.wrap (lo * 2 ^ s) = L := by rw [nm.hL, IntKind.wrap_u64]
  have hY0 := nm.top
  have hY1 := nm.bot
  have hU0 := nm.pos
  have hUY := nm.low
  have hL0 : 0 ≤ L ∧ L < 18446744073709551616 := by rw [nm.hL]; omega
  obtain ⟨y1, hy1e⟩ : ∃ y1, y1 = Y / 4294967296 := ⟨_, rfl⟩
  obtain ⟨y0, hy0e⟩ : ∃ y0, y0 = Y % 4294967296 := ⟨_, rfl⟩
  obtain ⟨u1, hu1e⟩ : ∃ u1, u1 = L / 4294967296 := ⟨_, rfl⟩
  obtain ⟨u0, hu0e⟩ : ∃ u0, u0 = L % 4294967296 := ⟨_, rfl⟩
  have YE := hid (show Y = y1 * 4294967296 + y0 by omega)
  have LE := hid (show L = u1 * 4294967296 + u0 by omega)
  have by1 : 2147483648 ≤ y1 := by omega
  have by1' : y1 < 4294967296 := by omega
  have by0 : 0 ≤ y0 := by omega
  have by0' : y0 < 4294967296 := by omega
  have bu1 : 0 ≤ u1 := by omega
  have bu1' : u1 < 4294967296 := by omega
  have bu0 : 0 ≤ u0 := by omega
  have bu0' : u0 < 4294967296 := by omega
  have eM : bits BinOp.and IntKind.u64 Y 4294967295 = y0 := by rw [mask32 (by omega) hY1, hy0e]
  have eN : bits BinOp.and IntKind.u64 L 4294967295 = u0 := by rw [mask32 hL0.1 hL0.2, hu0e]
  have eY1 : Y / 4294967296 = y1 := hy1e.symm
  have eL1 : L / 4294967296 = u1 := hu1e.symm
  have eyz : ¬ y1 = 0 := by omega
  have IN1 := hid (dg_init (U := U) (y1 := y1) u1 Y y0 YE.out by0 (by omega) hU0 bu1')
  clear nm hy1e hy0e hu1e hu0e hn1 hn2 hn1' hn2' hyn hi0 hL0
  go_enter Try.func166, Try.ntmps166
  go_wp2_with fail
  refine (KL.out w).mono ?_
  rintro e w1 ⟨rfl, rfl⟩
  have hsz : (64 : Int) - ((64 - s : Nat) : Int) = s := by omega
  rw [hsz]
  clear hsz KL hbl
  have s0 : (0 : Int) ≤ s := by omega
  have s1 : (s : Int) ≤ 63 := by omega
  have s2 : (0 : Int) ≤ 64 - s := by omega
  have ts : ((s : Nat) : Int).toNat = s := by omega
  have ts2 : ((64 : Int) - s).toNat = 64 - s := by omega
  obtain ⟨q, hq⟩ : ∃ q, q = U / y1 := ⟨_, rfl⟩
  obtain ⟨r, hr⟩ : ∃ r, r = U % y1 := ⟨_, rfl⟩
  have eq1 : U / y1 = q := hq.symm
  have er1 : IntKind.u64.wrap (U - IntKind.u64.wrap (q * y1)) = r := by
    obtain ⟨a, b, c, d, -⟩ := IN1.out
    rw [← hq] at a b
    rw [← hr] at a c d
    have h0 : 0 ≤ q * y1 := Int.mul_nonneg b (by omega)
    rw [wrap_u64_in h0 (by omega), wrap_u64_in (by omega) (by omega)]
    omega
  rw [← hq, ← hr] at IN1
  clear hq hr
  go_wp2
  go_loop [15, 16] (fun x z => ∃ (q r : Int), x = .int .u64 q ∧ z = .int .u64 r ∧ 0 ≤ q ∧ 0 ≤ r ∧ r < 4294967296 ∧ Hid (q * y1 + r = U) ∧ Hid (U * 4294967296 + u1 < (q + 1) * Y)) (fun x _ => (intOf x).toNat)
  case atStart => exact ⟨_, _, rfl, rfl, by first | exact IN1.out.2.1 | (rw [eq1]; exact IN1.out.2.1), IN1.out.2.2.1, by have := IN1.out.2.2.2.1; omega, hid (by first | exact IN1.out.1 | (rw [eq1]; exact IN1.out.1)), hid (by first | exact IN1.out.2.2.2.2 | (rw [eq1]; exact IN1.out.2.2.2.2))⟩
  case round =>
    clear er1 eq1
    obtain ⟨q, r, rfl, rfl, bq, br, br', HI, HJ⟩ := hrel
    have bqU : q ≤ U := by
      have h := HI.out
      have : q * 1 ≤ q * y1 := Int.mul_le_mul_of_nonneg_left (by omega) bq
      omega
    have HT := hid (dg_test (u := u1) YE.out HI.out)
    have hup : 4294967296 ≤ q ∨ (q < 4294967296 ∧ U * 4294967296 + u1 < q * Y) ∨ (q < 4294967296 ∧ q * Y ≤ U * 4294967296 + u1) := by omega
    have HBIG := hid (dg_big (u := u1) (q := q) hUY (by omega) hU0)
    rcases hup with hbig | ⟨hsm, hgt⟩ | ⟨hsm, hle⟩
    · have hq1 : 1 ≤ q := by omega
      have HT2 := hid (HBIG.out hbig)
      obtain ⟨q', hq'⟩ : ∃ q', q' = q - 1 := ⟨_, rfl⟩
      have HQ := hid hq'
      have HI2 := hid (show q' * y1 + (r + y1) = U by rw [hq', Int.sub_mul]; have := HI.out; omega)
      have HJ2 := hid (show U * 4294967296 + u1 < (q' + 1) * Y by rw [hq', Int.sub_add_cancel]; exact HT2.out)
      have bq' : 0 ≤ q' := by omega
      have ewq : IntKind.u64.wrap q' = q' := wrap_u64_in bq' (by omega)
      have eqm : q - 1 = q' := hq'.symm
      clear hq'
      by_cases hbr : 4294967296 ≤ r + y1
      · have HQ1 := hid (dg_end (by omega) (dg_break YE.out by0 by0' (by omega) hUY (by omega) bq' HI2.out hbr) HJ2.out).1
        obtain ⟨Q, hQe⟩ : ∃ Q, Q = q' := ⟨_, rfl⟩
        obtain ⟨R, hRe⟩ : ∃ R, R = (U * 4294967296 + u1) % Y := ⟨_, rfl⟩
        have HQE := hid hQe
        have HQR := hid (show Q = (U * 4294967296 + u1) / Y ∧ R = (U * 4294967296 + u1) % Y from ⟨by rw [hQe]; exact HQ1.out, hRe⟩)
        have eR : IntKind.u64.wrap (IntKind.u64.wrap (IntKind.u64.wrap (U * 4294967296) + u1) - IntKind.u64.wrap (q' * Y)) = R := by
          rw [hRe]; exact rem_wrap HQ1.out (by omega) hY1
        have hR0 : 0 ≤ R := by rw [hRe]; exact Int.emod_nonneg _ (by omega)
        have hR1 : R < Y := by rw [hRe]; exact Int.emod_lt_of_pos _ (by omega)
        have IN2 := hid (dg_init (U := R) (y1 := y1) u0 Y y0 YE.out by0 (by omega) hR0 bu0')
        obtain ⟨t, ht⟩ : ∃ t, t = R / y1 := ⟨_, rfl⟩
        obtain ⟨r2, hr2⟩ : ∃ r2, r2 = R % y1 := ⟨_, rfl⟩
        have eq2 : R / y1 = t := ht.symm
        have er2 : IntKind.u64.wrap (R - IntKind.u64.wrap (t * y1)) = r2 := by
          obtain ⟨a, b, c, d, -⟩ := IN2.out
          rw [← ht] at a b
          rw [← hr2] at a c d
          have h0 : 0 ≤ t * y1 := Int.mul_nonneg b (by omega)
          rw [wrap_u64_in h0 (by omega), wrap_u64_in (by omega) (by omega)]
          omega
        rw [← ht, ← hr2] at IN2
        clear ht hr2 hRe hQe
        go_wp2
        go_loop [18, 16] (fun x z => ∃ (q r : Int), x = .int .u64 q ∧ z = .int .u64 r ∧ 0 ≤ q ∧ 0 ≤ r ∧ r < 4294967296 ∧ Hid (q * y1 + r = R) ∧ Hid (R * 4294967296 + u0 < (q + 1) * Y)) (fun x _ => (intOf x).toNat)
        case atStart => exact ⟨_, _, rfl, rfl, by first | exact IN2.out.2.1 | (rw [eq2]; exact IN2.out.2.1), IN2.out.2.2.1, by have := IN2.out.2.2.2.1; omega, hid (by first | exact IN2.out.1 | (rw [eq2]; exact IN2.out.1)), hid (by first | exact IN2.out.2.2.2.2 | (rw [eq2]; exact IN2.out.2.2.2.2))⟩
        case round =>
          clear er2 eq2
          obtain ⟨q, r, rfl, rfl, bq, br, br', HI, HJ⟩ := hrel
          have bqU : q ≤ R := by
            have h := HI.out
            have : q * 1 ≤ q * y1 := Int.mul_le_mul_of_nonneg_left (by omega) bq
            omega
          have HT := hid (dg_test (u := u0) YE.out HI.out)
          have hup : 4294967296 ≤ q ∨ (q < 4294967296 ∧ R * 4294967296 + u0 < q * Y) ∨ (q < 4294967296 ∧ q * Y ≤ R * 4294967296 + u0) := by omega
          have HBIG := hid (dg_big (u := u0) (q := q) hR1 (by omega) hR0)
          rcases hup with hbig | ⟨hsm, hgt⟩ | ⟨hsm, hle⟩
          · have hq1 : 1 ≤ q := by omega
            have HT2 := hid (HBIG.out hbig)
            obtain ⟨q', hq'⟩ : ∃ q', q' = q - 1 := ⟨_, rfl⟩
            have HQ := hid hq'
            have HI2 := hid (show q' * y1 + (r + y1) = R by rw [hq', Int.sub_mul]; have := HI.out; omega)
            have HJ2 := hid (show R * 4294967296 + u0 < (q' + 1) * Y by rw [hq', Int.sub_add_cancel]; exact HT2.out)
            have bq' : 0 ≤ q' := by omega
            have ewq : IntKind.u64.wrap q' = q' := wrap_u64_in bq' (by omega)
            have eqm : q - 1 = q' := hq'.symm
            clear hq'
            by_cases hbr : 4294967296 ≤ r + y1
            · have HQ1 := hid (dg_end (by omega) (dg_break YE.out by0 by0' (by omega) hR1 (by omega) bq' HI2.out hbr) HJ2.out).1
              go_wp2
              go_ret2
              exact DivP_mk (by
                rw [← HQE.out]
                have h := KT.out u1 u0 Q R q' LE.out HQR.out.1 HQR.out.2 HQ1.out
                have h2 := KT2.out
                try simp only [IntKind.wrap_u64]
                omega)
            · go_wp2
              go_round
              case rel => exact ⟨q', r + y1, rfl, rfl, bq', by omega, by omega, HI2, HJ2⟩
              case measure => have := HQ.out; simp [intOf]; omega
          · have hq1 : 1 ≤ q := by
              rcases Int.lt_or_le 0 q with h | h
              · omega
              · have : q = 0 := by omega
                subst this
                omega
            obtain ⟨p, hp⟩ : ∃ p, p = q * y0 := ⟨_, rfl⟩
            have hpt : 4294967296 * r + u0 < p := by rw [hp]; exact HT.out.2 hgt
            have hp0 : p < 18446744073709551616 := by
              have : q * y0 ≤ 4294967295 * 4294967295 := Int.mul_le_mul (by omega) (by omega) by0 (by omega)
              omega
            have epp : q * y0 = p := hp.symm
            have hp00 : 0 ≤ p := by rw [hp]; exact Int.mul_nonneg bq by0
            obtain ⟨q', hq'⟩ : ∃ q', q' = q - 1 := ⟨_, rfl⟩
            have HQ := hid hq'
            have HI2 := hid (show q' * y1 + (r + y1) = R by rw [hq', Int.sub_mul]; have := HI.out; omega)
            have HJ2 := hid (show R * 4294967296 + u0 < (q' + 1) * Y by rw [hq', Int.sub_add_cancel]; exact hgt)
            have bq' : 0 ≤ q' := by omega
            have ewq : IntKind.u64.wrap q' = q' := wrap_u64_in bq' (by omega)
            have eqm : q - 1 = q' := hq'.symm
            clear hq' hp hgt
            by_cases hbr : 4294967296 ≤ r + y1
            · have HQ1 := hid (dg_end (by omega) (dg_break YE.out by0 by0' (by omega) hR1 (by omega) bq' HI2.out hbr) HJ2.out).1
              go_wp2
              go_ret2
              exact DivP_mk (by
                rw [← HQE.out]
                have h := KT.out u1 u0 Q R q' LE.out HQR.out.1 HQR.out.2 HQ1.out
                have h2 := KT2.out
                try simp only [IntKind.wrap_u64]
                omega)
            · go_wp2
              go_round
              case rel => exact ⟨q', r + y1, rfl, rfl, bq', by omega, by omega, HI2, HJ2⟩
              case measure => have := HQ.out; simp [intOf]; omega
          · obtain ⟨p, hp⟩ : ∃ p, p = q * y0 := ⟨_, rfl⟩
            have hpt : p ≤ 4294967296 * r + u0 := by
              rw [hp]
              rcases Int.lt_or_le (4294967296 * r + u0) (q * y0) with h | h
              · have := HT.out.1 h
                omega
              · exact h
            have epp : q * y0 = p := hp.symm
            have hp00 : 0 ≤ p := by rw [hp]; exact Int.mul_nonneg bq by0
            have HQ1 := hid (dg_end (by omega) hle HJ.out).1
            clear hp hle
            obtain ⟨q', hq'⟩ : ∃ q', q' = q := ⟨_, rfl⟩
            rw [← hq'] at epp HQ1 HI HJ HT HBIG bq hsm ⊢
            clear hq'
            go_wp2
            go_ret2
            exact DivP_mk (by
              rw [← HQE.out]
              have h := KT.out u1 u0 Q R q' LE.out HQR.out.1 HQR.out.2 HQ1.out
              have h2 := KT2.out
              try simp only [IntKind.wrap_u64]
              omega)
      · go_wp2
        go_round
        case rel => exact ⟨q', r + y1, rfl, rfl, bq', by omega, by omega, HI2, HJ2⟩
        case measure => have := HQ.out; simp [intOf]; omega
    · have hq1 : 1 ≤ q := by
        rcases Int.lt_or_le 0 q with h | h
        · omega
        · have : q = 0 := by omega
          subst this
          omega
      obtain ⟨p, hp⟩ : ∃ p, p = q * y0 := ⟨_, rfl⟩
      have hpt : 4294967296 * r + u1 < p := by rw [hp]; exact HT.out.2 hgt
      have hp0 : p < 18446744073709551616 := by
        have : q * y0 ≤ 4294967295 * 4294967295 := Int.mul_le_mul (by omega) (by omega) by0 (by omega)
        omega
      have epp : q * y0 = p := hp.symm
      have hp00 : 0 ≤ p := by rw [hp]; exact Int.mul_nonneg bq by0
      obtain ⟨q', hq'⟩ : ∃ q', q' = q - 1 := ⟨_, rfl⟩
      have HQ := hid hq'
      have HI2 := hid (show q' * y1 + (r + y1) = U by rw [hq', Int.sub_mul]; have := HI.out; omega)
      have HJ2 := hid (show U * 4294967296 + u1 < (q' + 1) * Y by rw [hq', Int.sub_add_cancel]; exact hgt)
      have bq' : 0 ≤ q' := by omega
      have ewq : IntKind.u64.wrap q' = q' := wrap_u64_in bq' (by omega)
      have eqm : q - 1 = q' := hq'.symm
      clear hq' hp hgt
      by_cases hbr : 4294967296 ≤ r + y1
      · have HQ1 := hid (dg_end (by omega) (dg_break YE.out by0 by0' (by omega) hUY (by omega) bq' HI2.out hbr) HJ2.out).1
        obtain ⟨Q, hQe⟩ : ∃ Q, Q = q' := ⟨_, rfl⟩
        obtain ⟨R, hRe⟩ : ∃ R, R = (U * 4294967296 + u1) % Y := ⟨_, rfl⟩
        have HQE := hid hQe
        have HQR := hid (show Q = (U * 4294967296 + u1) / Y ∧ R = (U * 4294967296 + u1) % Y from ⟨by rw [hQe]; exact HQ1.out, hRe⟩)
        have eR : IntKind.u64.wrap (IntKind.u64.wrap (IntKind.u64.wrap (U * 4294967296) + u1) - IntKind.u64.wrap (q' * Y)) = R := by
          rw [hRe]; exact rem_wrap HQ1.out (by omega) hY1
        have hR0 : 0 ≤ R := by rw [hRe]; exact Int.emod_nonneg _ (by omega)
        have hR1 : R < Y := by rw [hRe]; exact Int.emod_lt_of_pos _ (by omega)
        have IN2 := hid (dg_init (U := R) (y1 := y1) u0 Y y0 YE.out by0 (by omega) hR0 bu0')
        obtain ⟨t, ht⟩ : ∃ t, t = R / y1 := ⟨_, rfl⟩
        obtain ⟨r2, hr2⟩ : ∃ r2, r2 = R % y1 := ⟨_, rfl⟩
        have eq2 : R / y1 = t := ht.symm
        have er2 : IntKind.u64.wrap (R - IntKind.u64.wrap (t * y1)) = r2 := by
          obtain ⟨a, b, c, d, -⟩ := IN2.out
          rw [← ht] at a b
          rw [← hr2] at a c d
          have h0 : 0 ≤ t * y1 := Int.mul_nonneg b (by omega)
          rw [wrap_u64_in h0 (by omega), wrap_u64_in (by omega) (by omega)]
          omega
        rw [← ht, ← hr2] at IN2
        clear ht hr2 hRe hQe
        go_wp2
        go_loop [18, 16] (fun x z => ∃ (q r : Int), x = .int .u64 q ∧ z = .int .u64 r ∧ 0 ≤ q ∧ 0 ≤ r ∧ r < 4294967296 ∧ Hid (q * y1 + r = R) ∧ Hid (R * 4294967296 + u0 < (q + 1) * Y)) (fun x _ => (intOf x).toNat)
        case atStart => exact ⟨_, _, rfl, rfl, by first | exact IN2.out.2.1 | (rw [eq2]; exact IN2.out.2.1), IN2.out.2.2.1, by have := IN2.out.2.2.2.1; omega, hid (by first | exact IN2.out.1 | (rw [eq2]; exact IN2.out.1)), hid (by first | exact IN2.out.2.2.2.2 | (rw [eq2]; exact IN2.out.2.2.2.2))⟩
        case round =>
          clear er2 eq2
          obtain ⟨q, r, rfl, rfl, bq, br, br', HI, HJ⟩ := hrel
          have bqU : q ≤ R := by
            have h := HI.out
            have : q * 1 ≤ q * y1 := Int.mul_le_mul_of_nonneg_left (by omega) bq
            omega
          have HT := hid (dg_test (u := u0) YE.out HI.out)
          have hup : 4294967296 ≤ q ∨ (q < 4294967296 ∧ R * 4294967296 + u0 < q * Y) ∨ (q < 4294967296 ∧ q * Y ≤ R * 4294967296 + u0) := by omega
          have HBIG := hid (dg_big (u := u0) (q := q) hR1 (by omega) hR0)
          rcases hup with hbig | ⟨hsm, hgt⟩ | ⟨hsm, hle⟩
          · have hq1 : 1 ≤ q := by omega
            have HT2 := hid (HBIG.out hbig)
            obtain ⟨q', hq'⟩ : ∃ q', q' = q - 1 := ⟨_, rfl⟩
            have HQ := hid hq'
            have HI2 := hid (show q' * y1 + (r + y1) = R by rw [hq', Int.sub_mul]; have := HI.out; omega)
            have HJ2 := hid (show R * 4294967296 + u0 < (q' + 1) * Y by rw [hq', Int.sub_add_cancel]; exact HT2.out)
            have bq' : 0 ≤ q' := by omega
            have ewq : IntKind.u64.wrap q' = q' := wrap_u64_in bq' (by omega)
            have eqm : q - 1 = q' := hq'.symm
            clear hq'
            by_cases hbr : 4294967296 ≤ r + y1
            · have HQ1 := hid (dg_end (by omega) (dg_break YE.out by0 by0' (by omega) hR1 (by omega) bq' HI2.out hbr) HJ2.out).1
              go_wp2
              go_ret2
              exact DivP_mk (by
                rw [← HQE.out]
                have h := KT.out u1 u0 Q R q' LE.out HQR.out.1 HQR.out.2 HQ1.out
                have h2 := KT2.out
                try simp only [IntKind.wrap_u64]
                omega)
            · go_wp2
              go_round
              case rel => exact ⟨q', r + y1, rfl, rfl, bq', by omega, by omega, HI2, HJ2⟩
              case measure => have := HQ.out; simp [intOf]; omega
          · have hq1 : 1 ≤ q := by
              rcases Int.lt_or_le 0 q with h | h
              · omega
              · have : q = 0 := by omega
                subst this
                omega
            obtain ⟨p, hp⟩ : ∃ p, p = q * y0 := ⟨_, rfl⟩
            have hpt : 4294967296 * r + u0 < p := by rw [hp]; exact HT.out.2 hgt
            have hp0 : p < 18446744073709551616 := by
              have : q * y0 ≤ 4294967295 * 4294967295 := Int.mul_le_mul (by omega) (by omega) by0 (by omega)
              omega
            have epp : q * y0 = p := hp.symm
            have hp00 : 0 ≤ p := by rw [hp]; exact Int.mul_nonneg bq by0
            obtain ⟨q', hq'⟩ : ∃ q', q' = q - 1 := ⟨_, rfl⟩
            have HQ := hid hq'
            have HI2 := hid (show q' * y1 + (r + y1) = R by rw [hq', Int.sub_mul]; have := HI.out; omega)
            have HJ2 := hid (show R * 4294967296 + u0 < (q' + 1) * Y by rw [hq', Int.sub_add_cancel]; exact hgt)
            have bq' : 0 ≤ q' := by omega
            have ewq : IntKind.u64.wrap q' = q' := wrap_u64_in bq' (by omega)
            have eqm : q - 1 = q' := hq'.symm
            clear hq' hp hgt
            by_cases hbr : 4294967296 ≤ r + y1
            · have HQ1 := hid (dg_end (by omega) (dg_break YE.out by0 by0' (by omega) hR1 (by omega) bq' HI2.out hbr) HJ2.out).1
              go_wp2
              go_ret2
              exact DivP_mk (by
                rw [← HQE.out]
                have h := KT.out u1 u0 Q R q' LE.out HQR.out.1 HQR.out.2 HQ1.out
                have h2 := KT2.out
                try simp only [IntKind.wrap_u64]
                omega)
            · go_wp2
              go_round
              case rel => exact ⟨q', r + y1, rfl, rfl, bq', by omega, by omega, HI2, HJ2⟩
              case measure => have := HQ.out; simp [intOf]; omega
          · obtain ⟨p, hp⟩ : ∃ p, p = q * y0 := ⟨_, rfl⟩
            have hpt : p ≤ 4294967296 * r + u0 := by
              rw [hp]
              rcases Int.lt_or_le (4294967296 * r + u0) (q * y0) with h | h
              · have := HT.out.1 h
                omega
              · exact h
            have epp : q * y0 = p := hp.symm
            have hp00 : 0 ≤ p := by rw [hp]; exact Int.mul_nonneg bq by0
            have HQ1 := hid (dg_end (by omega) hle HJ.out).1
            clear hp hle
            obtain ⟨q', hq'⟩ : ∃ q', q' = q := ⟨_, rfl⟩
            rw [← hq'] at epp HQ1 HI HJ HT HBIG bq hsm ⊢
            clear hq'
            go_wp2
            go_ret2
            exact DivP_mk (by
              rw [← HQE.out]
              have h := KT.out u1 u0 Q R q' LE.out HQR.out.1 HQR.out.2 HQ1.out
              have h2 := KT2.out
              try simp only [IntKind.wrap_u64]
              omega)
      · go_wp2
        go_round
        case rel => exact ⟨q', r + y1, rfl, rfl, bq', by omega, by omega, HI2, HJ2⟩
        case measure => have := HQ.out; simp [intOf]; omega
    · obtain ⟨p, hp⟩ : ∃ p, p = q * y0 := ⟨_, rfl⟩
      have hpt : p ≤ 4294967296 * r + u1 := by
        rw [hp]
        rcases Int.lt_or_le (4294967296 * r + u1) (q * y0) with h | h
        · have := HT.out.1 h
          omega
        · exact h
      have epp : q * y0 = p := hp.symm
      have hp00 : 0 ≤ p := by rw [hp]; exact Int.mul_nonneg bq by0
      have HQ1 := hid (dg_end (by omega) hle HJ.out).1
      clear hp hle
      obtain ⟨q', hq'⟩ : ∃ q', q' = q := ⟨_, rfl⟩
      rw [← hq'] at epp HQ1 HI HJ HT HBIG bq hsm ⊢
      clear hq'
      obtain ⟨Q, hQe⟩ : ∃ Q, Q = q' := ⟨_, rfl⟩
      obtain ⟨R, hRe⟩ : ∃ R, R = (U * 4294967296 + u1) % Y := ⟨_, rfl⟩
      have HQE := hid hQe
      have HQR := hid (show Q = (U * 4294967296 + u1) / Y ∧ R = (U * 4294967296 + u1) % Y from ⟨by rw [hQe]; exact HQ1.out, hRe⟩)
      have eR : IntKind.u64.wrap (IntKind.u64.wrap (IntKind.u64.wrap (U * 4294967296) + u1) - IntKind.u64.wrap (q' * Y)) = R := by
        rw [hRe]; exact rem_wrap HQ1.out (by omega) hY1
      have hR0 : 0 ≤ R := by rw [hRe]; exact Int.emod_nonneg _ (by omega)
      have hR1 : R < Y := by rw [hRe]; exact Int.emod_lt_of_pos _ (by omega)
      have IN2 := hid (dg_init (U := R) (y1 := y1) u0 Y y0 YE.out by0 (by omega) hR0 bu0')
      obtain ⟨t, ht⟩ : ∃ t, t = R / y1 := ⟨_, rfl⟩
      obtain ⟨r2, hr2⟩ : ∃ r2, r2 = R % y1 := ⟨_, rfl⟩
      have eq2 : R / y1 = t := ht.symm
      have er2 : IntKind.u64.wrap (R - IntKind.u64.wrap (t * y1)) = r2 := by
        obtain ⟨a, b, c, d, -⟩ := IN2.out
        rw [← ht] at a b
        rw [← hr2] at a c d
        have h0 : 0 ≤ t * y1 := Int.mul_nonneg b (by omega)
        rw [wrap_u64_in h0 (by omega), wrap_u64_in (by omega) (by omega)]
        omega
      rw [← ht, ← hr2] at IN2
      clear ht hr2 hRe hQe
      go_wp2
      go_loop [18, 16] (fun x z => ∃ (q r : Int), x = .int .u64 q ∧ z = .int .u64 r ∧ 0 ≤ q ∧ 0 ≤ r ∧ r < 4294967296 ∧ Hid (q * y1 + r = R) ∧ Hid (R * 4294967296 + u0 < (q + 1) * Y)) (fun x _ => (intOf x).toNat)
      case atStart => exact ⟨_, _, rfl, rfl, by first | exact IN2.out.2.1 | (rw [eq2]; exact IN2.out.2.1), IN2.out.2.2.1, by have := IN2.out.2.2.2.1; omega, hid (by first | exact IN2.out.1 | (rw [eq2]; exact IN2.out.1)), hid (by first | exact IN2.out.2.2.2.2 | (rw [eq2]; exact IN2.out.2.2.2.2))⟩
      case round =>
        clear er2 eq2
        obtain ⟨q, r, rfl, rfl, bq, br, br', HI, HJ⟩ := hrel
        have bqU : q ≤ R := by
          have h := HI.out
          have : q * 1 ≤ q * y1 := Int.mul_le_mul_of_nonneg_left (by omega) bq
          omega
        have HT := hid (dg_test (u := u0) YE.out HI.out)
        have hup : 4294967296 ≤ q ∨ (q < 4294967296 ∧ R * 4294967296 + u0 < q * Y) ∨ (q < 4294967296 ∧ q * Y ≤ R * 4294967296 + u0) := by omega
        have HBIG := hid (dg_big (u := u0) (q := q) hR1 (by omega) hR0)
        rcases hup with hbig | ⟨hsm, hgt⟩ | ⟨hsm, hle⟩
        · have hq1 : 1 ≤ q := by omega
          have HT2 := hid (HBIG.out hbig)
          obtain ⟨q', hq'⟩ : ∃ q', q' = q - 1 := ⟨_, rfl⟩
          have HQ := hid hq'
          have HI2 := hid (show q' * y1 + (r + y1) = R by rw [hq', Int.sub_mul]; have := HI.out; omega)
          have HJ2 := hid (show R * 4294967296 + u0 < (q' + 1) * Y by rw [hq', Int.sub_add_cancel]; exact HT2.out)
          have bq' : 0 ≤ q' := by omega
          have ewq : IntKind.u64.wrap q' = q' := wrap_u64_in bq' (by omega)
          have eqm : q - 1 = q' := hq'.symm
          clear hq'
          by_cases hbr : 4294967296 ≤ r + y1
          · have HQ1 := hid (dg_end (by omega) (dg_break YE.out by0 by0' (by omega) hR1 (by omega) bq' HI2.out hbr) HJ2.out).1
            go_wp2
            go_ret2
            exact DivP_mk (by
              rw [← HQE.out]
              have h := KT.out u1 u0 Q R q' LE.out HQR.out.1 HQR.out.2 HQ1.out
              have h2 := KT2.out
              try simp only [IntKind.wrap_u64]
              omega)
          · go_wp2
            go_round
            case rel => exact ⟨q', r + y1, rfl, rfl, bq', by omega, by omega, HI2, HJ2⟩
            case measure => have := HQ.out; simp [intOf]; omega
        · have hq1 : 1 ≤ q := by
            rcases Int.lt_or_le 0 q with h | h
            · omega
            · have : q = 0 := by omega
              subst this
              omega
          obtain ⟨p, hp⟩ : ∃ p, p = q * y0 := ⟨_, rfl⟩
          have hpt : 4294967296 * r + u0 < p := by rw [hp]; exact HT.out.2 hgt
          have hp0 : p < 18446744073709551616 := by
            have : q * y0 ≤ 4294967295 * 4294967295 := Int.mul_le_mul (by omega) (by omega) by0 (by omega)
            omega
          have epp : q * y0 = p := hp.symm
          have hp00 : 0 ≤ p := by rw [hp]; exact Int.mul_nonneg bq by0
          obtain ⟨q', hq'⟩ : ∃ q', q' = q - 1 := ⟨_, rfl⟩
          have HQ := hid hq'
          have HI2 := hid (show q' * y1 + (r + y1) = R by rw [hq', Int.sub_mul]; have := HI.out; omega)
          have HJ2 := hid (show R * 4294967296 + u0 < (q' + 1) * Y by rw [hq', Int.sub_add_cancel]; exact hgt)
          have bq' : 0 ≤ q' := by omega
          have ewq : IntKind.u64.wrap q' = q' := wrap_u64_in bq' (by omega)
          have eqm : q - 1 = q' := hq'.symm
          clear hq' hp hgt
          by_cases hbr : 4294967296 ≤ r + y1
          · have HQ1 := hid (dg_end (by omega) (dg_break YE.out by0 by0' (by omega) hR1 (by omega) bq' HI2.out hbr) HJ2.out).1
            go_wp2
            go_ret2
            exact DivP_mk (by
              rw [← HQE.out]
              have h := KT.out u1 u0 Q R q' LE.out HQR.out.1 HQR.out.2 HQ1.out
              have h2 := KT2.out
              try simp only [IntKind.wrap_u64]
              omega)
          · go_wp2
            go_round
            case rel => exact ⟨q', r + y1, rfl, rfl, bq', by omega, by omega, HI2, HJ2⟩
            case measure => have := HQ.out; simp [intOf]; omega
        · obtain ⟨p, hp⟩ : ∃ p, p = q * y0 := ⟨_, rfl⟩
          have hpt : p ≤ 4294967296 * r + u0 := by
            rw [hp]
            rcases Int.lt_or_le (4294967296 * r + u0) (q * y0) with h | h
            · have := HT.out.1 h
              omega
            · exact h
          have epp : q * y0 = p := hp.symm
          have hp00 : 0 ≤ p := by rw [hp]; exact Int.mul_nonneg bq by0
          have HQ1 := hid (dg_end (by omega) hle HJ.out).1
          clear hp hle
          obtain ⟨q', hq'⟩ : ∃ q', q' = q := ⟨_, rfl⟩
          rw [← hq'] at epp HQ1 HI HJ HT HBIG bq hsm ⊢
          clear hq'
          go_wp2
          go_ret2
          exact DivP_mk (by
            rw [← HQE.out]
            have h := KT.out u1 u0 Q R q' LE.out HQR.out.1 HQR.out.2 HQ1.out
            have h2 := KT2.out
            try simp only [IntKind.wrap_u64]
            omega)
end Go.Proofs.Yteanocjkdehhgaa
