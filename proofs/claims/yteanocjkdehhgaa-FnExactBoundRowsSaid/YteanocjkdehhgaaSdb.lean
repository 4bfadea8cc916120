/- The reference's search of a quotient's limb. -/
import Derived.Test.YteanocjkdehhgaaSda
import Derived.Test.YteanocjkdehhgaaTim
namespace Go.Proofs.Yteanocjkdehhgaa
open Go.RowKit
open Go.Lib (hid)
set_option linter.unusedVariables false

theorem mul_bd {x y P Q : Int} (hx0 : 0 ≤ x) (hx : x < P) (hy0 : 0 ≤ y) (hy : y < Q) : 0 ≤ x * y ∧ x * y < P * Q := by
  refine ⟨Int.mul_nonneg hx0 hy0, ?_⟩
  calc x * y ≤ x * Q := Int.mul_le_mul_of_nonneg_left (by omega) hx0
    _ < P * Q := Int.mul_lt_mul_of_pos_right hx (by omega)
theorem le_quot {r b q : Int} (hb : 0 < b) : b * q ≤ r ↔ q ≤ r / b := by
  rw [Int.le_ediv_iff_mul_le hb, Int.mul_comm]

set_option maxRecDepth 100000 in
set_option maxHeartbeats 3200000 in
theorem l02Digit_any (a a' : Option Addr) (n n' c c' : Nat) (R B : List Int) (hR : R.length ≤ 1000) (hB : B.length ≤ 60) (CR : Can R) (CB : Can B) (b0 : 0 < val B) (hlt : val R < val B * 1000000000) (w : World) (h1 : RowI w a n R) (h2 : RowI w a' n' B) :
    Calls Try.prog 145 #[.slice a n c, .slice a' n' c'] w (RetB (.int .i64 (val R / val B)) w) := by
  have R1 := hid h1
  have R2 := hid h2
  obtain ⟨Q, hQ⟩ : ∃ Q, Q = val R / val B := ⟨_, rfl⟩
  have HLE := hid (fun q => le_quot (r := val R) (q := q) b0)
  have Q0 := hid (show 0 ≤ Q ∧ Q ≤ 999999999 by
    rw [hQ]
    have a1 := Int.ediv_nonneg (val_nonneg CR.1) (show 0 ≤ val B by omega)
    have a2 : val R / val B < 1000000000 := Int.ediv_lt_of_lt_mul b0 (by rw [Int.mul_comm]; exact hlt)
    omega)
  rw [← hQ] at HLE
  rw [← hQ]
  have C1 := hid CR
  have C2 := hid CB
  have HB := hid (Below.refl w.heap.size w)
  clear h1 h2 CR CB hQ hlt b0
  go_enter Try.func145, Try.ntmps145
  go_wp2
  go_loopw [5, 6] (fun x y wr => ∃ l h : Int, x = .int .i64 l ∧ y = .int .i64 h ∧ 0 ≤ l ∧ h ≤ 999999999 ∧ l ≤ Q ∧ Q ≤ h ∧ Below w.heap.size w wr) (fun x y _ => (intOf y - intOf x).toNat)
  case atStart => exact ⟨0, 999999999, rfl, rfl, by decide, by decide, Q0.out.1, Q0.out.2, HB.out⟩
  case round =>
    clear HB
    obtain ⟨l, h, rfl, rfl, l0, h1, lq, qh, hb⟩ := hrel
    have HB := hid hb
    clear hb
    by_cases hl : l < h
    · obtain ⟨q, hq⟩ : ∃ q, q = (l + h + 1) / 2 := ⟨_, rfl⟩
      have q0 : l < q := by omega
      have q1 : q ≤ h := by omega
      have hq' : (l + h + 1) / 2 = q := hq.symm
      have KO := hid (fun W => spec_NatOf q (by omega) W)
      have vq := hid (val_rep' (V := q) (by omega))
      have lr := hid (rep_short (n := q) (by omega))
      have HD := hid (HLE.out q)
      clear hq
      go_wp2_with fail
      (with_reducible refine (KO.out _).mono ?_)
      rintro e w1 ⟨v1, rfl, hi, b1⟩
      obtain ⟨ai, ci, rfl, -, ri, -⟩ := Ints_form hi
      have HB := hid (HB.out.trans (b1.mono HB.out.size))
      have KM := hid (l02Mul_any a' ai n' (rep q.toNat).length c' ci B (rep q.toNat) (by omega) (by have := lr.out; omega) C2.out.1 (Can_rep _).1 w1 (RowI_old R2.out HB.out) ri)
      rw [vq.out] at KM
      clear hi ri b1 KO
      obtain ⟨p, hp⟩ : ∃ p, p = val B * q := ⟨_, rfl⟩
      rw [← hp] at KM HD
      have p0 : 0 ≤ p := by rw [hp]; exact Int.mul_nonneg (val_nonneg C2.out.1) (by omega)
      have HL := hid (show (rep p.toNat).length ≤ 61 from rep_len' (by
        have a1 := mul_bd (val_nonneg C2.out.1) ((Can_len C2.out).1 hB) (show 0 ≤ q by omega) (show q < 1000000000 by omega)
        have a2 : pw 61 = pw 60 * 1000000000 := by decide
        rw [a2, hp]; exact a1.2))
      clear hp
      go_wp2_with fail
      (with_reducible refine KM.out.mono ?_)
      rintro e w2 ⟨v2, rfl, hi, b1⟩
      obtain ⟨am, cm, rfl, -, ri, -⟩ := Ints_form hi
      have HB := hid (HB.out.trans (b1.mono HB.out.size))
      have KC := hid (l02Cmp_any am a (rep p.toNat).length n cm c (rep p.toNat) R (by have := HL.out; omega) (by omega) w2 ri (RowI_old R1.out HB.out))
      rw [cmpL_val (Can_rep _) C1.out, val_rep' p0] at KC
      obtain ⟨s, hs⟩ : ∃ s, s = sgn (p - val R) := ⟨_, rfl⟩
      rw [← hs] at KC
      have hsc := sgn_cases (p - val R)
      rw [← hs] at hsc
      clear hi ri b1 KM hs p0
      by_cases hle : p ≤ val R
      · have hqQ : q ≤ Q := HD.out.1 hle
        have hs0 : s ≤ 0 := by omega
        clear hsc hle
        go_wp2_with fail
        (with_reducible refine KC.out.mono ?_)
        rintro e w3 ⟨rfl, d, rfl⟩
        go_wp2
        go_roundw
        case rel => exact ⟨q, h, rfl, rfl, by omega, h1, hqQ, qh, below_drewN HB.out d⟩
        case measure => simp [intOf]; omega
      · have hqQ : ¬ q ≤ Q := fun h => hle (HD.out.2 h)
        have hs0 : ¬ s ≤ 0 := by omega
        clear hsc hle
        go_wp2_with fail
        (with_reducible refine KC.out.mono ?_)
        rintro e w3 ⟨rfl, d, rfl⟩
        go_wp2
        go_roundw
        case rel => exact ⟨l, q - 1, rfl, rfl, l0, by omega, lq, by omega, below_drewN HB.out d⟩
        case measure => simp [intOf]; omega
    · have e : l = Q := by omega
      subst e
      go_wp2
      go_ret
      exact ⟨rfl, HB.out⟩
end Go.Proofs.Yteanocjkdehhgaa
