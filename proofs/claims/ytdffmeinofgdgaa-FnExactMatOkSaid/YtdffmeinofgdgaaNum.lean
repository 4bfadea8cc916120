/- Steps of the arithmetic on limbs: a limb set with its carry, sums, products, quotients. No program text. -/
import Derived.Test.YtdffmeinofgdgaaVal
namespace Go.Proofs.Ytdffmeinofgdgaa

theorem set_step {L : List Int} {k : Nat} (hk : k < L.length) {x y : Int} (hx : x = L[k] + y) : val (L.set k (x % 1000000000)) + (x / 1000000000) * pw (k + 1) = val L + y * pw k := by
  rw [val_set hk]
  have e : x = 1000000000 * (x / 1000000000) + x % 1000000000 := by omega
  have h : x % 1000000000 - L[k] + (x / 1000000000) * 1000000000 = y := by omega
  simp only [pw]
  rw [← h]
  grind
/-- A carry: what is at limb i with the carry c. -/
theorem carry_pos {L : List Int} (hL : Lim L) {i : Nat} (hi : L.length ≤ i) {c : Int} (h0 : 0 ≤ val L + c * pw i) (hc : c ≠ 0) : 0 < c := by
  have h1 := val_lt hL
  have h2 := pw_le hi
  rcases Int.lt_or_le c 0 with h | h
  · have : (c + 1) * pw i ≤ 0 := Int.mul_nonpos_of_nonpos_of_nonneg (by omega) (by have := pw_pos i; omega)
    rw [Int.add_mul] at this
    omega
  · omega
theorem pad_at {L : List Int} {n i : Nat} (h : L.length ≤ i) (hi : i < (L ++ List.replicate (n - L.length) 0).length) : (L ++ List.replicate (n - L.length) (0 : Int))[i] = 0 := by
  rw [List.getElem_append_right h]; simp
theorem pad_len {L : List Int} {n : Nat} : (L ++ List.replicate (n - L.length) (0 : Int)).length = max L.length n := by simp; omega
theorem Lim_pad {L : List Int} (h : Lim L) (k : Nat) : Lim (L ++ List.replicate k 0) := Lim_append h (Lim_zeros k)
/-- The bounds of one step of a multiplication. -/
theorem mul_step {x m f c : Int} (hx : 0 ≤ x ∧ x < 1000000000) (hm : 0 ≤ m ∧ m < 1000000000) (hf : -1000000000 < f ∧ f < 1000000000) (hc : -1000000000 < c ∧ c < 1000000000) :
    -1000000000000000000 < m * f ∧ m * f < 1000000000000000000 ∧ -1000000000 < (x + m * f + c) / 1000000000 ∧ (x + m * f + c) / 1000000000 < 1000000000 := by
  have h1 : m * f ≤ 999999999 * 999999999 := by
    rcases Int.lt_or_le f 0 with h | h
    · have : m * f ≤ 0 := Int.mul_nonpos_of_nonneg_of_nonpos hm.1 (by omega)
      omega
    · exact Int.mul_le_mul (by omega) (by omega) h (by omega)
  have h2 : -(999999999 * 999999999) ≤ m * f := by
    rcases Int.lt_or_le f 0 with h | h
    · have : m * (-f) ≤ 999999999 * 999999999 := Int.mul_le_mul (by omega) (by omega) (by omega) (by omega)
      rw [Int.mul_neg] at this
      omega
    · have : 0 ≤ m * f := Int.mul_nonneg hm.1 h
      omega
  omega
theorem mul_acc {L M : List Int} {s k : Nat} (hk : k < M.length) {V f c : Int} (hV : val L + c * pw (s + k) = V + f * val (M.take k) * pw s) :
    val L + (M[k] * f + c) * pw (s + k) = V + f * val (M.take (k + 1)) * pw s := by
  rw [val_take_succ hk, pw_add] at *
  grind
theorem can_rep_val {L : List Int} (hL : Lim L) (V : Int) (hv : val L = V) {n : Nat} (hn : n ≤ L.length) (hv2 : val (L.take n) = val L) (h0 : ∀ k (hk : k < L.length), n = k + 1 → L[k] ≠ 0) : L.take n = rep V.toNat := by
  rw [← hv]; exact trim_end hL hn hv2 h0
end Go.Proofs.Ytdffmeinofgdgaa
