/- Merged: Esu Esw Esy Tak Tal Imd. -/
import Derived.Test.YteanocjkdehhgaaNam
import Derived.Shelf.Spec.BitsCarry
import Derived.Test.YteanocjkdehhgaaDw
import Derived.Test.YteanocjkdehhgaaImm
import Derived.BigRegion
/- The estimate of a quotient's limb: the limbs at the top of the number against those of the divisor. -/

namespace Go.Proofs.Yteanocjkdehhgaa
open Go.RowKit
open Go.Lib (hid)
set_option linter.unusedVariables false

/-- A limb, zero on both sides of the list. -/
def at0 (L : List Int) (i : Int) : Int := if 0 ≤ i ∧ i < L.length then L.getD i.toNat 0 else 0
theorem at0_lim {L : List Int} (h : Lim L) (i : Int) : 0 ≤ at0 L i ∧ at0 L i < 1000000000 := by
  unfold at0
  split
  · next hh =>
    have hk : i.toNat < L.length := by omega
    have := Lim_at h hk
    simpa [hk] using this
  · omega
theorem at0_in {L : List Int} {k : Nat} (hk : k < L.length) : at0 L k = L[k] := by
  unfold at0
  rw [if_pos ⟨by omega, by omega⟩]
  simp [hk]
theorem at0_out {L : List Int} {i : Int} (h : i < 0 ∨ (L.length : Int) ≤ i) : at0 L i = 0 := by
  unfold at0
  rw [if_neg (by omega)]
theorem drop_at0 {L : List Int} (k : Nat) : val (L.drop k) = at0 L k + 1000000000 * val (L.drop (k + 1)) := by
  by_cases hk : k < L.length
  · rw [val_drop hk, at0_in hk]
  · rw [at0_out (.inr (by omega)), val_drop_end (by omega), val_drop_end (by omega)]; rfl
theorem take_at0 {L : List Int} (k : Nat) : val (L.take (k + 1)) = val (L.take k) + pw k * at0 L k := by
  by_cases hk : k < L.length
  · rw [val_take_succ hk, at0_in hk]
  · rw [at0_out (.inr (by omega)), List.take_of_length_le (by omega), List.take_of_length_le (by omega)]; simp
theorem split_at0 (L : List Int) (k : Nat) : val L = val (L.take k) + pw k * val (L.drop k) := by
  by_cases hk : k ≤ L.length
  · exact val_split L hk
  · rw [List.take_of_length_le (by omega), val_drop_end (by omega)]; simp
theorem take_lt {L : List Int} (h : Lim L) (k : Nat) : 0 ≤ val (L.take k) ∧ val (L.take k) < pw k := by
  refine ⟨val_nonneg (Lim_take h k), ?_⟩
  have h1 := val_lt (Lim_take h k)
  have h2 := pw_le (m := (L.take k).length) (n := k) (by rw [List.length_take]; omega)
  omega
/-- The three limbs at and below place j, times B^(j-1), are the number times B up to less than B^(j-1): where no limb lies above j. -/
theorem window {L : List Int} (h : Lim L) {j : Nat} (hj : 1 ≤ j) (hv : val L < pw (j + 1)) :
    ∃ r, 0 ≤ r ∧ r < pw (j - 1) ∧ val L * 1000000000 = ((at0 L j * 1000000000 + at0 L (j - 1 : Int)) * 1000000000 + at0 L (j - 2 : Int)) * pw (j - 1) + r := by
  have s1 := split_at0 L (j + 1)
  have t1 := take_lt h (j + 1)
  have d0 : val (L.drop (j + 1)) = 0 := by
    have hd := val_nonneg (Lim_drop h (j + 1))
    rcases Int.lt_or_le 0 (val (L.drop (j + 1))) with hp | hp
    · have : pw (j + 1) * 1 ≤ pw (j + 1) * val (L.drop (j + 1)) := Int.mul_le_mul_of_nonneg_left (by omega) (by have := pw_pos (j + 1); omega)
      omega
    · omega
  rw [d0] at s1
  have e1 := take_at0 (L := L) j
  obtain ⟨m, rfl⟩ : ∃ m, j = m + 1 := ⟨j - 1, by omega⟩
  have e2 := take_at0 (L := L) m
  have i1 : ((m + 1 : Nat) : Int) - 1 = (m : Int) := by omega
  rw [i1, Nat.add_sub_cancel]
  cases m with
  | zero =>
    refine ⟨0, by decide, by decide, ?_⟩
    have z : at0 L (((0 + 1 : Nat) : Int) - 2) = 0 := at0_out (.inl (by omega))
    rw [z]
    have t0 : val (L.take 0) = 0 := by simp [val]
    rw [t0] at e2
    simp only [pw] at e1 e2 s1 ⊢
    have hx : at0 L ((0 + 1 : Nat) : Int) = at0 L 1 := rfl
    have hy : at0 L ((0 : Nat) : Int) = at0 L 0 := rfl
    omega
  | succ m =>
    have e3 := take_at0 (L := L) m
    have t3 := take_lt h m
    have i2 : ((m + 1 + 1 : Nat) : Int) - 2 = (m : Int) := by omega
    rw [i2]
    refine ⟨val (L.take m) * 1000000000, by omega, by simp only [pw]; omega, ?_⟩
    simp only [pw] at *
    grind
theorem est_le {R D nv d1 r d' P : Int} (hP : 0 < P) (hD : D = d1 * P + d') (hd0 : 0 ≤ d') (hd1 : d' < P) (hdv : 1000000000 ≤ d1) (hR : R = nv * P + r) (hr0 : 0 ≤ r) (hr1 : r < P) (hn : 0 ≤ nv) (hRD : R < 1000000000 * D) :
    (nv / (d1 + 1)) * D ≤ R ∧ R < (nv / (d1 + 1) + 2) * D ∧ 0 ≤ nv / (d1 + 1) ∧ nv / (d1 + 1) < 1000000000 := by
  obtain ⟨t, ht⟩ : ∃ t, t = nv / (d1 + 1) := ⟨_, rfl⟩
  have a := Int.emod_add_ediv_mul nv (d1 + 1)
  have b := Int.emod_nonneg nv (show d1 + 1 ≠ 0 by omega)
  have c := Int.emod_lt_of_pos nv (show 0 < d1 + 1 by omega)
  have t0 := Int.ediv_nonneg hn (show 0 ≤ d1 + 1 by omega)
  rw [← ht] at a t0 ⊢
  obtain ⟨m, hm⟩ : ∃ m, m = nv % (d1 + 1) := ⟨_, rfl⟩
  rw [← hm] at a b c
  have hle : t * D ≤ R := by
    have h1 : t * D ≤ t * ((d1 + 1) * P) := Int.mul_le_mul_of_nonneg_left (by rw [hD, Int.add_mul]; omega) t0
    have h2 : t * ((d1 + 1) * P) ≤ nv * P := by
      rw [← Int.mul_assoc]
      exact Int.mul_le_mul_of_nonneg_right (by omega) (by omega)
    omega
  have hDpos : 0 < D := by
    have : 0 < d1 * P := Int.mul_pos (by omega) hP
    omega
  have ht9 : t < 1000000000 := by
    have : t * D < 1000000000 * D := by omega
    exact Int.lt_of_mul_lt_mul_right this (by omega)
  refine ⟨hle, ?_, t0, ht9⟩
  have h3 : nv * P + P ≤ (t + 1) * (d1 + 1) * P := by
    have : nv + 1 ≤ (t + 1) * (d1 + 1) := by rw [Int.add_mul]; omega
    have h := Int.mul_le_mul_of_nonneg_right this (show 0 ≤ P by omega)
    rw [Int.add_mul] at h; omega
  have h4 : (t + 1) * (d1 + 1) * P = (t + 1) * (d1 * P) + (t + 1) * P := by grind
  have h5 : (t + 1) * P ≤ d1 * P := Int.mul_le_mul_of_nonneg_right (by omega) (by omega)
  have h6 : (t + 1) * (d1 * P) ≤ (t + 1) * D := Int.mul_le_mul_of_nonneg_left (by omega) (by omega)
  have h7 : (t + 2) * D = (t + 1) * D + D := by grind
  omega
end Go.Proofs.Yteanocjkdehhgaa

/- The estimate of a quotient's limb: the program's walk. -/
namespace Go.Proofs.Yteanocjkdehhgaa
open Go.RowKit
open Go.Lib (hid)
set_option linter.unusedVariables false

theorem add64_0 (x y : Int) (hx0 : 0 ≤ x) (hx : x < 18446744073709551616) (hy0 : 0 ≤ y) (hy : y < 18446744073709551616) (w : World) :
    (callFunc 165 #[.int .u64 x, .int .u64 y, .int .u64 0]).run Try.prog w =
      .ok (.value (.tuple #[.int .u64 ((x + y) % 18446744073709551616), .int .u64 ((x + y) / 18446744073709551616)])) w := by
  obtain ⟨X, rfl⟩ := Int.eq_ofNat_of_zero_le hx0
  obtain ⟨Y, rfl⟩ := Int.eq_ofNat_of_zero_le hy0
  have e : ∀ Z : Nat, Z ≤ 1 → (callFunc 165 #[.int .u64 (X : Int), .int .u64 (Y : Int), .int .u64 (Z : Int)]).run Try.prog w =
      .ok (.value (.tuple #[.int .u64 (((X + Y + Z) % 18446744073709551616 : Nat) : Int), .int .u64 (((X + Y + Z) / 18446744073709551616 : Nat) : Int)])) w := by
    intro Z hZ
    rw [run_callFunc_extern Try.func165 (by kernel_rfl) (by kernel_rfl) (by kernel_rfl) (e := add64Entry) (by kernel_rfl), run_add64 X Y Z (by omega) (by omega) (by omega) (by omega)]
    simp only [Result.andThen]
    congr 5 <;> omega
  refine (e 0 (by decide)).trans ?_
  congr 5 <;> omega

theorem quiet_left {P : Program} {f : FuncId} {args : Array Value} {w : World} {n : Nat} {v : Value}
    (h : Calls P f args (w.drewN n) fun e w' => e = .returned v ∧ w.drewN n = w') : Calls P f args (w.drewN n) fun e w'' => e = .returned v ∧ ∃ m, w'' = w.drewN m :=
  h.mono fun _ _ ⟨he, hm⟩ => ⟨he, n, hm.symm⟩
theorem quiet_right {P : Program} {f : FuncId} {args : Array Value} {w : World} {n : Nat} {v : Value}
    (h : Calls P f args (w.drewN n) fun e w' => e = .returned v ∧ w' = w.drewN n) : Calls P f args (w.drewN n) fun e w'' => e = .returned v ∧ ∃ m, w'' = w.drewN m :=
  h.mono fun _ _ ⟨he, hm⟩ => ⟨he, n, hm⟩

set_option maxRecDepth 100000 in
set_option maxHeartbeats 800000 in
theorem limbAt_any (a : Option Addr) (n c : Nat) (L : List Int) (i : Int) (hL : L.length ≤ 1073741824) (i0 : -1000 ≤ i) (i1 : i ≤ 1073741824) (w : World) (h : RowI w a n L) :
    Calls Try.prog 163 #[.slice a n c, .int .i64 i] w fun e w' => e = .returned (.int .i64 (at0 L i)) ∧ w = w' := by
  obtain ⟨rfl, H1⟩ := h
  have G1 := hid H1
  clear H1
  obtain ⟨x, hx⟩ : ∃ x, x = at0 L i := ⟨_, rfl⟩
  have HX := hid hx
  rw [← hx]
  clear hx
  by_cases h0 : i < 0
  · have hE := hid (HX.out.trans (at0_out (.inl h0)))
    go_enter Try.func163, Try.ntmps163
    go_wp2
    go_ret
    exact ⟨ret_int hE.out.symm, rfl⟩
  · by_cases h1 : (L.length : Int) ≤ i
    · have hE := hid (HX.out.trans (at0_out (.inr h1)))
      have h0' : ¬ i < 0 := h0
      go_enter Try.func163, Try.ntmps163
      go_wp2
      go_ret
      exact ⟨ret_int hE.out.symm, rfl⟩
    · obtain ⟨k, rfl⟩ : ∃ k : Nat, i = k := ⟨i.toNat, by omega⟩
      have hk : k < L.length := by omega
      have hE := hid (HX.out.trans (at0_in hk))
      obtain ⟨g, o, rfl, -, hc⟩ := G1.out (by omega)
      have q := hc k hk
      obtain ⟨y, hy⟩ : ∃ y, y = L[k] := ⟨_, rfl⟩
      rw [← hy] at q hE
      clear hy hc
      have a1 : (k : Int) < L.length := by omega
      have a0 : (0 : Int) ≤ k := by omega
      go_enter Try.func163, Try.ntmps163
      go_wp2
      go_ret
      exact ⟨ret_int hE.out.symm, rfl⟩

/-- The estimate: never more than the quotient, at most one less. -/
def EstP (R D : Int) (w : World) (e : Ending) (w' : World) : Prop := ∃ t d, e = .returned (.int .i64 t) ∧ 0 ≤ t ∧ t < 1000000000 ∧ t * D ≤ R ∧ R < (t + 2) * D ∧ w' = w.drewN d

theorem top_big {M : List Int} (hM : Can M) (hne : M ≠ []) : 1 ≤ at0 M ((M.length : Int) - 1) := by
  have hl : 0 < M.length := List.length_pos_iff.mpr hne
  have h1 := hM.2 hne
  rw [List.getLast_eq_getElem] at h1
  have e : ((M.length : Int) - 1) = ((M.length - 1 : Nat) : Int) := by omega
  rw [e, at0_in (by omega)]
  have := Lim_at hM.1 (i := M.length - 1) (by omega)
  omega
theorem est_ok {L M : List Int} {s : Nat} (hL : Lim L) (hM : Can M) (hne : M ≠ []) (hR : val L < 1000000000 * (val M * pw s)) {nv d1 : Int}
    (hn : nv = (at0 L ((M.length : Int) + s) * 1000000000 + at0 L ((M.length : Int) + s - 1)) * 1000000000 + at0 L ((M.length : Int) + s - 2))
    (hd : d1 = at0 M ((M.length : Int) - 1) * 1000000000 + at0 M ((M.length : Int) - 2)) :
    (nv / (d1 + 1)) * (val M * pw s) ≤ val L ∧ val L < (nv / (d1 + 1) + 2) * (val M * pw s) ∧ 0 ≤ nv / (d1 + 1) ∧ nv / (d1 + 1) < 1000000000 := by
  have hl : 0 < M.length := List.length_pos_iff.mpr hne
  have hMv := val_lt hM.1
  have hps := pw_pos s
  have ej : ((M.length + s : Nat) : Int) = (M.length : Int) + s := by omega
  have hbig : val L < pw (M.length + s + 1) := by
    have h1 : val M * pw s ≤ pw M.length * pw s := Int.mul_le_mul_of_nonneg_right (by omega) (by omega)
    have h2 := pw_add M.length s
    show val L < 1000000000 * pw (M.length + s)
    rw [h2]; omega
  obtain ⟨r, r0, r1, re⟩ := window hL (j := M.length + s) (by omega) hbig
  rw [ej] at re
  have hbm : val M < pw (M.length + 1) := by
    have := pw_pos M.length
    show val M < 1000000000 * pw M.length
    omega
  obtain ⟨d, d0, d2, de⟩ := window hM.1 (j := M.length) (by omega) hbm
  rw [at0_out (L := M) (i := (M.length : Int)) (.inr (by omega))] at de
  have htop := top_big hM hne
  have hlow := at0_lim hM.1 ((M.length : Int) - 2)
  have hP := pw_pos (M.length + s - 1)
  have e1 : pw (M.length + s - 1) = pw (M.length - 1) * pw s := by
    rw [show M.length + s - 1 = (M.length - 1) + s by omega, pw_add]
  have n0 : 0 ≤ nv := by
    have a := at0_lim hL ((M.length : Int) + s)
    have b := at0_lim hL ((M.length : Int) + s - 1)
    have c := at0_lim hL ((M.length : Int) + s - 2)
    omega
  have key := est_le (R := val L * 1000000000) (D := val M * pw s * 1000000000) (nv := nv) (d1 := d1) (r := r) (d' := d * pw s) (P := pw (M.length + s - 1)) hP
    (by
      rw [e1, hd]
      have : val M * pw s * 1000000000 = val M * 1000000000 * pw s := by grind
      rw [this, de]; grind)
    (Int.mul_nonneg d0 (by omega)) (by rw [e1]; exact Int.mul_lt_mul_of_pos_right d2 hps) (by rw [hd]; omega) (by rw [hn, re]) r0 r1 n0 (by omega)
  obtain ⟨k1, k2, k3, k4⟩ := key
  refine ⟨?_, ?_, k3, k4⟩
  · have : nv / (d1 + 1) * (val M * pw s * 1000000000) = nv / (d1 + 1) * (val M * pw s) * 1000000000 := by grind
    omega
  · have : (nv / (d1 + 1) + 2) * (val M * pw s * 1000000000) = (nv / (d1 + 1) + 2) * (val M * pw s) * 1000000000 := by grind
    omega

theorem Div64_any (N y hi lo : Int) (hN : N = hi * 18446744073709551616 + lo) (h0 : 0 ≤ hi) (h1 : hi < y) (hy1 : y < 1152921504606846976) (hl0 : 0 ≤ lo) (hl1 : lo < 18446744073709551616) (w : World) :
    Calls Try.prog 166 #[.int .u64 hi, .int .u64 lo, .int .u64 y] w (fun e w' => ∃ r d, e = .returned (.tuple #[.int .u64 (N / y), .int .u64 r]) ∧ w' = w.drewN d) := by
  by_cases hz : hi = 0
  · subst hz
    refine (Div64_low lo y (by omega) hy1 hl0 hl1 w).mono ?_
    rintro e w' ⟨r, d, he, hw⟩
    exact ⟨r, d, by rw [he, hN, Int.zero_mul, Int.zero_add], hw⟩
  · refine (Div64_high hi lo y (by omega) h1 hy1 hl0 hl1 w).mono ?_
    rintro e w' ⟨⟨r, he⟩, hw⟩
    exact ⟨r, 0, by rw [he, hN], by subst hw; rfl⟩
end Go.Proofs.Yteanocjkdehhgaa

/- The estimate of a quotient's limb: the walk. -/
namespace Go.Proofs.Yteanocjkdehhgaa
open Go.RowKit
open Go.Lib (hid)
set_option linter.unusedVariables false
variable {Q : Rest}

set_option maxRecDepth 100000 in
set_option maxHeartbeats 6400000 in
theorem estimate_any (S : Nat → Prop) (N : Nat) (v : Value) (L M : List Int) (am : Option Addr) (nm cm : Nat) (s : Nat) (hs : s ≤ 100000) (hl : L.length ≤ 100000) (hm : M.length ≤ 100000) (hL : Lim L) (hM : Can M) (hne : M ≠ [])
    (hR : val L < 1000000000 * (val M * pw s)) (w : World) (h : IsNat Q w S N v L) (hr : RowI w am nm M) :
    Calls Try.prog 160 #[.pointer (some ⟨N, 0, none⟩), .slice am nm cm, .int .i64 s] w (EstP (val L) (val M * pw s) w) := by
  obtain ⟨e, he⟩ : ∃ e : Int, e = M.length := ⟨_, rfl⟩
  have OK : Hid (∀ (nv d1 : Int), nv = (at0 L ((M.length : Int) + s) * 1000000000 + at0 L ((M.length : Int) + s - 1)) * 1000000000 + at0 L ((M.length : Int) + s - 2) → d1 = at0 M ((M.length : Int) - 1) * 1000000000 + at0 M ((M.length : Int) - 2) → (nv / (d1 + 1)) * (val M * pw s) ≤ val L ∧ val L < (nv / (d1 + 1) + 2) * (val M * pw s) ∧ 0 ≤ nv / (d1 + 1) ∧ nv / (d1 + 1) < 1000000000) := hid (fun nv d1 hn hd => est_ok (nv := nv) (d1 := d1) hL hM hne hR hn hd)
  have b1 := at0_lim hM.1 ((M.length : Int) - 1)
  have b2 := at0_lim hM.1 ((M.length : Int) - 2)
  have btop := top_big hM hne
  have c2 := at0_lim hL ((M.length : Int) + s)
  have c1 := at0_lim hL ((M.length : Int) + s - 1)
  have c0 := at0_lim hL ((M.length : Int) + s - 2)
  obtain rfl : nm = M.length := hr.1
  have hMl : 1 ≤ M.length := List.length_pos_iff.mpr hne
  have KM1 := hid (fun d => limbAt_any am M.length cm M ((M.length : Int) - 1) (by omega) (by omega) (by omega) (w.drewN d) (RowI_drewN hr d))
  have KM2 := hid (fun d => limbAt_any am M.length cm M ((M.length : Int) - 2) (by omega) (by omega) (by omega) (w.drewN d) (RowI_drewN hr d))
  have hc := h.cell
  obtain ⟨a, c, rfl, -, hrow, -⟩ := Ints_form h.ints
  have KL2 := hid (fun d => limbAt_any a L.length c L ((M.length : Int) + s) (by omega) (by omega) (by omega) (w.drewN d) (RowI_drewN hrow d))
  have KL1 := hid (fun d => limbAt_any a L.length c L ((M.length : Int) + s - 1) (by omega) (by omega) (by omega) (w.drewN d) (RowI_drewN hrow d))
  have KL0 := hid (fun d => limbAt_any a L.length c L ((M.length : Int) + s - 2) (by omega) (by omega) (by omega) (w.drewN d) (RowI_drewN hrow d))
  obtain ⟨m1, hm1⟩ : ∃ x : Int, x = (M.length : Int) - 1 := ⟨_, rfl⟩
  obtain ⟨m2, hm2⟩ : ∃ x : Int, x = (M.length : Int) - 2 := ⟨_, rfl⟩
  obtain ⟨j2, hj2⟩ : ∃ x : Int, x = (M.length : Int) + s := ⟨_, rfl⟩
  obtain ⟨j1, hj1⟩ : ∃ x : Int, x = (M.length : Int) + s - 1 := ⟨_, rfl⟩
  obtain ⟨j0, hj0⟩ : ∃ x : Int, x = (M.length : Int) + s - 2 := ⟨_, rfl⟩
  rw [← hm1] at b1 btop KM1 OK
  rw [← hm2] at b2 KM2 OK
  rw [← hj1] at c1 KL1 OK
  rw [← hj0] at c0 KL0 OK
  rw [← hj2] at c2 KL2 OK
  obtain ⟨x1, hx1⟩ : ∃ x, x = at0 M m1 := ⟨_, rfl⟩
  obtain ⟨x2, hx2⟩ : ∃ x, x = at0 M m2 := ⟨_, rfl⟩
  obtain ⟨z2, hz2⟩ : ∃ x, x = at0 L j2 := ⟨_, rfl⟩
  obtain ⟨z1, hz1⟩ : ∃ x, x = at0 L j1 := ⟨_, rfl⟩
  obtain ⟨z0, hz0⟩ : ∃ x, x = at0 L j0 := ⟨_, rfl⟩
  rw [← hx1] at b1 btop KM1
  rw [← hx2] at b2 KM2
  rw [← hz2] at c2 KL2
  rw [← hz1] at c1 KL1
  rw [← hz0] at c0 KL0
  rw [← hx1, ← hx2, ← hz2, ← hz1, ← hz0] at OK
  clear hx1 hx2 hz2 hz1 hz0 hr hL hM hne hR hrow h he e
  obtain ⟨X, hX⟩ : ∃ X, X = z2 * 1000000000 + z1 := ⟨_, rfl⟩
  obtain ⟨Y, hY⟩ : ∃ Y, Y = x1 * 1000000000 + x2 + 1 := ⟨_, rfl⟩
  have OKK := hid (OK.out (X * 1000000000 + z0) (x1 * 1000000000 + x2) (by rw [hX]) rfl)
  rw [← hY] at OKK
  clear OK
  obtain ⟨b10, b11⟩ := b1
  obtain ⟨b20, b21⟩ := b2
  obtain ⟨c00, c01⟩ := c0
  obtain ⟨c10, c11⟩ := c1
  obtain ⟨c20, c21⟩ := c2
  have KMU := hid (fun W => Try.bits_Mul64 X.toNat 1000000000 (by omega) (by decide) W)
  have hXn : (X.toNat : Int) = X := by omega
  rw [hXn, show ((1000000000 : Nat) : Int) = 1000000000 from rfl] at KMU
  have hXb : 0 ≤ X ∧ X < 1000000000000000000 := by omega
  obtain ⟨hXb0, hXb1⟩ := hXb
  have hmulN : ((X.toNat * 1000000000 / 18446744073709551616 : Nat) : Int) = X * 1000000000 / 18446744073709551616 := by omega
  have hmulM : ((X.toNat * 1000000000 % 18446744073709551616 : Nat) : Int) = X * 1000000000 % 18446744073709551616 := by omega
  rw [hmulN, hmulM] at KMU
  obtain ⟨hi, hhi⟩ : ∃ hi, hi = X * 1000000000 / 18446744073709551616 := ⟨_, rfl⟩
  obtain ⟨lo, hlo⟩ : ∃ lo, lo = X * 1000000000 % 18446744073709551616 := ⟨_, rfl⟩
  rw [← hhi, ← hlo] at KMU
  have bhi0 : 0 ≤ hi := by omega
  have bhi1 : hi ≤ 60000000 := by omega
  have blo0 : 0 ≤ lo := by omega
  have blo1 : lo < 18446744073709551616 := by omega
  obtain ⟨lo2, hlo2⟩ : ∃ lo2, lo2 = (lo + z0) % 18446744073709551616 := ⟨_, rfl⟩
  obtain ⟨cy, hcy⟩ : ∃ cy, cy = (lo + z0) / 18446744073709551616 := ⟨_, rfl⟩
  have A0 := fun (W : World) => add64_0 lo z0 blo0 blo1 c00 (by omega) W
  simp only [← hlo2, ← hcy] at A0
  have bcy0 : 0 ≤ cy := by omega
  have bcy1 : cy ≤ 1 := by omega
  have KD := hid (fun W => Div64_any (X * 1000000000 + z0) Y (hi + cy) lo2 (by omega) (by omega) (by omega) (by omega) (by omega) (by omega) W)
  obtain ⟨t, ht⟩ : ∃ t, t = (X * 1000000000 + z0) / Y := ⟨_, rfl⟩
  rw [← ht] at OKK KD
  have bY0 : 0 ≤ Y := by omega
  have bY1 : Y < 1152921504606846976 := by omega
  have em1 : (M.length : Int) - 1 = m1 := hm1.symm
  have em2 : (M.length : Int) - 2 = m2 := hm2.symm
  have ej2 : (M.length : Int) + s = j2 := hj2.symm
  have ej0 : j2 - 2 = j0 := by omega
  have w1 : IntKind.i64.wrap j1 = j1 := IntWalk.i64_in _ (by omega)
  have ej1 : j2 - 1 = j1 := by omega
  have w2 : IntKind.i64.wrap (z2 * 1000000000) = z2 * 1000000000 := IntWalk.i64_in _ (by omega)
  have w3 : IntKind.i64.wrap (z2 * 1000000000 + z1) = X := by rw [← hX]; exact IntWalk.i64_in _ (by omega)
  have w4 : IntKind.u64.wrap X = X := wrap_u64_in hXb0 (by omega)
  have eY : x1 * 1000000000 + x2 + 1 = Y := hY.symm
  have bj0 : -2 ≤ j0 := by omega
  have bj0' : j0 ≤ 300000 := by omega
  have t0 := OKK.out.2.2.1
  have t1 := OKK.out.2.2.2
  clear hm1 hm2 hj1 hj0 hj2 hX hY hhi hlo hlo2 hcy ht hmulN hmulM hXn
  go_enter Try.func160, Try.ntmps160
  go_wp2_with fail
  refine (show Calls Try.prog 163 #[.slice am M.length cm, .int .i64 m1] w _ from KM1.out 0).mono ?_
  rintro e w' ⟨rfl, hw⟩
  obtain rfl : w = w' := hw
  go_wp2_with fail
  refine (show Calls Try.prog 163 #[.slice am M.length cm, .int .i64 m2] w _ from KM2.out 0).mono ?_
  rintro e w' ⟨rfl, hw⟩
  obtain rfl : w = w' := hw
  go_wp2_with fail
  clear em1 em2 ej2 eY
  go_quiet ((first | (go_at_call 163; with_reducible exact quiet_left (KL2.out _)) | (go_at_call 163; with_reducible exact quiet_left (KL1.out _)) | (go_at_call 164; with_reducible exact quiet_right (KMU.out _))))
  go_wp2_with fail
  with_reducible refine (KL0.out _).mono ?_
  rintro e w' ⟨rfl, rfl⟩
  go_wp2_with (simp only)
  with_reducible refine (KD.out _).mono ?_
  rintro e w' ⟨r, d, rfl, rfl⟩
  go_wp2
  go_ret
  exact ⟨t, _, rfl, t0, t1, OKK.out.1, OKK.out.2.1, by first | rfl | rw [World.drewN_drewN]⟩
end Go.Proofs.Yteanocjkdehhgaa

/- A quotient's limb taken out, and the remainder. -/
namespace Go.Proofs.Yteanocjkdehhgaa
open Go.RowKit
open Go.Lib (hid)
set_option linter.unusedVariables false
variable {Q : Rest}

theorem drop_row {w : World} {g n c : Nat} {L : List Int} (h : Ints w 0 (.slice (some ⟨g, 0, none⟩) n c) L) (s : Nat) (hg : g < w.heap.size) : RowI w (some ⟨g, s, none⟩) (L.length - s) (L.drop s) :=
  ⟨by simp, fun h0 => ⟨g, s, rfl, hg, fun i hi => by
    rw [List.length_drop] at hi
    rw [List.getElem_drop]
    exact Ints_cell h (by omega)⟩⟩
theorem cont_iff {L M : List Int} {s : Nat} (hL : Lim L) (hs : s ≤ L.length) : val M ≤ val (L.drop s) ↔ val M * pw s ≤ val L := by
  have e := val_split L hs
  have t := take_lt hL s
  have p := pw_pos s
  have f : pw s * val (L.drop s) = val (L.drop s) * pw s := Int.mul_comm _ _
  constructor
  · intro h
    have := Int.mul_le_mul_of_nonneg_right h (show 0 ≤ pw s by omega)
    omega
  · intro h
    have h2 : val M * pw s < (val (L.drop s) + 1) * pw s := by rw [Int.add_mul]; omega
    have := Int.lt_of_mul_lt_mul_right h2 (by omega)
    omega
theorem cont_no {L M : List Int} {s : Nat} (hL : Lim L) (hM : Can M) (hne : M ≠ []) (hs : L.length < s) : ¬ val M * pw s ≤ val L := by
  have h1 := val_lt hL
  have h2 := pw_le (m := L.length) (n := s) (by omega)
  have h3 := Can_ge hM hne
  have h4 := pw_pos (M.length - 1)
  have h5 : 1 * pw s ≤ val M * pw s := Int.mul_le_mul_of_nonneg_right (by omega) (by have := pw_pos s; omega)
  omega
theorem cmp_ge {A M : List Int} (hA : Can A) (hM : Can M) : 0 ≤ cmpL A M ↔ val M ≤ val A := by
  rw [cmpL_val hA hM]
  rcases sgn_cases (val A - val M) with ⟨a, b⟩ | ⟨a, b⟩ | ⟨a, b⟩ <;> rw [b] <;> constructor <;> intro _ <;> omega

set_option maxRecDepth 100000 in
set_option maxHeartbeats 1600000 in
theorem contains_any (S : Nat → Prop) (N : Nat) (v : Value) (L M : List Int) (am : Option Addr) (nm cm : Nat) (s : Nat) (hs : s ≤ 100000) (hl : L.length ≤ 100000) (hm : M.length ≤ 100000) (hL : Can L) (hM : Can M) (hne : M ≠ [])
    (w : World) (h : IsNat Q w S N v L) (hr : RowI w am nm M) :
    Calls Try.prog 162 #[.pointer (some ⟨N, 0, none⟩), .slice am nm cm, .int .i64 s] w (Drew (.bool (decide (val M * pw s ≤ val L))) w) := by
  obtain ⟨b, hb⟩ : ∃ b, b = decide (val M * pw s ≤ val L) := ⟨_, rfl⟩
  have HB := hid hb
  rw [← hb]
  clear hb
  have hc := h.cell
  have HI := hid h.ints
  by_cases hsl : L.length < s
  · have hE := hid (HB.out.trans (decide_eq_false (cont_no hL.1 hM hne hsl)))
    obtain ⟨a, c, rfl, -, -, -⟩ := Ints_form h.ints
    have h1 : ¬ (s : Int) ≤ L.length := by omega
    clear h hr hL hM hne
    go_enter Try.func162, Try.ntmps162
    go_wp2
    go_ret
    exact ⟨ret_bool hE.out.symm, 0, rfl⟩
  have h1 : (s : Int) ≤ L.length := by omega
  have hdc := hid (cmp_ge (Can_drop hL s) hM)
  have hci := hid (cont_iff (M := M) hL.1 (show s ≤ L.length by omega))
  have key : ∀ z : Int, z = cmpL (L.drop s) M → (0 ≤ z ∧ b = true ∨ z < 0 ∧ b = false) := by
    intro z hz
    subst hz
    by_cases h0 : 0 ≤ cmpL (L.drop s) M
    · exact .inl ⟨h0, HB.out.trans (decide_eq_true (hci.out.1 (hdc.out.1 h0)))⟩
    · exact .inr ⟨by omega, HB.out.trans (decide_eq_false (fun hh => h0 (hdc.out.2 (hci.out.2 hh))))⟩
  have KEY := hid key
  clear key
  have hdl : (L.drop s).length ≤ 1073741824 := by rw [List.length_drop]; omega
  rcases Ints_cases h.ints with ⟨rfl, rfl⟩ | ⟨g, c, rfl, -, hg, hcl⟩
  · obtain rfl : s = 0 := by simp at hsl; omega
    have KC := hid (compareLimbs_any none am 0 nm 0 cm [] M (by decide) (by omega) w (RowI_nil _ _) hr)
    rw [show (([] : List Int).drop 0) = [] from rfl] at KEY
    clear h hr hL hM hne HI
    go_enter Try.func162, Try.ntmps162
    go_wp2_with fail
    refine KC.out.mono ?_
    rintro e w1 ⟨rfl, d, rfl⟩
    obtain ⟨z, hz⟩ : ∃ z, z = cmpL [] M := ⟨_, rfl⟩
    have K2 := hid (KEY.out z hz)
    rw [← hz]
    clear hz
    rcases K2.out with ⟨hz, hE⟩ | ⟨hz, hE⟩
    · have hE := hid hE
      go_wp2
      go_ret
      exact ⟨ret_bool hE.out.symm, d, rfl⟩
    · have hE := hid hE
      have hz' : ¬ 0 ≤ z := by omega
      go_wp2
      go_ret
      exact ⟨ret_bool (by rw [hE.out]; first | rfl | exact decide_eq_false (by omega)), d, rfl⟩
  · have hcs : (s : Int) ≤ c := by omega
    have hts : ((s : Nat) : Int).toNat = s := by omega
    have hs0 : (0 : Int) ≤ s := by omega
    by_cases hce : c = s
    · subst hce
      have hlc : L.length = c := by omega
      have hdn : L.drop c = [] := List.drop_eq_nil_of_le (by omega)
      have KC := hid (compareLimbs_any (some ⟨g, 0, none⟩) am 0 nm 0 cm [] M (by decide) (by omega) w (RowI_nil _ _) hr)
      rw [hdn] at KEY
      have hl0 : L.length - c = 0 := by omega
      have HLC := hid hlc
      clear h hr hL hM hne HI hdn hlc
      go_enter Try.func162, Try.ntmps162
      go_wp2_with fail
      refine KC.out.mono ?_
      rintro e w1 ⟨rfl, d, rfl⟩
      obtain ⟨z, hz⟩ : ∃ z, z = cmpL [] M := ⟨_, rfl⟩
      have K2 := hid (KEY.out z hz)
      rw [← hz]
      clear hz
      rcases K2.out with ⟨hz, hE⟩ | ⟨hz, hE⟩
      · have hE := hid hE
        go_wp2
        go_ret
        exact ⟨ret_bool hE.out.symm, d, rfl⟩
      · have hE := hid hE
        have hz' : ¬ 0 ≤ z := by omega
        go_wp2
        go_ret
        exact ⟨ret_bool (by rw [hE.out]; first | rfl | exact decide_eq_false (by omega)), d, rfl⟩
    · have hce' : ¬ (c : Int) = s := by omega
      have KC := hid (fun cc => compareLimbs_any (some ⟨g, s, none⟩) am (L.length - s) nm cc cm (L.drop s) M hdl (by omega) w (drop_row HI.out s hg) hr)
      clear h hr hL hM hne HI
      go_enter Try.func162, Try.ntmps162
      go_wp2_with fail
      refine (KC.out _).mono ?_
      rintro e w1 ⟨rfl, d, rfl⟩
      obtain ⟨z, hz⟩ : ∃ z, z = cmpL (L.drop s) M := ⟨_, rfl⟩
      have K2 := hid (KEY.out z hz)
      rw [← hz]
      clear hz
      rcases K2.out with ⟨hz, hE⟩ | ⟨hz, hE⟩
      · have hE := hid hE
        go_wp2
        go_ret
        exact ⟨ret_bool hE.out.symm, d, rfl⟩
      · have hE := hid hE
        have hz' : ¬ 0 ≤ z := by omega
        go_wp2
        go_ret
        exact ⟨ret_bool (by rw [hE.out]; first | rfl | exact decide_eq_false (by omega)), d, rfl⟩
end Go.Proofs.Yteanocjkdehhgaa

/- A quotient's limb taken out, and the remainder: the walks. -/
namespace Go.Proofs.Yteanocjkdehhgaa
open Go.RowKit
open Go.Lib (hid)
set_option linter.unusedVariables false
variable {Q : Rest}

theorem take_end {R D t : Int} (hD : 0 < D) (h1 : t * D ≤ R) (h2 : R < (t + 2) * D) :
    (D ≤ R - t * D → t + 1 = R / D ∧ R - t * D - D = R % D) ∧ (R - t * D < D → t = R / D ∧ R - t * D = R % D) := by
  have e : (t + 2) * D = t * D + D + D := by grind
  have f : (t + 1) * D = t * D + D := by grind
  constructor
  · intro h
    have := dg_end (T := R) (y := D) (q := t + 1) hD (by omega) (by rw [show t + 1 + 1 = t + 2 by omega]; omega)
    exact ⟨this.1, by have := this.2; omega⟩
  · intro h
    exact dg_end (T := R) (y := D) (q := t) hD h1 (by omega)

/-- The limb of the quotient is taken out: the remainder stays. -/
def TakeP (Q : Rest) (S : Nat → Prop) (N : Nat) (R D : Int) (w : World) (e : Ending) (w' : World) : Prop := e = .returned (.int .i64 (R / D)) ∧ (∃ v, IsNat Q w' S N v (rep (R % D).toNat)) ∧ Only S w w'
theorem rep_bd {V : Int} (h0 : 0 ≤ V) {n : Nat} (h : V < pw n) : (rep V.toNat).length ≤ n := rep_len' h

set_option maxRecDepth 100000 in
set_option maxHeartbeats 3200000 in
theorem takeOut_any (S : Nat → Prop) (N : Nat) (v : Value) (L M : List Int) (am : Option Addr) (nm cm : Nat) (s : Nat) (hs : s ≤ 1000) (hl : L.length ≤ 1000) (hm : M.length ≤ 1000) (hL : Can L) (hM : Can M) (hne : M ≠ [])
    (hR : val L < 1000000000 * (val M * pw s)) (w : World) (h : IsNat Q w S N v L) (hS : ∀ k, w.heap.size ≤ k → S k) (hr : RowI w am nm M) (ha : Apart S am) :
    Calls Try.prog 159 #[.pointer (some ⟨N, 0, none⟩), .slice am nm cm, .int .i64 s] w (TakeP Q S N (val L) (val M * pw s) w) := by
  obtain ⟨R, hRe⟩ : ∃ R, R = val L := ⟨_, rfl⟩
  obtain ⟨D, hDe⟩ : ∃ D, D = val M * pw s := ⟨_, rfl⟩
  have hD0 : 0 < D := by
    rw [hDe]
    have h1 := Can_ge hM hne
    have h2 := pw_pos (M.length - 1)
    exact Int.mul_pos (by omega) (pw_pos s)
  have hR0 : 0 ≤ R := by rw [hRe]; exact val_nonneg hL.1
  have hR2 : R < pw 1000 := by
    rw [hRe]
    exact (Can_len hL).1 hl
  have TE := hid (fun t h1 h2 => take_end (R := R) (D := D) (t := t) hD0 h1 h2)
  have KE := hid (estimate_any S N v L M am nm cm s (by omega) (by omega) (by omega) hL.1 hM hne hR w h hr)
  have CL := hid hL
  have CM := hid hM
  have HNE := hid hne
  have H := hid h
  have HS := hid hS
  have HR := hid hr
  have HA := hid ha
  have HRE := hid hRe
  have HDE := hid hDe
  rw [← hRe, ← hDe] at KE
  rw [← hRe, ← hDe]
  clear hL hM hne hR h hS hr ha hRe hDe
  go_enter Try.func159, Try.ntmps159
  go_wp2_with fail
  with_reducible refine KE.out.mono ?_
  rintro e w1 ⟨t, d, rfl, t0, t1, hle, hlt, rfl⟩
  have H := hid (H.out.drewN d)
  have HR := hid (RowI_drewN HR.out d)
  have HO := hid ((Only.refl S w).drewN d)
  have TE := hid (TE.out t hle hlt)
  have HLE := hid hle
  have HLT := hid hlt
  obtain ⟨w2, hw2⟩ : ∃ w2, w2 = w.drewN d := ⟨_, rfl⟩
  rw [← hw2] at H HR HO ⊢
  clear hle hlt hw2 KE
  obtain ⟨f, hf⟩ : ∃ f, f = -t := ⟨_, rfl⟩
  have ef : -t = f := hf.symm
  have hV : val L + f * val M * pw ((s : Nat) : Int).toNat = R - t * D := by
    rw [Int.toNat_natCast, hf, HRE.out, HDE.out]; grind
  have hV0 : 0 ≤ R - t * D := by have := HLE.out; omega
  have KA := hid (addMultiple_any S N v L M am nm cm f s (by omega) (by omega) (by omega) (by omega) CL.out.1 CM.out.1 (by omega) (by omega) (by rw [hV]; exact hV0) w2 H.out (fun k hk => HS.out k (Nat.le_trans HO.out.size hk)) HR.out HA.out)
  rw [hV] at KA
  clear hV hf
  go_wp2_with fail
  with_reducible refine KA.out.mono ?_
  rintro e w3 ⟨rfl, ⟨v2, h2⟩, o2⟩
  have H := hid h2
  have HR := hid (RowI_only HR.out o2 HA.out)
  have HO := hid (HO.out.trans o2)
  clear h2 o2 KA
  have hRt : R - t * D < pw 1000 := by
    have : 0 ≤ t * D := Int.mul_nonneg t0 (by omega)
    omega
  have hlen2 : (rep (R - t * D).toNat).length ≤ 1000 := rep_len' hRt
  have hvr : val (rep (R - t * D).toNat) = R - t * D := val_rep' hV0
  obtain ⟨P, hP⟩ : ∃ P, P = rep (R - t * D).toNat := ⟨_, rfl⟩
  have CP := hid (show Can P by rw [hP]; exact Can_rep _)
  have PE := hid hP
  rw [← hP] at H hlen2 hvr
  clear hP
  have KC := hid (contains_any S N v2 P M am nm cm s (by omega) (by omega) (by omega) CP.out CM.out HNE.out w3 H.out HR.out)
  rw [hvr, ← HDE.out] at KC
  have HVR := hid hvr
  clear hvr
  go_wp2_with fail
  with_reducible refine KC.out.mono ?_
  rintro e w4 ⟨rfl, d2, rfl⟩
  have H := hid (H.out.drewN d2)
  have HR := hid (RowI_drewN HR.out d2)
  have HO := hid (HO.out.drewN d2)
  obtain ⟨w5, hw5⟩ : ∃ w5, w5 = w3.drewN d2 := ⟨_, rfl⟩
  rw [← hw5] at H HR HO ⊢
  clear hw5 KC
  by_cases hc : D ≤ R - t * D
  · have hT := hid (TE.out.1 hc)
    rw [decide_eq_true hc]
    have hV2 : val P + (-1) * val M * pw ((s : Nat) : Int).toNat = R - t * D - D := by
      rw [Int.toNat_natCast, HVR.out, HDE.out]; grind
    have KA := hid (addMultiple_any S N v2 P M am nm cm (-1) s (by omega) (by omega) (by omega) (by omega) CP.out.1 CM.out.1 (by decide) (by decide) (by rw [hV2]; omega) w5 H.out (fun k hk => HS.out k (Nat.le_trans HO.out.size hk)) HR.out HA.out)
    rw [hV2, hT.out.2] at KA
    clear hV2 hc
    go_wp2_with fail
    with_reducible refine KA.out.mono ?_
    rintro e w6 ⟨rfl, ⟨v3, h3⟩, o3⟩
    have H := hid h3
    have HO := hid (HO.out.trans o3)
    clear h3 o3 KA
    go_wp2
    go_ret
    exact ⟨by rw [← hT.out.1]; rfl, ⟨_, H.out⟩, HO.out⟩
  · have hT := hid (TE.out.2 (by omega))
    rw [decide_eq_false hc]
    rw [PE.out, hT.out.2] at H
    clear hc
    go_wp2
    go_ret
    exact ⟨by rw [← hT.out.1]; rfl, ⟨_, H.out⟩, HO.out⟩

/-- R stays the same modulo D when a multiple of it is taken out. -/
theorem mod_mod {R D P : Int} (hD : 0 < D) (hP : 0 < P) : R % (D * P) % D = R % D := by
  have e := Int.emod_add_ediv_mul R (D * P)
  have : R = R % (D * P) + D * (P * (R / (D * P))) := by
    have : R / (D * P) * (D * P) = D * (P * (R / (D * P))) := by grind
    omega
  have h := Int.add_mul_emod_self_left (R % (D * P)) D (P * (R / (D * P)))
  rw [← this] at h
  exact h.symm
theorem start_lt {L M : List Int} (hL : Can L) (hM : Can M) (hne : M ≠ []) {k : Nat} (hk : L.length = M.length + k ∨ L.length < M.length ∧ k = 0) : val L < val M * pw (k + 1) := by
  have h1 := val_lt hL.1
  have h2 := Can_ge hM hne
  have hl : 0 < M.length := List.length_pos_iff.mpr hne
  have h3 : pw (M.length - 1) * pw (k + 1) ≤ val M * pw (k + 1) := Int.mul_le_mul_of_nonneg_right h2 (by have := pw_pos (k + 1); omega)
  rw [← pw_add] at h3
  have h4 := pw_le (m := L.length) (n := M.length - 1 + (k + 1)) (by omega)
  omega

set_option maxRecDepth 100000 in
set_option maxHeartbeats 3200000 in
theorem reduce_any (S : Nat → Prop) (N : Nat) (v : Value) (L M : List Int) (am : Option Addr) (nm cm : Nat) (hl : L.length ≤ 900) (hm : M.length ≤ 900) (hL : Can L) (hM : Can M) (hne : M ≠ [])
    (w : World) (h : IsNat Q w S N v L) (hS : ∀ k, w.heap.size ≤ k → S k) (hr : RowI w am nm M) (ha : Apart S am) :
    Calls Try.prog 154 #[.pointer (some ⟨N, 0, none⟩), .slice am nm cm] w (MethP Q S N (rep (val L % val M).toNat) w) := by
  obtain rfl : nm = M.length := hr.1
  have hc := h.cell
  have hM0 : 0 < val M := by
    have h1 := Can_ge hM hne
    have h2 := pw_pos (M.length - 1)
    omega
  have H := hid h
  have HS := hid hS
  have HR := hid hr
  have HA := hid ha
  have CL := hid hL
  have CM := hid hM
  have HNE := hid hne
  have HM0 := hid hM0
  have ST := hid (fun k hk => start_lt hL hM hne (k := k) hk)
  obtain ⟨a, c, rfl, -, -, -⟩ := Ints_form h.ints
  clear h hS hr ha hL hM hne hM0
  go_enter Try.func154, Try.ntmps154
  go_wp2
  clear hc
  by_cases hlm : L.length < M.length
  · have hsm := hid (show val L % val M = val L by
      have h1 := ST.out 0 (.inr ⟨hlm, rfl⟩)
      have h2 : val M * pw 1 = val M * 1000000000 := by simp [pw]
      have h3 : val L < val M := by
        have a1 := val_lt CL.out.1
        have a2 := Can_ge CM.out HNE.out
        have a3 := pw_le (m := L.length) (n := M.length - 1) (by omega)
        omega
      exact Int.emod_eq_of_lt (val_nonneg CL.out.1) h3)
    have hneg : ¬ (0 : Int) ≤ (L.length : Int) - M.length := by omega
    go_loopw [4] (fun z wr => z = .int .i64 ((L.length : Int) - M.length) ∧ wr = w) (fun _ _ => 0)
    case atStart => exact ⟨rfl, rfl⟩
    case round =>
      obtain ⟨rfl, rfl⟩ := hrel
      go_wp2
      go_end0
      exact MethP_mk H.out (by rw [hsm.out, rep_val CL.out]) (Only.refl _ _)
  · obtain ⟨k0, hk0⟩ : ∃ k0, L.length = M.length + k0 := ⟨L.length - M.length, by omega⟩
    have HK := hid hk0
    have hk9 : k0 ≤ 900 := by omega
    have ed : (L.length : Int) - M.length = (k0 : Int) := by omega
    have ST0 := hid (ST.out k0 (.inl hk0))
    clear hk0
    rw [ed]
    clear ed
    go_loopw [4] (fun z wr => ∃ (k : Nat) (P : List Int) (u : Value), k ≤ k0 + 1 ∧ z = .int .i64 ((k : Int) - 1) ∧ IsNat Q wr S N u P ∧ Only S w wr ∧ Hid (Can P) ∧ P.length ≤ 1000 ∧ Hid (val P < val M * pw k) ∧ Hid (val P % val M = val L % val M)) (fun z _ => (intOf z + 1).toNat)
    case atStart => exact ⟨k0 + 1, L, _, Nat.le_refl _, by congr 1; omega, H.out, Only.refl _ _, CL, by omega, ST0, hid rfl⟩
    case round =>
      clear H ST0
      obtain ⟨k, P, u, hk, rfl, hI, hO, hCP, hPl, hlt, hmod⟩ := hrel
      have H := hid hI
      have HO := hid hO
      clear hI hO
      cases k with
      | zero =>
        have hE := hid (show P = rep (val L % val M).toNat by
          have h1 := hlt.out
          simp only [pw, Int.mul_one] at h1
          rw [← hmod.out, Int.emod_eq_of_lt (val_nonneg hCP.out.1) h1, rep_val hCP.out])
        go_wp2
        go_end0
        exact MethP_mk H.out hE.out HO.out
      | succ k =>
        have e1 : ((k + 1 : Nat) : Int) - 1 = k := by omega
        rw [e1]
        clear e1
        have hk0' : (0 : Int) ≤ k := by omega
        have KT := hid (takeOut_any S N u P M am M.length cm k (by omega) hPl (by omega) hCP.out CM.out HNE.out (by have := hlt.out; have e : val M * pw (k + 1) = 1000000000 * (val M * pw k) := by simp only [pw]; grind
                                                                                                                    omega) _ H.out (fun j hj => HS.out j (Nat.le_trans HO.out.size hj)) (RowI_only HR.out HO.out HA.out) HA.out)
        have hpk := pw_pos k
        have hDk : 0 < val M * pw k := Int.mul_pos HM0.out hpk
        have N1 := hid (show val P % (val M * pw k) < val M * pw k ∧ 0 ≤ val P % (val M * pw k) from ⟨Int.emod_lt_of_pos _ hDk, Int.emod_nonneg _ (by omega)⟩)
        have N2 := hid ((mod_mod (R := val P) HM0.out hpk).trans hmod.out)
        have N3 := hid (show val P % (val M * pw k) < pw 1000 by
          have a1 := (Can_len hCP.out).1 hPl
          have a2 := val_nonneg hCP.out.1
          have a4 := Int.emod_add_ediv_mul (val P) (val M * pw k)
          have a5 := Int.mul_nonneg (Int.ediv_nonneg a2 (show 0 ≤ val M * pw k by omega)) (show 0 ≤ val M * pw k by omega)
          omega)
        clear hpk hDk
        go_wp2_with fail
        with_reducible refine KT.out.mono ?_
        rintro e w2 ⟨rfl, ⟨v2, h2⟩, o2⟩
        have H := hid h2
        have HO := hid (HO.out.trans o2)
        obtain ⟨V, hV⟩ : ∃ V, V = val P % (val M * pw k) := ⟨_, rfl⟩
        rw [← hV] at H N1 N2 N3
        clear h2 o2 KT hV
        obtain ⟨Q, hQ⟩ : ∃ Q, Q = val P / (val M * pw k) := ⟨_, rfl⟩
        rw [← hQ]
        clear hQ
        have hlen := rep_len' N3.out
        go_wp2
        go_roundw
        case rel =>
          have hvv := val_rep' N1.out.2
          exact ⟨k, _, _, by omega, rfl, H.out, HO.out, hid (Can_rep _), hlen, hid (by rw [hvv]; exact N1.out.1), hid (by rw [hvv]; exact N2.out)⟩
        case measure => simp [intOf]
end Go.Proofs.Yteanocjkdehhgaa

/- The program's quotient and remainder. -/
namespace Go.Proofs.Yteanocjkdehhgaa
open Go.RowKit
open Go.Lib (hid)
set_option linter.unusedVariables false


def divB (A B : List Int) : Bool := nok A && nok B && decide (B ≠ [])
def divQ (A B : List Int) : List Int := if divB A B then rep (val A / val B).toNat else []
def divR (A B : List Int) : List Int := if divB A B then rep (val A % val B).toNat else []
theorem div_no {A B : List Int} (h : nok A = false ∨ nok B = false ∨ B = []) : divQ A B = [] ∧ divR A B = [] := by
  have : divB A B = false := by
    unfold divB
    rcases h with h | h | h
    · simp [h]
    · simp [h]
    · simp [h]
  simp [divQ, divR, this]
theorem div_yes {A B : List Int} (h : nok A = true) (h' : nok B = true) (h2 : B ≠ []) : divQ A B = rep (val A / val B).toNat ∧ divR A B = rep (val A % val B).toNat := by
  have : divB A B = true := by simp [divB, h, h', h2]
  simp [divQ, divR, this]
/-- Two slices of the call's own, apart from each other. -/
def Own2 (Q R : List Int) (w : World) (e : Ending) (w' : World) : Prop := ∃ v u, e = .returned (.tuple #[v, u]) ∧ Ints w' w.heap.size v Q ∧ Ints w' w.heap.size u R ∧ (∀ k, v.ownBlock = some k → u.ownBlock ≠ some k) ∧ Below w.heap.size w w'
theorem Own2_mk {Q R Q' R' : List Int} {w w' : World} {v u : Value} (hQ : Q' = Q) (hR : R' = R) (h1 : Ints w' w.heap.size v Q') (h2 : Ints w' w.heap.size u R') (hd : ∀ k, v.ownBlock = some k → u.ownBlock ≠ some k) (hb : Below w.heap.size w w') :
    Own2 Q R w (.returned (.tuple #[v, u])) w' := by
  subst hQ; subst hR; exact ⟨v, u, rfl, h1, h2, hd, hb⟩
theorem Own2_nil (w : World) : Own2 [] [] w (.returned (.tuple #[.slice none 0 0, .slice none 0 0])) w :=
  ⟨_, _, rfl, Ints_nil _ _, Ints_nil _ _, (fun k h => by simp [Value.ownBlock] at h), Below.refl _ _⟩
theorem mul_pw (b : Int) (j : Nat) : b * pw (j + 1) = 1000000000 * (b * pw j) := by simp only [pw]; grind
theorem div_done {a b q r : Int} (hb : 0 < b) (h : a = b * q + r) (h0 : 0 ≤ r) (h1 : r < b) : q = a / b ∧ r = a % b := by
  have e : b * q = q * b := Int.mul_comm _ _
  have := dg_end (T := a) (y := b) (q := q) hb (by omega) (by rw [Int.add_mul]; omega)
  exact ⟨this.1, by have := this.2; omega⟩
theorem ResP_short {L : List Int} {w : World} {v : Value} {e : Ending} {w' : World} (h : ResP L w v e w') (hl : L.length ≤ 60) : e = .returned v ∧ w = w' := by
  obtain ⟨⟨u, M, he, hu⟩, hw⟩ := h
  rcases hu with ⟨rfl, _, _⟩ | ⟨_, _, h6⟩
  · exact ⟨he, hw⟩
  · omega

end Go.Proofs.Yteanocjkdehhgaa
