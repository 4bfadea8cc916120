/- The estimate of a quotient's limb: the program's walk. -/
import Derived.Test.YtdlkiklhffafhabDoorNat4
import Derived.Test.YtdlkiklhffafhabDoorEsu
import Derived.Test.YtdlkiklhffafhabDoorDw
import Derived.Shelf.Spec.BitsCarry
namespace Go.Proofs.YtdlkiklhffafhabDoor
open Go.RowKit
open Go.Lib (hid)
set_option linter.unusedVariables false

theorem add64_0 (x y : Int) (hx0 : 0 ≤ x) (hx : x < 18446744073709551616) (hy0 : 0 ≤ y) (hy : y < 18446744073709551616) (w : World) :
    (callFunc 82 #[.int .u64 x, .int .u64 y, .int .u64 0]).run Tryd.prog w =
      .ok (.value (.tuple #[.int .u64 ((x + y) % 18446744073709551616), .int .u64 ((x + y) / 18446744073709551616)])) w := by
  obtain ⟨X, rfl⟩ := Int.eq_ofNat_of_zero_le hx0
  obtain ⟨Y, rfl⟩ := Int.eq_ofNat_of_zero_le hy0
  have e : ∀ Z : Nat, Z ≤ 1 → (callFunc 82 #[.int .u64 (X : Int), .int .u64 (Y : Int), .int .u64 (Z : Int)]).run Tryd.prog w =
      .ok (.value (.tuple #[.int .u64 (((X + Y + Z) % 18446744073709551616 : Nat) : Int), .int .u64 (((X + Y + Z) / 18446744073709551616 : Nat) : Int)])) w := by
    intro Z hZ
    rw [run_callFunc_extern Tryd.func82 (by kernel_rfl) (by kernel_rfl) (by kernel_rfl) (e := add64Entry) (by kernel_rfl), run_add64 X Y Z (by omega) (by omega) (by omega) (by omega)]
    simp only [Result.andThen]
    congr 5 <;> omega
  refine (e 0 (by decide)).trans ?_
  congr 5 <;> omega

theorem quiet_left {P : Program} {f : FuncId} {args : Array Value} {w : World} {n : Nat} {v : Value}
    (h : Calls P f args (w.drewN n) fun e w' => e = .returned v ∧ w.drewN n = w') : Calls P f args (w.drewN n) fun e w'' => e = .returned v ∧ ∃ m, w'' = w.drewN m :=
  h.mono fun _ _ ⟨he, hm⟩ => ⟨he, n, hm.symm⟩
theorem quiet_right {P : Program} {f : FuncId} {args : Array Value} {w : World} {n : Nat} {v : Value}
    (h : Calls P f args (w.drewN n) fun e w' => e = .returned v ∧ w' = w.drewN n) : Calls P f args (w.drewN n) fun e w'' => e = .returned v ∧ ∃ m, w'' = w.drewN m :=
  h.mono fun _ _ ⟨he, hm⟩ => ⟨he, n, hm⟩

set_option maxRecDepth 100000 in
set_option maxHeartbeats 800000 in
theorem limbAt_any (a : Option Addr) (n c : Nat) (L : List Int) (i : Int) (hL : L.length ≤ 1073741824) (i0 : -1000 ≤ i) (i1 : i ≤ 1073741824) (w : World) (h : RowI w a n L) :
    Calls Tryd.prog 81 #[.slice a n c, .int .i64 i] w fun e w' => e = .returned (.int .i64 (at0 L i)) ∧ w = w' := by
  obtain ⟨rfl, H1⟩ := h
  have G1 := hid H1
  clear H1
  obtain ⟨x, hx⟩ : ∃ x, x = at0 L i := ⟨_, rfl⟩
  have HX := hid hx
  rw [← hx]
  clear hx
  by_cases h0 : i < 0
  · have hE := hid (HX.out.trans (at0_out (.inl h0)))
    go_enter Tryd.func81, Tryd.ntmps81
    go_wp2
    go_ret
    exact ⟨ret_int hE.out.symm, rfl⟩
  · by_cases h1 : (L.length : Int) ≤ i
    · have hE := hid (HX.out.trans (at0_out (.inr h1)))
      have h0' : ¬ i < 0 := h0
      go_enter Tryd.func81, Tryd.ntmps81
      go_wp2
      go_ret
      exact ⟨ret_int hE.out.symm, rfl⟩
    · obtain ⟨k, rfl⟩ : ∃ k : Nat, i = k := ⟨i.toNat, by omega⟩
      have hk : k < L.length := by omega
      have hE := hid (HX.out.trans (at0_in hk))
      obtain ⟨g, o, rfl, -, hc⟩ := G1.out (by omega)
      have q := hc k hk
      obtain ⟨y, hy⟩ : ∃ y, y = L[k] := ⟨_, rfl⟩
      rw [← hy] at q hE
      clear hy hc
      have a1 : (k : Int) < L.length := by omega
      have a0 : (0 : Int) ≤ k := by omega
      go_enter Tryd.func81, Tryd.ntmps81
      go_wp2
      go_ret
      exact ⟨ret_int hE.out.symm, rfl⟩

/-- The estimate: never more than the quotient, at most one less. -/
def EstP (R D : Int) (w : World) (e : Ending) (w' : World) : Prop := ∃ t d, e = .returned (.int .i64 t) ∧ 0 ≤ t ∧ t < 1000000000 ∧ t * D ≤ R ∧ R < (t + 2) * D ∧ w' = w.drewN d

theorem top_big {M : List Int} (hM : Can M) (hne : M ≠ []) : 1 ≤ at0 M ((M.length : Int) - 1) := by
  have hl : 0 < M.length := List.length_pos_iff.mpr hne
  have h1 := hM.2 hne
  rw [List.getLast_eq_getElem] at h1
  have e : ((M.length : Int) - 1) = ((M.length - 1 : Nat) : Int) := by omega
  rw [e, at0_in (by omega)]
  have := Lim_at hM.1 (i := M.length - 1) (by omega)
  omega
theorem est_ok {L M : List Int} {s : Nat} (hL : Lim L) (hM : Can M) (hne : M ≠ []) (hR : val L < 1000000000 * (val M * pw s)) {nv d1 : Int}
    (hn : nv = (at0 L ((M.length : Int) + s) * 1000000000 + at0 L ((M.length : Int) + s - 1)) * 1000000000 + at0 L ((M.length : Int) + s - 2))
    (hd : d1 = at0 M ((M.length : Int) - 1) * 1000000000 + at0 M ((M.length : Int) - 2)) :
    (nv / (d1 + 1)) * (val M * pw s) ≤ val L ∧ val L < (nv / (d1 + 1) + 2) * (val M * pw s) ∧ 0 ≤ nv / (d1 + 1) ∧ nv / (d1 + 1) < 1000000000 := by
  have hl : 0 < M.length := List.length_pos_iff.mpr hne
  have hMv := val_lt hM.1
  have hps := pw_pos s
  have ej : ((M.length + s : Nat) : Int) = (M.length : Int) + s := by omega
  have hbig : val L < pw (M.length + s + 1) := by
    have h1 : val M * pw s ≤ pw M.length * pw s := Int.mul_le_mul_of_nonneg_right (by omega) (by omega)
    have h2 := pw_add M.length s
    show val L < 1000000000 * pw (M.length + s)
    rw [h2]; omega
  obtain ⟨r, r0, r1, re⟩ := window hL (j := M.length + s) (by omega) hbig
  rw [ej] at re
  have hbm : val M < pw (M.length + 1) := by
    have := pw_pos M.length
    show val M < 1000000000 * pw M.length
    omega
  obtain ⟨d, d0, d2, de⟩ := window hM.1 (j := M.length) (by omega) hbm
  rw [at0_out (L := M) (i := (M.length : Int)) (.inr (by omega))] at de
  have htop := top_big hM hne
  have hlow := at0_lim hM.1 ((M.length : Int) - 2)
  have hP := pw_pos (M.length + s - 1)
  have e1 : pw (M.length + s - 1) = pw (M.length - 1) * pw s := by
    rw [show M.length + s - 1 = (M.length - 1) + s by omega, pw_add]
  have n0 : 0 ≤ nv := by
    have a := at0_lim hL ((M.length : Int) + s)
    have b := at0_lim hL ((M.length : Int) + s - 1)
    have c := at0_lim hL ((M.length : Int) + s - 2)
    omega
  have key := est_le (R := val L * 1000000000) (D := val M * pw s * 1000000000) (nv := nv) (d1 := d1) (r := r) (d' := d * pw s) (P := pw (M.length + s - 1)) hP
    (by
      rw [e1, hd]
      have : val M * pw s * 1000000000 = val M * 1000000000 * pw s := by grind
      rw [this, de]; grind)
    (Int.mul_nonneg d0 (by omega)) (by rw [e1]; exact Int.mul_lt_mul_of_pos_right d2 hps) (by rw [hd]; omega) (by rw [hn, re]) r0 r1 n0 (by omega)
  obtain ⟨k1, k2, k3, k4⟩ := key
  refine ⟨?_, ?_, k3, k4⟩
  · have : nv / (d1 + 1) * (val M * pw s * 1000000000) = nv / (d1 + 1) * (val M * pw s) * 1000000000 := by grind
    omega
  · have : (nv / (d1 + 1) + 2) * (val M * pw s * 1000000000) = (nv / (d1 + 1) + 2) * (val M * pw s) * 1000000000 := by grind
    omega

theorem Div64_any (N y hi lo : Int) (hN : N = hi * 18446744073709551616 + lo) (h0 : 0 ≤ hi) (h1 : hi < y) (hy1 : y < 1152921504606846976) (hl0 : 0 ≤ lo) (hl1 : lo < 18446744073709551616) (w : World) :
    Calls Tryd.prog 83 #[.int .u64 hi, .int .u64 lo, .int .u64 y] w (fun e w' => ∃ r d, e = .returned (.tuple #[.int .u64 (N / y), .int .u64 r]) ∧ w' = w.drewN d) := by
  by_cases hz : hi = 0
  · subst hz
    refine (Div64_low lo y (by omega) hy1 hl0 hl1 w).mono ?_
    rintro e w' ⟨r, d, he, hw⟩
    exact ⟨r, d, by rw [he, hN, Int.zero_mul, Int.zero_add], hw⟩
  · refine (Div64_high hi lo y (by omega) h1 hy1 hl0 hl1 w).mono ?_
    rintro e w' ⟨⟨r, he⟩, hw⟩
    exact ⟨r, 0, by rw [he, hN], by subst hw; rfl⟩
end Go.Proofs.YtdlkiklhffafhabDoor
