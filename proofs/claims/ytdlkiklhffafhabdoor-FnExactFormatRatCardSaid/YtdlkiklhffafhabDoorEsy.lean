/- The estimate of a quotient's limb: the walk. -/
import Derived.Test.YtdlkiklhffafhabDoorEsw
namespace Go.Proofs.YtdlkiklhffafhabDoor
open Go.RowKit
open Go.Lib (hid)
set_option linter.unusedVariables false
variable {Q : Rest}

set_option maxRecDepth 100000 in
set_option maxHeartbeats 6400000 in
theorem estimate_any (S : Nat → Prop) (N : Nat) (v : Value) (L M : List Int) (am : Option Addr) (nm cm : Nat) (s : Nat) (hs : s ≤ 100000) (hl : L.length ≤ 100000) (hm : M.length ≤ 100000) (hL : Lim L) (hM : Can M) (hne : M ≠ [])
    (hR : val L < 1000000000 * (val M * pw s)) (w : World) (h : IsNat Q w S N v L) (hr : RowI w am nm M) :
    Calls Tryd.prog 72 #[.pointer (some ⟨N, 0, none⟩), .slice am nm cm, .int .i64 s] w (EstP (val L) (val M * pw s) w) := by
  obtain ⟨e, he⟩ : ∃ e : Int, e = M.length := ⟨_, rfl⟩
  have OK : Hid (∀ (nv d1 : Int), nv = (at0 L ((M.length : Int) + s) * 1000000000 + at0 L ((M.length : Int) + s - 1)) * 1000000000 + at0 L ((M.length : Int) + s - 2) → d1 = at0 M ((M.length : Int) - 1) * 1000000000 + at0 M ((M.length : Int) - 2) → (nv / (d1 + 1)) * (val M * pw s) ≤ val L ∧ val L < (nv / (d1 + 1) + 2) * (val M * pw s) ∧ 0 ≤ nv / (d1 + 1) ∧ nv / (d1 + 1) < 1000000000) := hid (fun nv d1 hn hd => est_ok (nv := nv) (d1 := d1) hL hM hne hR hn hd)
  have b1 := at0_lim hM.1 ((M.length : Int) - 1)
  have b2 := at0_lim hM.1 ((M.length : Int) - 2)
  have btop := top_big hM hne
  have c2 := at0_lim hL ((M.length : Int) + s)
  have c1 := at0_lim hL ((M.length : Int) + s - 1)
  have c0 := at0_lim hL ((M.length : Int) + s - 2)
  obtain rfl : nm = M.length := hr.1
  have hMl : 1 ≤ M.length := List.length_pos_iff.mpr hne
  have KM1 := hid (fun d => limbAt_any am M.length cm M ((M.length : Int) - 1) (by omega) (by omega) (by omega) (w.drewN d) (RowI_drewN hr d))
  have KM2 := hid (fun d => limbAt_any am M.length cm M ((M.length : Int) - 2) (by omega) (by omega) (by omega) (w.drewN d) (RowI_drewN hr d))
  have hc := h.cell
  obtain ⟨a, c, rfl, -, hrow, -⟩ := Ints_form h.ints
  have KL2 := hid (fun d => limbAt_any a L.length c L ((M.length : Int) + s) (by omega) (by omega) (by omega) (w.drewN d) (RowI_drewN hrow d))
  have KL1 := hid (fun d => limbAt_any a L.length c L ((M.length : Int) + s - 1) (by omega) (by omega) (by omega) (w.drewN d) (RowI_drewN hrow d))
  have KL0 := hid (fun d => limbAt_any a L.length c L ((M.length : Int) + s - 2) (by omega) (by omega) (by omega) (w.drewN d) (RowI_drewN hrow d))
  obtain ⟨m1, hm1⟩ : ∃ x : Int, x = (M.length : Int) - 1 := ⟨_, rfl⟩
  obtain ⟨m2, hm2⟩ : ∃ x : Int, x = (M.length : Int) - 2 := ⟨_, rfl⟩
  obtain ⟨j2, hj2⟩ : ∃ x : Int, x = (M.length : Int) + s := ⟨_, rfl⟩
  obtain ⟨j1, hj1⟩ : ∃ x : Int, x = (M.length : Int) + s - 1 := ⟨_, rfl⟩
  obtain ⟨j0, hj0⟩ : ∃ x : Int, x = (M.length : Int) + s - 2 := ⟨_, rfl⟩
  rw [← hm1] at b1 btop KM1 OK
  rw [← hm2] at b2 KM2 OK
  rw [← hj1] at c1 KL1 OK
  rw [← hj0] at c0 KL0 OK
  rw [← hj2] at c2 KL2 OK
  obtain ⟨x1, hx1⟩ : ∃ x, x = at0 M m1 := ⟨_, rfl⟩
  obtain ⟨x2, hx2⟩ : ∃ x, x = at0 M m2 := ⟨_, rfl⟩
  obtain ⟨z2, hz2⟩ : ∃ x, x = at0 L j2 := ⟨_, rfl⟩
  obtain ⟨z1, hz1⟩ : ∃ x, x = at0 L j1 := ⟨_, rfl⟩
  obtain ⟨z0, hz0⟩ : ∃ x, x = at0 L j0 := ⟨_, rfl⟩
  rw [← hx1] at b1 btop KM1
  rw [← hx2] at b2 KM2
  rw [← hz2] at c2 KL2
  rw [← hz1] at c1 KL1
  rw [← hz0] at c0 KL0
  rw [← hx1, ← hx2, ← hz2, ← hz1, ← hz0] at OK
  clear hx1 hx2 hz2 hz1 hz0 hr hL hM hne hR hrow h he e
  obtain ⟨X, hX⟩ : ∃ X, X = z2 * 1000000000 + z1 := ⟨_, rfl⟩
  obtain ⟨Y, hY⟩ : ∃ Y, Y = x1 * 1000000000 + x2 + 1 := ⟨_, rfl⟩
  have OKK := hid (OK.out (X * 1000000000 + z0) (x1 * 1000000000 + x2) (by rw [hX]) rfl)
  rw [← hY] at OKK
  clear OK
  obtain ⟨b10, b11⟩ := b1
  obtain ⟨b20, b21⟩ := b2
  obtain ⟨c00, c01⟩ := c0
  obtain ⟨c10, c11⟩ := c1
  obtain ⟨c20, c21⟩ := c2
  have KMU := hid (fun W => Tryd.bits_Mul64 X.toNat 1000000000 (by omega) (by decide) W)
  have hXn : (X.toNat : Int) = X := by omega
  rw [hXn, show ((1000000000 : Nat) : Int) = 1000000000 from rfl] at KMU
  have hXb : 0 ≤ X ∧ X < 1000000000000000000 := by omega
  obtain ⟨hXb0, hXb1⟩ := hXb
  have hmulN : ((X.toNat * 1000000000 / 18446744073709551616 : Nat) : Int) = X * 1000000000 / 18446744073709551616 := by omega
  have hmulM : ((X.toNat * 1000000000 % 18446744073709551616 : Nat) : Int) = X * 1000000000 % 18446744073709551616 := by omega
  rw [hmulN, hmulM] at KMU
  obtain ⟨hi, hhi⟩ : ∃ hi, hi = X * 1000000000 / 18446744073709551616 := ⟨_, rfl⟩
  obtain ⟨lo, hlo⟩ : ∃ lo, lo = X * 1000000000 % 18446744073709551616 := ⟨_, rfl⟩
  rw [← hhi, ← hlo] at KMU
  have bhi0 : 0 ≤ hi := by omega
  have bhi1 : hi ≤ 60000000 := by omega
  have blo0 : 0 ≤ lo := by omega
  have blo1 : lo < 18446744073709551616 := by omega
  obtain ⟨lo2, hlo2⟩ : ∃ lo2, lo2 = (lo + z0) % 18446744073709551616 := ⟨_, rfl⟩
  obtain ⟨cy, hcy⟩ : ∃ cy, cy = (lo + z0) / 18446744073709551616 := ⟨_, rfl⟩
  have A0 := fun (W : World) => add64_0 lo z0 blo0 blo1 c00 (by omega) W
  simp only [← hlo2, ← hcy] at A0
  have bcy0 : 0 ≤ cy := by omega
  have bcy1 : cy ≤ 1 := by omega
  have KD := hid (fun W => Div64_any (X * 1000000000 + z0) Y (hi + cy) lo2 (by omega) (by omega) (by omega) (by omega) (by omega) (by omega) W)
  obtain ⟨t, ht⟩ : ∃ t, t = (X * 1000000000 + z0) / Y := ⟨_, rfl⟩
  rw [← ht] at OKK KD
  have bY0 : 0 ≤ Y := by omega
  have bY1 : Y < 1152921504606846976 := by omega
  have em1 : (M.length : Int) - 1 = m1 := hm1.symm
  have em2 : (M.length : Int) - 2 = m2 := hm2.symm
  have ej2 : (M.length : Int) + s = j2 := hj2.symm
  have ej0 : j2 - 2 = j0 := by omega
  have w1 : IntKind.i64.wrap j1 = j1 := IntWalk.i64_in _ (by omega)
  have ej1 : j2 - 1 = j1 := by omega
  have w2 : IntKind.i64.wrap (z2 * 1000000000) = z2 * 1000000000 := IntWalk.i64_in _ (by omega)
  have w3 : IntKind.i64.wrap (z2 * 1000000000 + z1) = X := by rw [← hX]; exact IntWalk.i64_in _ (by omega)
  have w4 : IntKind.u64.wrap X = X := wrap_u64_in hXb0 (by omega)
  have eY : x1 * 1000000000 + x2 + 1 = Y := hY.symm
  have bj0 : -2 ≤ j0 := by omega
  have bj0' : j0 ≤ 300000 := by omega
  have t0 := OKK.out.2.2.1
  have t1 := OKK.out.2.2.2
  clear hm1 hm2 hj1 hj0 hj2 hX hY hhi hlo hlo2 hcy ht hmulN hmulM hXn
  go_enter Tryd.func72, Tryd.ntmps72
  go_wp2_with fail
  refine (show Calls Tryd.prog 81 #[.slice am M.length cm, .int .i64 m1] w _ from KM1.out 0).mono ?_
  rintro e w' ⟨rfl, hw⟩
  obtain rfl : w = w' := hw
  go_wp2_with fail
  refine (show Calls Tryd.prog 81 #[.slice am M.length cm, .int .i64 m2] w _ from KM2.out 0).mono ?_
  rintro e w' ⟨rfl, hw⟩
  obtain rfl : w = w' := hw
  go_wp2_with fail
  clear em1 em2 ej2 eY
  go_quiet ((first | (go_at_call 81; with_reducible exact quiet_left (KL2.out _)) | (go_at_call 81; with_reducible exact quiet_left (KL1.out _)) | (go_at_call 68; with_reducible exact quiet_right (KMU.out _))))
  go_wp2_with fail
  with_reducible refine (KL0.out _).mono ?_
  rintro e w' ⟨rfl, rfl⟩
  go_wp2_with (simp only)
  with_reducible refine (KD.out _).mono ?_
  rintro e w' ⟨r, d, rfl, rfl⟩
  go_wp2
  go_ret
  exact ⟨t, _, rfl, t0, t1, OKK.out.1, OKK.out.2.1, by first | rfl | rw [World.drewN_drewN]⟩
end Go.Proofs.YtdlkiklhffafhabDoor
