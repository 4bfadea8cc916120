/- The program's product. -/
import Derived.Test.YtnkcihcmkojdmaaGreatImp
import Derived.Test.YtnkcihcmkojdmaaGreatToI
namespace Go.Proofs.YtnkcihcmkojdmaaGreat
open Go.RowKit
open Go.Lib (hid)
set_option linter.unusedVariables false


def mulR (A B : List Int) : List Int := if nok A && nok B then capped (val A * val B) else []
theorem mulR_no {A B : List Int} (h : nok A = false ∨ nok B = false) : mulR A B = [] := by
  unfold mulR; rcases h with h | h <;> simp [h]
theorem mulR_yes {A B : List Int} (h : nok A = true) (h' : nok B = true) : mulR A B = capped (val A * val B) := by simp [mulR, h, h']
theorem mul_lt {A B : List Int} (hA : Lim A) (hB : Lim B) (nA : A.length ≤ 60) (nB : B.length ≤ 60) (k : Nat) : val (A.take k) * val B < pw 120 ∧ 0 ≤ val (A.take k) * val B := by
  have h1 := val_lt (Lim_take hA k)
  have h2 := val_lt hB
  have h3 := val_nonneg (Lim_take hA k)
  have h4 := val_nonneg hB
  have h5 := pw_le (m := (A.take k).length) (n := 60) (by rw [List.length_take]; omega)
  have h6 := pw_le (m := B.length) (n := 60) (by omega)
  refine ⟨?_, Int.mul_nonneg h3 h4⟩
  have e : pw 120 = pw 60 * pw 60 := pw_add 60 60
  rw [e]
  calc val (A.take k) * val B ≤ val (A.take k) * pw 60 := Int.mul_le_mul_of_nonneg_left (by omega) h3
    _ < pw 60 * pw 60 := Int.mul_lt_mul_of_pos_right (by omega) (pw_pos 60)
theorem rep_len' {V : Int} {n : Nat} (h : V < pw n) : (rep V.toNat).length ≤ n := by
  refine (Can_len (Can_rep _)).2 ?_
  rw [val_rep]
  have := pw_pos n
  omega
theorem val_rep' {V : Int} (h : 0 ≤ V) : val (rep V.toNat) = V := by rw [val_rep]; omega
theorem mul_one_step {A B : List Int} {k : Nat} (hk : k < A.length) : val (A.take k) * val B + A[k] * val B * pw k = val (A.take (k + 1)) * val B := by
  rw [val_take_succ hk]; grind
theorem Ints_make0 {w : World} (c : Nat) (hc : c ≤ maxLen) : Ints (w.alloc (.cells (madeCells #[.int .i64 0] c) 3)) w.heap.size (.slice (some ⟨w.heap.size, 0, none⟩) 0 c) [] :=
  World.ownsRow_made w _ c (Nat.le_refl _) hc (by simp [madeCells])

set_option maxRecDepth 100000 in
set_option maxHeartbeats 1600000 in
theorem impl_NatMul (v u : Value) (A B : List Int) (hA : A.length ≤ 1073741824) (hB : B.length ≤ 1073741824) (b1 b2 : Nat) (w : World) (h1 : Ints w b1 v A) (h2 : Ints w b2 u B) :
    Calls Tryz.prog 100 #[v, u] w (OwnP (mulR A B) w) := by
  obtain ⟨a, c, rfl, r1, p1⟩ := slice_own h1
  obtain ⟨a', c', rfl, r2, p2⟩ := slice_own h2
  have K1 := hid (impl_NatOk _ _ c A hA w r1)
  have K2 := hid (impl_NatOk _ _ c' B hB w r2)
  have R1 := hid r1
  have P1 := hid p1
  have R2 := hid r2
  have P2 := hid p2
  clear h1 h2 r1 r2 p1 p2
  obtain ⟨R, hR⟩ : ∃ R, R = mulR A B := ⟨_, rfl⟩
  have HR := hid hR
  rw [← hR]
  clear hR
  cases e1 : nok A with
  | false =>
    have hE := hid (HR.out.trans (mulR_no (.inl e1)))
    rw [e1] at K1
    clear e1
    go_enter Tryz.func100, Tryz.ntmps100
    go_wp2_with fail
    refine K1.out.mono ?_
    rintro e w1 ⟨rfl, rfl⟩
    go_wp2
    go_ret
    exact OwnP_mk rfl rfl (by rw [hE.out]; exact Ints_nil _ _) (Below.refl _ _)
  | true =>
    cases e2 : nok B with
    | false =>
      have hE := hid (HR.out.trans (mulR_no (.inr e2)))
      rw [e1] at K1
      rw [e2] at K2
      clear e1 e2
      go_enter Tryz.func100, Tryz.ntmps100
      go_wp2_with fail
      refine K1.out.mono ?_
      rintro e w1 ⟨rfl, rfl⟩
      go_wp2_with fail
      refine K2.out.mono ?_
      rintro e w1 ⟨rfl, rfl⟩
      go_wp2
      go_ret
      exact OwnP_mk rfl rfl (by rw [hE.out]; exact Ints_nil _ _) (Below.refl _ _)
    | true =>
      have hE := hid (HR.out.trans (mulR_yes e1 e2))
      have l1 := hid (nok_lim e1)
      have l2 := hid (nok_lim e2)
      have n1 := nok_len e1
      have n2 := nok_len e2
      have hb := hid (mul_lt l1.out l2.out n1 n2)
      rw [e1] at K1
      rw [e2] at K2
      clear e1 e2
      obtain ⟨i3, hi, hz0, hz1, hz2⟩ := info_parts Tryz.info3
      have hmk : ∀ W : World, (Instr.makeSlice 26 (.int .i64 0) (.int .i64 ((A.length : Int) + B.length))).run Tryz.prog W = .ok (.slice (some ⟨W.heap.size, 0, none⟩) 0 (A.length + B.length)) (W.alloc (.cells (madeCells #[.int .i64 0] (A.length + B.length)) 3)) := by
        intro W
        have hr := run_make (P := Tryz.prog) W 26 3 i3 (.int .i64 0) Tryz.underlying26 hi hz0 .i64 .i64 0 ((A.length : Int) + B.length) (by omega) (by omega) (by rw [hz2]; omega) (by omega)
        rw [hz1, show ((A.length : Int) + B.length).toNat = A.length + B.length by omega, Nat.mul_one] at hr
        exact hr
      have HM := hid (IsNat_new (Ints_make0 (w := w) (A.length + B.length) (by unfold maxLen; omega)) below_new rfl)
      clear hi hz0 hz1 hz2
      go_enter Tryz.func100, Tryz.ntmps100
      go_wp2_with fail
      refine K1.out.mono ?_
      rintro e w1 ⟨rfl, rfl⟩
      go_wp2_with fail
      refine K2.out.mono ?_
      rintro e w1 ⟨rfl, rfl⟩
      go_wp2_with fail
      clear hmk
      obtain ⟨N, hN⟩ : ∃ N, N = (w.alloc (.cells (madeCells #[.int .i64 0] (A.length + B.length)) 3)).heap.size := ⟨_, rfl⟩
      have hN2 : N = w.heap.size + 1 := by rw [hN]; simp
      rw [← hN] at HM
      rw [← hN2]
      clear hN hN2
      generalize (w.alloc (.cells (madeCells #[.int .i64 0] (A.length + B.length)) 3)).alloc (.cells #[.slice (some ⟨w.heap.size, 0, none⟩) 0 (A.length + B.length)] 133) = w1 at HM ⊢
      have HI := hid HM.out.1
      have HO := hid (Only.of_below (S := fun k => w.heap.size ≤ k) HM.out.2 (fun k hk => hk))
      clear HM
      go_loopw [26] (fun x wr => ∃ (k : Nat) (P : List Int) (y : Value), k ≤ A.length ∧ x = .int .i64 k ∧ IsNat natQ wr (fun k => w.heap.size ≤ k) N y P ∧ Hid (P = rep (val (A.take k) * val B).toNat) ∧ Only (fun k => w.heap.size ≤ k) w wr) (fun x _ => A.length - (intOf x).toNat)
      case atStart => exact ⟨0, [], _, Nat.zero_le _, rfl, HI.out, hid (by simp [val, rep_zero]), HO.out⟩
      case round =>
        obtain ⟨k, P, y, hk, rfl, hI, hP, hO⟩ := hrel
        clear HI HO
        have HI := hid hI
        have HO := hid hO
        clear hI hO
        have hbk := hb.out k
        have hpl : P.length ≤ 120 := by rw [hP.out]; exact rep_len' hbk.1
        have HPv := hid (show val P = val (A.take k) * val B by rw [hP.out, val_rep' hbk.2])
        have HPL := hid (show Lim P by rw [hP.out]; exact Lim_rep _)
        clear hbk
        by_cases hlt : k < A.length
        · obtain ⟨g1, o1, rfl, -, hc1⟩ := (RowI_only R1.out HO.out P1.out).2 (by omega)
          have q1 := hc1 k hlt
          clear hc1
          have a1 : (0 : Int) ≤ k := by omega
          have a2 : (k : Int) < A.length := by omega
          have hx := Lim_at l1.out hlt
          obtain ⟨x, hxe⟩ : ∃ x, x = A[k] := ⟨_, rfl⟩
          have HST := hid (mul_one_step (B := B) hlt)
          rw [← hxe] at q1 hx HST
          clear hxe
          have HV := hid (show val P + x * val B * pw ((k : Int)).toNat = val (A.take (k + 1)) * val B by rw [HPv.out, Int.toNat_natCast]; exact HST.out)
          have KA := hid (addMultiple_any (fun k => w.heap.size ≤ k) N y P B a' B.length c' x k (by omega) (by omega) (by omega) (by omega) HPL.out l2.out (by omega) (by omega) (by rw [HV.out]; exact (hb.out (k + 1)).2) wr HI.out (fun j hj => Nat.le_trans HO.out.size hj) (RowI_only R2.out HO.out P2.out) P2.out)
          rw [HV.out] at KA
          go_wp2_with fail
          refine KA.out.mono ?_
          rintro e w2 ⟨rfl, ⟨y2, h2⟩, o2⟩
          have HI := hid h2
          have HO := hid (HO.out.trans o2)
          clear h2 o2
          go_wp2
          go_roundw
          case rel => exact ⟨k + 1, _, _, by omega, by go_num, HI.out, hid rfl, HO.out⟩
          case measure => simp [intOf]; omega
        · obtain rfl : k = A.length := by omega
          have HPP := hid (show P = rep (val A * val B).toNat by rw [hP.out, List.take_length])
          have HV0 := hid (show 0 ≤ val A * val B by have := (hb.out A.length).2; rwa [List.take_length] at this)
          go_wp2_with fail
          refine (result_any _ N y _ wr HI.out).mono ?_
          rintro e w3 ⟨⟨z, T, rfl, hz⟩, rfl⟩
          have HZ := hid hz
          clear hz
          go_wp2
          go_ret
          have := OwnP_res (V := val A * val B) HZ.out HI.out (HO.out.below (fun k hk hs => absurd hs (Nat.not_le.2 hk))) HV0.out HPP.out rfl
          rw [hE.out]
          exact this
end Go.Proofs.YtnkcihcmkojdmaaGreat
