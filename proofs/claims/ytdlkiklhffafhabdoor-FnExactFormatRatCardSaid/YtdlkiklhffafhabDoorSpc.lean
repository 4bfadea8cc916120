/- The reference's product. -/
import Derived.Test.YtdlkiklhffafhabDoorSpb
namespace Go.Proofs.YtdlkiklhffafhabDoor
open Go.RowKit
open Go.Lib (hid)
set_option linter.unusedVariables false

theorem set_zeros {P : List Int} {m : Nat} (h : ∀ j (hj : j < P.length), m ≤ j → P[j] = 0) {i : Nat} (hi : i < m) (x : Int) : ∀ j (hj : j < (P.set i x).length), m ≤ j → (P.set i x)[j] = 0 := by
  intro j hj hm
  rw [List.getElem_set_ne (by omega)]
  exact h j (by simpa using hj) hm
theorem mul_end {P A B : List Int} {k m : Nat} (hm : m = k + B.length) (hk : k < A.length) (hmP : m < P.length) (h0 : P[m] = 0) {d : Int} (h : val P + d * pw (k + B.length) = val (A.take k) * val B + A[k] * val (B.take B.length) * pw k) :
    val (P.set m d) = val (A.take (k + 1)) * val B := by
  subst hm
  rw [val_set hmP, h0, Int.sub_zero, h, List.take_length]
  exact mul_one_step hk
theorem Ints_same {w : World} {B g n c : Nat} {P : List Int} (h : Ints w B (.slice (some ⟨g, 0, none⟩) n c) P) : P.length = n := (Ints_num h).symm

set_option maxRecDepth 100000 in
set_option maxHeartbeats 6400000 in
theorem l02Mul_any (a a' : Option Addr) (n n' c c' : Nat) (A B : List Int) (hA : A.length ≤ 1000000) (hB : B.length ≤ 1000000) (lA : Lim A) (lB : Lim B) (w : World) (h1 : RowI w a n A) (h2 : RowI w a' n' B) :
    Calls Tryd.prog 49 #[.slice a n c, .slice a' n' c'] w (OwnP (rep (val A * val B).toNat) w) := by
  have R1 := hid h1
  have R2 := hid h2
  obtain rfl : n = A.length := h1.1
  obtain rfl : n' = B.length := h2.1
  have L1 := hid lA
  have L2 := hid lB
  clear h1 h2 lA lB
  by_cases zA : A.length = 0
  · obtain rfl : A = [] := List.length_eq_zero_iff.1 zA
    have hE := hid (show rep (val [] * val B).toNat = [] by simp [val, rep_zero])
    have z1 : ((([] : List Int).length : Nat) : Int) = 0 := rfl
    go_enter Tryd.func49, Tryd.ntmps49
    go_wp2
    go_ret
    rw [hE.out]
    exact OwnP_mk rfl rfl (Ints_nil _ _) (Below.refl _ _)
  by_cases zB : B.length = 0
  · obtain rfl : B = [] := List.length_eq_zero_iff.1 zB
    have hE := hid (show rep (val A * val []).toNat = [] by simp [val, rep_zero])
    have z1 : ((A.length : Int) == 0) = false := beq_eq_false_iff_ne.2 (by omega)
    go_enter Tryd.func49, Tryd.ntmps49
    go_wp2
    go_ret
    rw [hE.out]
    exact OwnP_mk rfl rfl (Ints_nil _ _) (Below.refl _ _)
  have z1 : ((A.length : Int) == 0) = false := beq_eq_false_iff_ne.2 (by omega)
  have z2 : ((B.length : Int) == 0) = false := beq_eq_false_iff_ne.2 (by omega)
  have hmk : ∀ W : World, (Instr.makeSlice 22 (.int .i64 ((A.length : Int) + B.length)) (.int .i64 ((A.length : Int) + B.length))).run Tryd.prog W = .ok (.slice (some ⟨W.heap.size, 0, none⟩) (A.length + B.length) (A.length + B.length)) (W.alloc (.cells (madeCells #[.int .i64 0] (A.length + B.length)) 3)) := by
    intro W
    have hr := run_make_row' (P := Tryd.prog) 22 3 (.int .i64 0) 8 Tryd.underlying22 Tryd.info3 rfl .i64 .i64 (A.length + B.length) (by omega) (by omega) W
    rw [Int.natCast_add] at hr
    exact hr
  have HM := hid (Ints_made (w := w) (Nat.le_refl _) (A.length + B.length) (by unfold maxLen; omega))
  have HA := hid (below_new (w := w) (o := .cells (madeCells #[.int .i64 0] (A.length + B.length)) 3))
  go_enter Tryd.func49, Tryd.ntmps49
  go_wp2
  clear hmk
  generalize w.alloc (.cells (madeCells #[.int .i64 0] (A.length + B.length)) 3) = w1 at HM HA ⊢
  obtain ⟨g, hg⟩ : ∃ g, g = w.heap.size := ⟨_, rfl⟩
  have HG := hid hg
  rw [← hg] at HM HA
  rw [← hg]
  clear hg
  obtain ⟨N, hN⟩ : ∃ N, N = A.length + B.length := ⟨_, rfl⟩
  have HN := hid hN
  rw [← hN] at HM
  rw [← hN]
  clear hN
  go_loopw [28] (fun x wr => ∃ (k : Nat) (P : List Int), k ≤ A.length ∧ x = .int .i64 k ∧ Ints wr g (.slice (some ⟨g, 0, none⟩) N N) P ∧ Hid (Lim P) ∧ Hid (val P = val (A.take k) * val B) ∧ Hid (∀ j (hj : j < P.length), k + B.length ≤ j → P[j] = 0) ∧ Below g w wr) (fun x _ => A.length - (intOf x).toNat)
  case atStart => exact ⟨0, List.replicate N 0, Nat.zero_le _, rfl, HM.out, hid (Lim_zeros _), hid (by rw [val_zeros]; simp [val]), hid (fun j hj _ => by simp), HA.out⟩
  case round =>
    obtain ⟨k, P, hk, rfl, hown, hPL, hPv, hPz, hbel⟩ := hrel
    have HO := hid hown
    have HBL := hid hbel
    clear hown hbel HM HA
    by_cases hlt : k < A.length
    · obtain ⟨g1, o1, rfl, -, hc1⟩ := (RowI_old R1.out (by rw [← HG.out]; exact HBL.out)).2 (by omega)
      have q1 := hc1 k hlt
      clear hc1
      have a1 : (0 : Int) ≤ k := by omega
      have a2 : (k : Int) < A.length := by omega
      have hx := Lim_at L1.out hlt
      have HEND := hid (fun (P : List Int) (m : Nat) hm hmP h0 (d : Int) h => mul_end (P := P) (B := B) (m := m) hm hlt hmP h0 (d := d) h)
      obtain ⟨x, hxe⟩ : ∃ x, x = A[k] := ⟨_, rfl⟩
      rw [← hxe] at q1 hx HEND
      clear hxe
      obtain ⟨hx0, hx1⟩ := hx
      have HPk := hid (show val P + 0 * pw (k + 0) = val (A.take k) * val B + x * val (B.take 0) * pw k by rw [hPv.out]; simp [val])
      clear hPv
      go_wp2
      clear q1
      obtain ⟨wo, hwo⟩ : ∃ wo : World, wo = wr := ⟨_, rfl⟩
      clear hwo
      go_loopw [8, 35] (fun y z wr => ∃ (j : Nat) (d : Int) (P : List Int), j ≤ B.length ∧ z = .int .i64 j ∧ y = .int .i64 d ∧ 0 ≤ d ∧ d < 1000000000 ∧ Ints wr g (.slice (some ⟨g, 0, none⟩) N N) P ∧ Hid (Lim P) ∧ Hid (val P + d * pw (k + j) = val (A.take k) * val B + x * val (B.take j) * pw k) ∧ Hid (∀ j (hj : j < P.length), k + B.length ≤ j → P[j] = 0) ∧ Below g w wr) (fun _ z _ => B.length - (intOf z).toNat)
      case atStart => exact ⟨0, 0, P, Nat.zero_le _, rfl, rfl, by decide, by decide, HO.out, hPL, HPk, hPz, HBL.out⟩
      case round =>
        clear HO HBL hPL hPz HPk
        obtain ⟨j, d, P, hj, rfl, rfl, hd0, hd1, hown, hPL, hPv, hPz, hbel⟩ := hrel
        have HO := hid hown
        have HBL := hid hbel
        have hPn := Ints_same hown
        have HPn := hid hPn
        clear hown hbel
        by_cases hjl : j < B.length
        · have hkP : k + j < P.length := by rw [hPn, HN.out]; omega
          have hkN : k + j < N := by rw [HN.out]; omega
          clear hPn
          obtain ⟨g2, o2, rfl, -, hc2⟩ := (RowI_old R2.out (by rw [← HG.out]; exact HBL.out)).2 (by omega)
          have q2 := hc2 j hjl
          clear hc2
          have hy := Lim_at L2.out hjl
          have hz := Lim_at hPL.out hkP
          obtain ⟨z, hze⟩ : ∃ z, z = P[k + j] := ⟨_, rfl⟩
          obtain ⟨y, hye⟩ : ∃ y, y = B[j] := ⟨_, rfl⟩
          have HT := hid (set_step hkP (x := z + y * x + d) (y := y * x + d) (by rw [hze]; omega))
          have HACC := hid (mul_acc hjl hPv.out)
          rw [← hze] at hz
          rw [← hye] at hy q2 HACC
          clear hPv
          obtain ⟨b1, b2, b3, b4⟩ := mul_step hz hy (f := x) ⟨by omega, hx1⟩ (c := d) ⟨by omega, hd1⟩
          have b0 : 0 ≤ y * x := Int.mul_nonneg hy.1 hx0
          have q3 := Ints_cell HO.out hkP
          rw [← hze] at q3
          have f1 := Ints_free HO.out (k + j)
          clear hze hye
          obtain ⟨hz0, hz1⟩ := hz
          obtain ⟨hy0, hy1⟩ := hy
          have a3 : (0 : Int) ≤ j := by omega
          have a4 : (j : Int) < B.length := by omega
          have a5 : (0 : Int) ≤ (k : Int) + j := by omega
          have a6 : (k : Int) + j < N := by omega
          have a7 : ((k : Int) + j).toNat = k + j := by omega
          have HST := hid (Ints_store HO.out (i := k + j) ((z + y * x + d) % 1000000000))
          have HBL2 := hid (HBL.out.setCell (p := ⟨g, k + j, none⟩) (Nat.le_refl _) (.int .i64 ((z + y * x + d) % 1000000000)))
          obtain ⟨p, hp⟩ : ∃ p, p = y * x := ⟨_, rfl⟩
          have hpm : x * y = p := by rw [hp, Int.mul_comm]
          rw [← hp] at b0 b1 b2 b3 b4 HT HACC HST HBL2
          clear hp
          go_wp2
          go_roundw
          case rel =>
            refine ⟨j + 1, (z + p + d) / 1000000000, _, by omega, by go_num, rfl, by omega, by omega, HST.out, hid (Lim_set hPL.out _ (by omega) (by omega)), hid ?_, hid (set_zeros hPz.out (by omega) _), HBL2.out⟩
            exact HT.out.trans HACC.out
          case measure => simp [intOf]; omega
        · obtain rfl : j = B.length := by omega
          have hkP : k + B.length < P.length := by rw [hPn, HN.out]; omega
          have hkN : k + B.length < N := by rw [HN.out]; omega
          clear hPn
          have HE := hid (HEND.out P _ rfl hkP (hPz.out _ hkP (Nat.le_refl _)) d hPv.out)
          have HZ := hid (fun i (hi : i < (P.set (k + B.length) d).length) (h : k + 1 + B.length ≤ i) => set_zeros (m := k + 1 + B.length) (fun i hi h => hPz.out i hi (by omega)) (i := k + B.length) (by omega) d i hi h)
          have q3 := Ints_cell HO.out hkP
          obtain ⟨z, hze⟩ : ∃ z, z = P[k + B.length] := ⟨_, rfl⟩
          rw [← hze] at q3
          clear hze hPv
          have f1 := Ints_free HO.out (k + B.length)
          have a5 : (0 : Int) ≤ (k : Int) + B.length := by omega
          have a6 : (k : Int) + B.length < N := by omega
          have a7 : ((k : Int) + B.length).toNat = k + B.length := by omega
          have HST := hid (Ints_store HO.out (i := k + B.length) d)
          have HBL2 := hid (HBL.out.setCell (p := ⟨g, k + B.length, none⟩) (Nat.le_refl _) (.int .i64 d))
          go_wp2
          go_roundw
          case rel => exact ⟨k + 1, _, by omega, by go_num, HST.out, hid (Lim_set hPL.out _ hd0 hd1), HE, HZ, HBL2.out⟩
          case measure => simp [intOf]; omega
    · obtain rfl : k = A.length := by omega
      have a2 : ¬ (A.length : Int) < A.length := by omega
      have hPn : P.length ≤ 1073741824 := by rw [Ints_same HO.out, HN.out]; omega
      have hE := hid (show val P = val A * val B by rw [hPv.out, List.take_length])
      clear hPv
      go_wp2_with fail
      refine (l02Trim_own _ _ P hPn hPL.out wr HO.out).mono ?_
      rw [hE.out]
      rintro e w2 ⟨⟨u, rfl, hU, -⟩, rfl⟩
      have HU := hid hU
      clear hU
      go_wp2
      go_ret
      exact OwnP_mk HG.out rfl HU.out HBL.out

theorem cap_rep {V : Int} (h : 0 ≤ V) : val (rep V.toNat) = V := val_rep' h
end Go.Proofs.YtdlkiklhffafhabDoor
