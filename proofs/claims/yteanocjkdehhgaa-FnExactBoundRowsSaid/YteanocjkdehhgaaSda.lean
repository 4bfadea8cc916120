/- The reference's division by one limb, and the search of a quotient's limb. -/
import Derived.Test.YteanocjkdehhgaaTim
import Derived.Test.YteanocjkdehhgaaSpm
namespace Go.Proofs.Yteanocjkdehhgaa
open Go.RowKit
open Go.Lib (hid)
set_option linter.unusedVariables false

def SmallP (Q : List Int) (r : Int) (w : World) (e : Ending) (w' : World) : Prop := ∃ v, e = .returned (.tuple #[v, .int .i64 r]) ∧ Ints w' w.heap.size v Q ∧ Below w.heap.size w w'
theorem drop_set_ge {P : List Int} {k : Nat} (hk : k < P.length) (x : Int) : val ((P.set k x).drop k) = x + 1000000000 * val (P.drop (k + 1)) := by
  have h1 : k < (P.set k x).length := by simpa using hk
  rw [val_drop h1, List.getElem_set_self, List.drop_set_of_lt (by omega)]
theorem small_step {P A : List Int} {k : Nat} {d r x q m : Int} (hk : k < A.length) (hkP : k < P.length) (h : d * val (P.drop (k + 1)) + r = val (A.drop (k + 1))) (hx : x = r * 1000000000 + A[k]) (hq : d * q + m = x) :
    d * val ((P.set k q).drop k) + m = val (A.drop k) := by
  rw [drop_set_ge hkP, val_drop hk, ← h]
  have : d * (q + 1000000000 * val (P.drop (k + 1))) = d * q + 1000000000 * (d * val (P.drop (k + 1))) := by grind
  rw [this]
  omega
theorem zeros_drop {P : List Int} {k : Nat} (h : ∀ j (hj : j < P.length), j < k → P[j] = 0) (hk : k = 0) : val P = val (P.drop k) := by subst hk; rfl

set_option maxRecDepth 100000 in
set_option maxHeartbeats 3200000 in
theorem l02Small_any (a : Option Addr) (n c : Nat) (A : List Int) (d : Int) (hA : A.length ≤ 1000000) (lA : Lim A) (d0 : 0 < d) (d1 : d < 1000000000) (w : World) (h1 : RowI w a n A) :
    Calls Try.prog 143 #[.slice a n c, .int .i64 d] w (SmallP (rep (val A / d).toNat) (val A % d) w) := by
  have R1 := hid h1
  obtain rfl : n = A.length := h1.1
  have L1 := hid lA
  clear h1 lA
  have hmk : ∀ W : World, (Instr.makeSlice 22 (.int .i64 (A.length : Int)) (.int .i64 (A.length : Int))).run Try.prog W = .ok (.slice (some ⟨W.heap.size, 0, none⟩) A.length A.length) (W.alloc (.cells (madeCells #[.int .i64 0] A.length) 3)) := by
    intro W
    exact run_make_row' (P := Try.prog) 22 3 (.int .i64 0) 8 Try.underlying22 Try.info3 rfl .i64 .i64 A.length (by omega) (by omega) W
  have HM := hid (Ints_made (w := w) (Nat.le_refl _) A.length (by unfold maxLen; omega))
  have HA := hid (below_new (w := w) (o := .cells (madeCells #[.int .i64 0] A.length) 3))
  obtain ⟨Q, hQ⟩ : ∃ Q, Q = rep (val A / d).toNat := ⟨_, rfl⟩
  obtain ⟨M, hMm⟩ : ∃ M, M = val A % d := ⟨_, rfl⟩
  have HQ := hid hQ
  have HMM := hid hMm
  rw [← hQ, ← hMm]
  clear hQ hMm
  go_enter Try.func143, Try.ntmps143
  go_wp2
  clear hmk
  generalize w.alloc (.cells (madeCells #[.int .i64 0] A.length) 3) = w1 at HM HA ⊢
  obtain ⟨g, hg⟩ : ∃ g, g = w.heap.size := ⟨_, rfl⟩
  have HG := hid hg
  rw [← hg] at HM HA
  rw [← hg]
  clear hg
  go_loopw [7, 8] (fun y x wr => ∃ (k : Nat) (r : Int) (P : List Int), k ≤ A.length ∧ x = .int .i64 ((k : Int) - 1) ∧ y = .int .i64 r ∧ 0 ≤ r ∧ r < d ∧ Ints wr g (.slice (some ⟨g, 0, none⟩) A.length A.length) P ∧ Hid (Lim P) ∧ Hid (d * val (P.drop k) + r = val (A.drop k)) ∧ Below g w wr) (fun _ x _ => (intOf x + 1).toNat)
  case atStart => exact ⟨A.length, 0, List.replicate A.length 0, Nat.le_refl _, rfl, rfl, by decide, d0, HM.out, hid (Lim_zeros _), hid (by rw [val_drop_end (by simp), val_drop_end (Nat.le_refl _)]; simp), HA.out⟩
  case round =>
    clear HM HA
    obtain ⟨k, r, P, hk, rfl, rfl, r0, r1, hown, hPL, hPv, hbel⟩ := hrel
    have HO := hid hown
    have HBL := hid hbel
    have HPn := hid (Ints_same hown)
    clear hown hbel
    cases k with
    | zero =>
      have hPn : P.length ≤ 1073741824 := by rw [HPn.out]; omega
      have hE := hid (show rep (val P).toNat = Q ∧ r = M by
        have h : d * val P + r = val A := hPv.out
        have h1 : val A / d = val P ∧ val A % d = r := by
          rw [← h]
          refine ⟨?_, ?_⟩
          · rw [Int.add_comm, Int.add_mul_ediv_left _ _ (by omega), Int.ediv_eq_zero_of_lt r0 r1]; omega
          · rw [Int.add_comm, Int.add_mul_emod_self_left, Int.emod_eq_of_lt r0 r1]
        rw [HQ.out, HMM.out, h1.1, h1.2]
        exact ⟨rfl, rfl⟩)
      clear hPv
      obtain ⟨hE1, hE2⟩ := hE.out
      subst hE2
      go_wp2_with fail
      (with_reducible refine (l02Trim_own _ _ P hPn hPL.out wr HO.out).mono ?_)
      rw [hE1]
      rintro e w2 ⟨⟨u, rfl, hU, -⟩, rfl⟩
      have HU := hid hU
      clear hU hE1
      go_wp2
      go_ret2
      exact ⟨_, rfl, by rw [← HG.out]; exact HU.out, by rw [← HG.out]; exact HBL.out⟩
    | succ k =>
      have hkP : k < P.length := by rw [HPn.out]; omega
      obtain ⟨g1, o1, rfl, -, hc1⟩ := (RowI_old R1.out (by rw [← HG.out]; exact HBL.out)).2 (by omega)
      have q1 := hc1 k (by omega)
      clear hc1
      have hx := Lim_at L1.out (show k < A.length by omega)
      have HST := hid (fun (q m : Int) (h : d * q + m = r * 1000000000 + A[k]) => small_step (q := q) (m := m) (show k < A.length by omega) hkP hPv.out rfl h)
      obtain ⟨x, hxe⟩ : ∃ x, x = A[k] := ⟨_, rfl⟩
      rw [← hxe] at q1 hx HST
      clear hxe hPv
      obtain ⟨x0, x1⟩ := hx
      obtain ⟨y, hy⟩ : ∃ y, y = r * 1000000000 + x := ⟨_, rfl⟩
      have y0 : 0 ≤ y := by omega
      have y1 : y < d * 1000000000 := by omega
      have y2 : y < 1000000000000000000 := by omega
      have hdn : (d == 0) = false := beq_eq_false_iff_ne.2 (by omega)
      have hdz : d ≠ 0 := by omega
      have e1 : y.tdiv d = y / d := Int.tdiv_eq_ediv_of_nonneg y0
      have e2 : y.tmod d = y % d := Int.tmod_eq_emod_of_nonneg y0
      have HDM := hid (Int.mul_ediv_add_emod y d)
      have m0 := Int.emod_nonneg y hdz
      have m1 := Int.emod_lt_of_pos y d0
      have q0 : 0 ≤ y / d := Int.ediv_nonneg y0 (by omega)
      have q9 : y / d < 1000000000 := Int.ediv_lt_of_lt_mul d0 (by rw [Int.mul_comm]; exact y1)
      rw [← hy] at HST
      obtain ⟨q, hq⟩ : ∃ q, q = y / d := ⟨_, rfl⟩
      obtain ⟨m, hm⟩ : ∃ m, m = y % d := ⟨_, rfl⟩
      rw [← hq] at e1 q0 q9 HDM
      rw [← hm] at e2 m0 m1 HDM
      have hq' : y / d = q := hq.symm
      have hm' : y % d = m := hm.symm
      have hy' : r * 1000000000 + x = y := hy.symm
      have wy : IntKind.i64.wrap y = y := IntWalk.i64_in _ (by omega)
      have wq : IntKind.i64.wrap q = q := IntWalk.i64_in _ (by omega)
      have wm : IntKind.i64.wrap m = m := IntWalk.i64_in _ (by omega)
      have HV := hid (HST.out q m HDM.out)
      clear hy hq hm y1
      have e3 : ((k + 1 : Nat) : Int) - 1 = k := by omega
      rw [e3]
      clear e3
      have a1 : (0 : Int) ≤ k := by omega
      have a2 : (k : Int) < A.length := by omega
      have f1 := Ints_free HO.out k
      have q3 := Ints_cell HO.out hkP
      obtain ⟨z, hze⟩ : ∃ z, z = P[k] := ⟨_, rfl⟩
      rw [← hze] at q3
      clear hze
      have HST2 := hid (Ints_store HO.out (i := k) q)
      have HBL2 := hid (HBL.out.setCell (p := ⟨g, k, none⟩) (Nat.le_refl _) (.int .i64 q))
      go_wp2
      go_roundw
      case rel => exact ⟨k, m, _, by omega, rfl, rfl, m0, m1, HST2.out, hid (Lim_set hPL.out _ q0 q9), HV, HBL2.out⟩
      case measure => simp [intOf]
end Go.Proofs.Yteanocjkdehhgaa
