import Derived.Test.YthkehmnodcmlcaaGreatTim
import Derived.Test.YthkehmnodcmlcaaGreatSpm
set_option maxRecDepth 100000
set_option maxHeartbeats 3200000
set_option linter.unusedVariables false
set_option linter.unusedSimpArgs false
namespace Go.Proofs.YthkehmnodcmlcaaGreat
open Go.RowKit
open Go.Lib (hid)
def SmallP (Q : List Int) (r : Int) (w : World) (e : Ending) (w' : World) : Prop := ∃ v, e = .returned (.tuple #[v, .int .i64 r]) ∧ Ints w' w.heap.size v Q ∧ Below w.heap.size w w'
theorem drop_set_ge {P : List Int} {k : Nat} (hk : k < P.length) (x : Int) : val ((P.set k x).drop k) = x + 1000000000 * val (P.drop (k + 1)) := by
 have h1 : k < (P.set k x).length := by simpa using hk
 rw [val_drop h1, List.getElem_set_self, List.drop_set_of_lt (by omega)]
theorem small_step {P A : List Int} {k : Nat} {d r x q m : Int} (hk : k < A.length) (hkP : k < P.length) (h : d * val (P.drop (k + 1)) + r = val (A.drop (k + 1))) (hx : x = r * 1000000000 + A[k]) (hq : d * q + m = x) :
  d * val ((P.set k q).drop k) + m = val (A.drop k) := by
 rw [drop_set_ge hkP, val_drop hk, ← h]
 have : d * (q + 1000000000 * val (P.drop (k + 1))) = d * q + 1000000000 * (d * val (P.drop (k + 1))) := by grind
 rw [this]
 omega
theorem l02Small_any (a : Option Addr) (n c : Nat) (A : List Int) (d : Int) (hA : A.length ≤ 1000000) (lA : Lim A) (d0 : 0 < d) (d1 : d < 1000000000) (w : World) (h1 : RowI w a n A) :
  Calls Tryz.prog 195 #[.slice a n c, .int .i64 d] w (SmallP (rep (val A / d).toNat) (val A % d) w) := by
 have R1 := hid h1
 obtain rfl : n = A.length := h1.1
 have L1 := hid lA
 clear h1 lA
 have hmk : ∀ W : World, (Instr.makeSlice 23 (.int .i64 (A.length : Int)) (.int .i64 (A.length : Int))).run Tryz.prog W = .ok (.slice (some ⟨W.heap.size, 0, none⟩) A.length A.length) (W.alloc (.cells (madeCells #[.int .i64 0] A.length) 3)) := by
  intro W
  exact run_make_row' (P := Tryz.prog) 23 3 (.int .i64 0) 8 Tryz.underlying23 Tryz.info3 rfl .i64 .i64 A.length (by omega) (by omega) W
 have HM := hid (Ints_made (w := w) (Nat.le_refl _) A.length (by unfold maxLen; omega))
 have HA := hid (below_new (w := w) (o := .cells (madeCells #[.int .i64 0] A.length) 3))
 obtain ⟨Q, hQ⟩ : ∃ Q, Q = rep (val A / d).toNat := ⟨_, rfl⟩
 obtain ⟨M, hMm⟩ : ∃ M, M = val A % d := ⟨_, rfl⟩
 have HQ := hid hQ
 have HMM := hid hMm
 rw [← hQ, ← hMm]
 clear hQ hMm
 go_enter Tryz.func195, Tryz.ntmps195
 go_wp2
 clear hmk
 generalize w.alloc (.cells (madeCells #[.int .i64 0] A.length) 3) = w1 at HM HA ⊢
 obtain ⟨g, hg⟩ : ∃ g, g = w.heap.size := ⟨_, rfl⟩
 have HG := hid hg
 rw [← hg] at HM HA
 rw [← hg]
 clear hg
 go_loopw [7, 8] (fun y x wr => ∃ (k : Nat) (r : Int) (P : List Int), k ≤ A.length ∧ x = .int .i64 ((k : Int) - 1) ∧ y = .int .i64 r ∧ 0 ≤ r ∧ r < d ∧ Ints wr g (.slice (some ⟨g, 0, none⟩) A.length A.length) P ∧ Hid (Lim P) ∧ Hid (d * val (P.drop k) + r = val (A.drop k)) ∧ Below g w wr) (fun _ x _ => (intOf x + 1).toNat)
 case atStart => exact ⟨A.length, 0, List.replicate A.length 0, Nat.le_refl _, rfl, rfl, by decide, d0, HM.out, hid (Lim_zeros _), hid (by rw [val_drop_end (by simp), val_drop_end (Nat.le_refl _)]; simp), HA.out⟩
 case round =>
  clear HM HA
  obtain ⟨k, r, P, hk, rfl, rfl, r0, r1, hown, hPL, hPv, hbel⟩ := hrel
  have HO := hid hown
  have HBL := hid hbel
  have HPn := hid (Ints_same hown)
  clear hown hbel
  cases k with
  |zero =>
   have hPn : P.length ≤ 1073741824 := by rw [HPn.out]; omega
   have hE := hid (show rep (val P).toNat = Q ∧ r = M by
    have h : d * val P + r = val A := hPv.out
    have h1 : val A / d = val P ∧ val A % d = r := by
     rw [← h]
     refine ⟨?_, ?_⟩
     ·rw [Int.add_comm, Int.add_mul_ediv_left _ _ (by omega), Int.ediv_eq_zero_of_lt r0 r1]; omega
     ·rw [Int.add_comm, Int.add_mul_emod_self_left, Int.emod_eq_of_lt r0 r1]
    rw [HQ.out, HMM.out, h1.1, h1.2]
    exact ⟨rfl, rfl⟩)
   clear hPv
   obtain ⟨hE1, hE2⟩ := hE.out
   subst hE2
   go_wp2_with fail
   (with_reducible refine (l02Trim_own _ _ P hPn hPL.out wr HO.out).mono ?_)
   rw [hE1]
   rintro e w2 ⟨⟨u, rfl, hU, -⟩, rfl⟩
   have HU := hid hU
   clear hU hE1
   go_wp2
   go_ret2
   exact ⟨_, rfl, by rw [← HG.out]; exact HU.out, by rw [← HG.out]; exact HBL.out⟩
  |succ k =>
   have hkP : k < P.length := by rw [HPn.out]; omega
   obtain ⟨g1, o1, rfl, -, hc1⟩ := (RowI_old R1.out (by rw [← HG.out]; exact HBL.out)).2 (by omega)
   have q1 := hc1 k (by omega)
   clear hc1
   have hx := Lim_at L1.out (show k < A.length by omega)
   have HST := hid (fun (q m : Int) (h : d * q + m = r * 1000000000 + A[k]) => small_step (q := q) (m := m) (show k < A.length by omega) hkP hPv.out rfl h)
   obtain ⟨x, hxe⟩ : ∃ x, x = A[k] := ⟨_, rfl⟩
   rw [← hxe] at q1 hx HST
   clear hxe hPv
   obtain ⟨x0, x1⟩ := hx
   obtain ⟨y, hy⟩ : ∃ y, y = r * 1000000000 + x := ⟨_, rfl⟩
   have y0 : 0 ≤ y := by omega
   have y1 : y < d * 1000000000 := by omega
   have y2 : y < 1000000000000000000 := by omega
   have hdn : (d == 0) = false := beq_eq_false_iff_ne.2 (by omega)
   have hdz : d ≠ 0 := by omega
   have e1 : y.tdiv d = y / d := Int.tdiv_eq_ediv_of_nonneg y0
   have e2 : y.tmod d = y % d := Int.tmod_eq_emod_of_nonneg y0
   have HDM := hid (Int.mul_ediv_add_emod y d)
   have m0 := Int.emod_nonneg y hdz
   have m1 := Int.emod_lt_of_pos y d0
   have q0 : 0 ≤ y / d := Int.ediv_nonneg y0 (by omega)
   have q9 : y / d < 1000000000 := Int.ediv_lt_of_lt_mul d0 (by rw [Int.mul_comm]; exact y1)
   rw [← hy] at HST
   obtain ⟨q, hq⟩ : ∃ q, q = y / d := ⟨_, rfl⟩
   obtain ⟨m, hm⟩ : ∃ m, m = y % d := ⟨_, rfl⟩
   rw [← hq] at e1 q0 q9 HDM
   rw [← hm] at e2 m0 m1 HDM
   have hq' : y / d = q := hq.symm
   have hm' : y % d = m := hm.symm
   have hy' : r * 1000000000 + x = y := hy.symm
   have wy : IntKind.i64.wrap y = y := IntWalk.i64_in _ (by omega)
   have wq : IntKind.i64.wrap q = q := IntWalk.i64_in _ (by omega)
   have wm : IntKind.i64.wrap m = m := IntWalk.i64_in _ (by omega)
   have HV := hid (HST.out q m HDM.out)
   clear hy hq hm y1
   have e3 : ((k + 1 : Nat) : Int) - 1 = k := by omega
   rw [e3]
   clear e3
   have a1 : (0 : Int) ≤ k := by omega
   have a2 : (k : Int) < A.length := by omega
   have f1 := Ints_free HO.out k
   have q3 := Ints_cell HO.out hkP
   obtain ⟨z, hze⟩ : ∃ z, z = P[k] := ⟨_, rfl⟩
   rw [← hze] at q3
   clear hze
   have HST2 := hid (Ints_store HO.out (i := k) q)
   have HBL2 := hid (HBL.out.setCell (p := ⟨g, k, none⟩) (Nat.le_refl _) (.int .i64 q))
   go_wp2
   go_roundw
   case rel => exact ⟨k, m, _, by omega, rfl, rfl, m0, m1, HST2.out, hid (Lim_set hPL.out _ q0 q9), HV, HBL2.out⟩
   case measure => simp [intOf]
end Go.Proofs.YthkehmnodcmlcaaGreat

namespace Go.Proofs.YthkehmnodcmlcaaGreat
open Go.RowKit
open Go.Lib (hid)
theorem mul_bd {x y P Q : Int} (hx0 : 0 ≤ x) (hx : x < P) (hy0 : 0 ≤ y) (hy : y < Q) : 0 ≤ x * y ∧ x * y < P * Q := by
 refine ⟨Int.mul_nonneg hx0 hy0, ?_⟩
 calc x * y ≤ x * Q := Int.mul_le_mul_of_nonneg_left (by omega) hx0
  _ < P * Q := Int.mul_lt_mul_of_pos_right hx (by omega)
theorem le_quot {r b q : Int} (hb : 0 < b) : b * q ≤ r ↔ q ≤ r / b := by
 rw [Int.le_ediv_iff_mul_le hb, Int.mul_comm]
theorem l02Digit_any (a a' : Option Addr) (n n' c c' : Nat) (R B : List Int) (hR : R.length ≤ 1000) (hB : B.length ≤ 60) (CR : Can R) (CB : Can B) (b0 : 0 < val B) (hlt : val R < val B * 1000000000) (w : World) (h1 : RowI w a n R) (h2 : RowI w a' n' B) :
  Calls Tryz.prog 196 #[.slice a n c, .slice a' n' c'] w (RetB (.int .i64 (val R / val B)) w) := by
 have R1 := hid h1
 have R2 := hid h2
 obtain ⟨Q, hQ⟩ : ∃ Q, Q = val R / val B := ⟨_, rfl⟩
 have HLE := hid (fun q => le_quot (r := val R) (q := q) b0)
 have Q0 := hid (show 0 ≤ Q ∧ Q ≤ 999999999 by
  rw [hQ]
  have a1 := Int.ediv_nonneg (val_nonneg CR.1) (show 0 ≤ val B by omega)
  have a2 : val R / val B < 1000000000 := Int.ediv_lt_of_lt_mul b0 (by rw [Int.mul_comm]; exact hlt)
  omega)
 rw [← hQ] at HLE
 rw [← hQ]
 have C1 := hid CR
 have C2 := hid CB
 have HB := hid (Below.refl w.heap.size w)
 clear h1 h2 CR CB hQ hlt b0
 go_enter Tryz.func196, Tryz.ntmps196
 go_wp2
 go_loopw [5, 6] (fun x y wr => ∃ l h : Int, x = .int .i64 l ∧ y = .int .i64 h ∧ 0 ≤ l ∧ h ≤ 999999999 ∧ l ≤ Q ∧ Q ≤ h ∧ Below w.heap.size w wr) (fun x y _ => (intOf y - intOf x).toNat)
 case atStart => exact ⟨0, 999999999, rfl, rfl, by decide, by decide, Q0.out.1, Q0.out.2, HB.out⟩
 case round =>
  clear HB
  obtain ⟨l, h, rfl, rfl, l0, h1, lq, qh, hb⟩ := hrel
  have HB := hid hb
  clear hb
  by_cases hl : l < h
  ·obtain ⟨q, hq⟩ : ∃ q, q = (l + h + 1) / 2 := ⟨_, rfl⟩
   have q0 : l < q := by omega
   have q1 : q ≤ h := by omega
   have hq' : (l + h + 1) / 2 = q := hq.symm
   have KO := hid (fun W => spec_NatOf q (by omega) W)
   have vq := hid (val_rep' (V := q) (by omega))
   have lr := hid (rep_short (n := q) (by omega))
   have HD := hid (HLE.out q)
   clear hq
   go_wp2_with fail
   (with_reducible refine (KO.out _).mono ?_)
   rintro e w1 ⟨v1, rfl, hi, b1⟩
   obtain ⟨ai, ci, rfl, -, ri, -⟩ := Ints_form hi
   have HB := hid (HB.out.trans (b1.mono HB.out.size))
   have KM := hid (l02Mul_any a' ai n' (rep q.toNat).length c' ci B (rep q.toNat) (by omega) (by have := lr.out; omega) C2.out.1 (Can_rep _).1 w1 (RowI_old R2.out HB.out) ri)
   rw [vq.out] at KM
   clear hi ri b1 KO
   obtain ⟨p, hp⟩ : ∃ p, p = val B * q := ⟨_, rfl⟩
   rw [← hp] at KM HD
   have p0 : 0 ≤ p := by rw [hp]; exact Int.mul_nonneg (val_nonneg C2.out.1) (by omega)
   have HL := hid (show (rep p.toNat).length ≤ 61 from rep_len' (by
    have a1 := mul_bd (val_nonneg C2.out.1) ((Can_len C2.out).1 hB) (show 0 ≤ q by omega) (show q < 1000000000 by omega)
    have a2 : pw 61 = pw 60 * 1000000000 := by decide
    rw [a2, hp]; exact a1.2))
   clear hp
   go_wp2_with fail
   (with_reducible refine KM.out.mono ?_)
   rintro e w2 ⟨v2, rfl, hi, b1⟩
   obtain ⟨am, cm, rfl, -, ri, -⟩ := Ints_form hi
   have HB := hid (HB.out.trans (b1.mono HB.out.size))
   have KC := hid (l02Cmp_any am a (rep p.toNat).length n cm c (rep p.toNat) R (by have := HL.out; omega) (by omega) w2 ri (RowI_old R1.out HB.out))
   rw [cmpL_val (Can_rep _) C1.out, val_rep' p0] at KC
   obtain ⟨s, hs⟩ : ∃ s, s = sgn (p - val R) := ⟨_, rfl⟩
   rw [← hs] at KC
   have hsc := sgn_cases (p - val R)
   rw [← hs] at hsc
   clear hi ri b1 KM hs p0
   by_cases hle : p ≤ val R
   ·have hqQ : q ≤ Q := HD.out.1 hle
    have hs0 : s ≤ 0 := by omega
    clear hsc hle
    go_wp2_with fail
    (with_reducible refine KC.out.mono ?_)
    rintro e w3 ⟨rfl, d, rfl⟩
    go_wp2
    go_roundw
    case rel => exact ⟨q, h, rfl, rfl, by omega, h1, hqQ, qh, below_drewN HB.out d⟩
    case measure => simp [intOf]; omega
   ·have hqQ : ¬ q ≤ Q := fun h => hle (HD.out.2 h)
    have hs0 : ¬ s ≤ 0 := by omega
    clear hsc hle
    go_wp2_with fail
    (with_reducible refine KC.out.mono ?_)
    rintro e w3 ⟨rfl, d, rfl⟩
    go_wp2
    go_roundw
    case rel => exact ⟨l, q - 1, rfl, rfl, l0, by omega, lq, by omega, below_drewN HB.out d⟩
    case measure => simp [intOf]; omega
  ·have e : l = Q := by omega
   subst e
   go_wp2
   go_ret
   exact ⟨rfl, HB.out⟩
end Go.Proofs.YthkehmnodcmlcaaGreat
