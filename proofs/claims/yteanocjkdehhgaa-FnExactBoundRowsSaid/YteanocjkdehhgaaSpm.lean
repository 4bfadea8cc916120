/- Merged: Spa Spb Spc. -/
import Derived.Test.YteanocjkdehhgaaImm
/- The reference's sum, difference and product. -/
namespace Go.Proofs.Yteanocjkdehhgaa
open Go.RowKit
open Go.Lib (hid)
set_option linter.unusedVariables false

/-- A slice of the call's own whose limbs have the value V, at most n of them. -/
def OwnV (V : Int) (n : Nat) (w : World) (e : Ending) (w' : World) : Prop := ∃ M, Lim M ∧ val M = V ∧ M.length ≤ n ∧ OwnP M w e w'
theorem OwnV_mk {V : Int} {n : Nat} {M : List Int} {w w' : World} {e : Ending} {v : Value} {B : Nat} (hL : Lim M) (hV : val M = V) (hn : M.length ≤ n) (hB : B = w.heap.size) (he : e = .returned v) (h : Ints w' B v M) (hb : Below B w w') : OwnV V n w e w' :=
  ⟨M, hL, hV, hn, OwnP_mk hB he h hb⟩
theorem snoc_step {P : List Int} {k : Nat} (hk : P.length = k) (x : Int) : val (P ++ [x % 1000000000]) + (x / 1000000000) * pw (k + 1) = val P + x * pw k := by
  rw [val_append, hk]
  have e : x = 1000000000 * (x / 1000000000) + x % 1000000000 := by omega
  have h : val [x % 1000000000] = x - (x / 1000000000) * 1000000000 := by simp only [val]; omega
  rw [h]
  simp only [pw]
  grind
theorem take_more {A : List Int} (k : Nat) : val (A.take (k + 1)) = val (A.take k) + pw k * A.getD k 0 := by
  by_cases hk : k < A.length
  · rw [val_take_succ hk]; simp [hk]
  · rw [List.take_of_length_le (by omega), List.take_of_length_le (by omega)]
    simp [List.getD, List.getElem?_eq_none (show A.length ≤ k by omega)]
theorem getD_lim {A : List Int} (h : Lim A) (k : Nat) : 0 ≤ A.getD k 0 ∧ A.getD k 0 < 1000000000 := by
  by_cases hk : k < A.length
  · have := Lim_at h hk; simpa [hk] using this
  · simp [List.getD, List.getElem?_eq_none (show A.length ≤ k by omega)]
theorem getD_in {A : List Int} {k : Nat} (hk : k < A.length) : A.getD k 0 = A[k] := by simp [hk]
theorem getD_out {A : List Int} {k : Nat} (hk : ¬ k < A.length) : A.getD k 0 = 0 := by simp [List.getD, List.getElem?_eq_none (show A.length ≤ k by omega)]
theorem sum_step {P A B : List Int} {k : Nat} {c x : Int} (hk : P.length = k) (h : val P + c * pw k = val (A.take k) + val (B.take k)) (hx : x = c + A.getD k 0 + B.getD k 0) :
    val (P ++ [x % 1000000000]) + (x / 1000000000) * pw (k + 1) = val (A.take (k + 1)) + val (B.take (k + 1)) := by
  rw [snoc_step hk, take_more, take_more, hx]; grind
theorem sum_end {P A B : List Int} {k : Nat} {c : Int} (h : val P + c * pw k = val (A.take k) + val (B.take k)) (hA : A.length ≤ k) (hB : B.length ≤ k) (hc : c = 0) : val P = val A + val B := by
  subst hc
  rw [List.take_of_length_le hA, List.take_of_length_le hB] at h
  simpa using h

end Go.Proofs.Yteanocjkdehhgaa

/- The reference's NatAdd, difference, product. -/
namespace Go.Proofs.Yteanocjkdehhgaa
open Go.RowKit
open Go.Lib (hid)
set_option linter.unusedVariables false

/-- Through the cap: a slice of the call's own, trimmed and capped. -/
theorem OwnP_cap {w w1 : World} {u : Value} {M : List Int} {V : Int} {e : Ending} (hV : val M = V) (hI : Ints w1 w.heap.size u (capped (val M))) (hb : Below w.heap.size w w1) (he : e = .returned u) : OwnP (capped V) w e w1 := by
  subst hV; exact OwnP_mk rfl he hI hb

theorem sub_step {P A B : List Int} {k : Nat} {c x y : Int} (hk : P.length = k) (h : val P - c * pw k = val (A.take k) - val (B.take k)) (hx : x = A.getD k 0 - c - B.getD k 0) (d : Int) (hy : y = x + d * 1000000000) :
    val (P ++ [y]) - d * pw (k + 1) = val (A.take (k + 1)) - val (B.take (k + 1)) := by
  rw [val_append, hk, take_more, take_more, hy, hx]
  simp only [val, pw]; grind
theorem sub_end {P A B : List Int} {k : Nat} {c : Int} (hP : Lim P) (hk : P.length = k) (hc : 0 ≤ c ∧ c ≤ 1) (h : val P - c * pw k = val (A.take k) - val (B.take k)) (hA : A.length ≤ k) (hB : B.length ≤ k) (hv : val B ≤ val A) : val P = val A - val B := by
  rw [List.take_of_length_le hA, List.take_of_length_le hB] at h
  have := val_lt hP
  rw [hk] at this
  rcases Int.lt_or_eq_of_le hc.2 with h1 | h1
  · have : c = 0 := by omega
    subst this; simpa using h
  · subst h1; omega

set_option maxRecDepth 100000 in
set_option maxHeartbeats 3200000 in
theorem l02Sub_any (a a' : Option Addr) (n n' c c' : Nat) (A B : List Int) (hA : A.length ≤ 1000000) (hBA : B.length ≤ A.length) (lA : Lim A) (lB : Lim B) (hv : val B ≤ val A) (w : World) (h1 : RowI w a n A) (h2 : RowI w a' n' B) :
    Calls Try.prog 146 #[.slice a n c, .slice a' n' c'] w (OwnP (rep (val A - val B).toNat) w) := by
  obtain ⟨i3, hi, hz0, hz1, hz2⟩ := info_parts Try.info3
  have R1 := hid h1
  have R2 := hid h2
  obtain rfl : n = A.length := h1.1
  obtain rfl : n' = B.length := h2.1
  have L1 := hid lA
  have L2 := hid lB
  have HV := hid hv
  obtain ⟨b, hb⟩ : ∃ b, b = w.heap.size := ⟨_, rfl⟩
  have HB := hid hb
  clear h1 h2 lA lB hb hv
  go_enter Try.func146, Try.ntmps146
  go_wp2
  go_loopw [5, 6, 12] (fun out y x wr => ∃ (k : Nat) (d : Int) (P : List Int), x = .int .i64 k ∧ y = .int .i64 d ∧ 0 ≤ d ∧ d ≤ 1 ∧ k ≤ A.length ∧ Ints wr b out P ∧ P.length = k ∧ Hid (Lim P) ∧ Hid (val P - d * pw k = val (A.take k) - val (B.take k)) ∧ Below b w wr) (fun _ _ x _ => A.length - (intOf x).toNat)
  case atStart => exact ⟨0, 0, [], rfl, rfl, by decide, by decide, Nat.zero_le _, Ints_lit0 HB.out, rfl, hid Lim_nil, hid (by simp [val]), by rw [HB.out]; exact below_new⟩
  case round =>
    obtain ⟨k, d, P, rfl, rfl, hd0, hd1, hk, hown, hPk, hPL, hPv, hbel⟩ := hrel
    have HP := hid hPk
    have hPlen : P.length ≤ 1073741824 := by omega
    have HO := hid hown
    have HBL := hid hbel
    have hb0 := hid (show b ≤ wr.heap.size by have := hbel.size; have := HB.out; omega)
    by_cases hka : k < A.length
    · have r1 := RowI_old R1.out (by rw [← HB.out]; exact hbel)
      have r2 := RowI_old R2.out (by rw [← HB.out]; exact hbel)
      have hga := getD_lim L1.out k
      have hgb := getD_lim L2.out k
      have HST := hid (fun (x y e : Int) hx hy => sub_step (x := x) (y := y) HP.out hPv.out hx e hy)
      have HDA := hid (getD_in (A := A) (k := k))
      have HDB := hid (getD_in (A := B) (k := k))
      have HNB := hid (getD_out (A := B) (k := k))
      have G1 := hid r1.2
      have G2 := hid r2.2
      obtain ⟨p, hp⟩ : ∃ p, p = A.getD k 0 := ⟨_, rfl⟩
      obtain ⟨q, hq⟩ : ∃ q, q = B.getD k 0 := ⟨_, rfl⟩
      rw [← hp] at hga HST HDA
      rw [← hq] at hgb HST HDB HNB
      clear hp hq hPk r1 r2 hown hbel
      obtain ⟨g1, o1, rfl, -, hc1⟩ := G1.out (by omega)
      have q1 := hc1 k hka
      rw [← HDA.out hka] at q1
      clear hc1
      have a1 : (k : Int) < A.length := by omega
      have a0 : (0 : Int) ≤ k := by omega
      obtain ⟨hga0, hga1⟩ := hga
      obtain ⟨hgb0, hgb1⟩ := hgb
      by_cases hkb : k < B.length
      · obtain ⟨g2, o2, rfl, -, hc2⟩ := G2.out (by omega)
        have q2 := hc2 k hkb
        rw [← HDB.out hkb] at q2
        clear hc2
        have a2 : (k : Int) < B.length := by omega
        by_cases hn : p - d - q < 0
        · have HX := hid (HST.out (p - d - q) (p - d - q + 1000000000) 1 (by rfl) (by omega))
          go_wp2_with (at_builtin; refine wpList_append_own _ rfl _ _ 22 rfl b 3 i3 (.int .i64 0) 1 8 Try.underlying22 hi hz0 hz1 hz2 rfl (by decide) _ _ _ rfl (World.ownsRow.alloc (show wr.ownsRow b 3 1 u5 _ _ from HO.out) _) ⟨wr.heap.size, 0, none⟩ 1 1 [.int .i64 (p - d - q + 1000000000)] rfl rfl ?c1a ?c2a ?c3a ?c4a ?c5a ?_)
          any_goals (first | rfl | exact cell_one_new _ _ _ | (intro u hu; simp at hu; subst hu; rfl) | (unfold maxLen; omega) | omega | (have := hb0.out; simp; omega))
          intro v' w1 hown' hgrow _
          have R := hid (Ints_app HO.out HBL.out hb0.out hown' hgrow)
          clear hown' hgrow
          go_wp2
          go_roundw
          case rel => exact ⟨k + 1, 1, _, by go_num, rfl, by decide, by decide, by omega, R.out.1, by simp; exact HP.out, hid (Lim_append hPL.out (Lim_one (by omega) (by omega))), HX, R.out.2⟩
          case measure => simp [intOf]; omega
        · have HX := hid (HST.out (p - d - q) (p - d - q) 0 (by rfl) (by omega))
          go_wp2_with (at_builtin; refine wpList_append_own _ rfl _ _ 22 rfl b 3 i3 (.int .i64 0) 1 8 Try.underlying22 hi hz0 hz1 hz2 rfl (by decide) _ _ _ rfl (World.ownsRow.alloc (show wr.ownsRow b 3 1 u5 _ _ from HO.out) _) ⟨wr.heap.size, 0, none⟩ 1 1 [.int .i64 (p - d - q)] rfl rfl ?c1b ?c2b ?c3b ?c4b ?c5b ?_)
          any_goals (first | rfl | exact cell_one_new _ _ _ | (intro u hu; simp at hu; subst hu; rfl) | (unfold maxLen; omega) | omega | (have := hb0.out; simp; omega))
          intro v' w1 hown' hgrow _
          have R := hid (Ints_app HO.out HBL.out hb0.out hown' hgrow)
          clear hown' hgrow
          go_wp2
          go_roundw
          case rel => exact ⟨k + 1, 0, _, by go_num, rfl, by decide, by decide, by omega, R.out.1, by simp; exact HP.out, hid (Lim_append hPL.out (Lim_one (by omega) (by omega))), HX, R.out.2⟩
          case measure => simp [intOf]; omega
      · have a2 : ¬ (k : Int) < B.length := by omega
        have eq := hid (HNB.out hkb)
        by_cases hn : p - d < 0
        · have HX := hid (HST.out (p - d) (p - d + 1000000000) 1 (by have := eq.out; omega) (by omega))
          go_wp2_with (at_builtin; refine wpList_append_own _ rfl _ _ 22 rfl b 3 i3 (.int .i64 0) 1 8 Try.underlying22 hi hz0 hz1 hz2 rfl (by decide) _ _ _ rfl (World.ownsRow.alloc (show wr.ownsRow b 3 1 u5 _ _ from HO.out) _) ⟨wr.heap.size, 0, none⟩ 1 1 [.int .i64 (p - d + 1000000000)] rfl rfl ?c1c ?c2c ?c3c ?c4c ?c5c ?_)
          any_goals (first | rfl | exact cell_one_new _ _ _ | (intro u hu; simp at hu; subst hu; rfl) | (unfold maxLen; omega) | omega | (have := hb0.out; simp; omega))
          intro v' w1 hown' hgrow _
          have R := hid (Ints_app HO.out HBL.out hb0.out hown' hgrow)
          clear hown' hgrow
          go_wp2
          go_roundw
          case rel => exact ⟨k + 1, 1, _, by go_num, rfl, by decide, by decide, by omega, R.out.1, by simp; exact HP.out, hid (Lim_append hPL.out (Lim_one (by omega) (by omega))), HX, R.out.2⟩
          case measure => simp [intOf]; omega
        · have HX := hid (HST.out (p - d) (p - d) 0 (by have := eq.out; omega) (by omega))
          go_wp2_with (at_builtin; refine wpList_append_own _ rfl _ _ 22 rfl b 3 i3 (.int .i64 0) 1 8 Try.underlying22 hi hz0 hz1 hz2 rfl (by decide) _ _ _ rfl (World.ownsRow.alloc (show wr.ownsRow b 3 1 u5 _ _ from HO.out) _) ⟨wr.heap.size, 0, none⟩ 1 1 [.int .i64 (p - d)] rfl rfl ?c1d ?c2d ?c3d ?c4d ?c5d ?_)
          any_goals (first | rfl | exact cell_one_new _ _ _ | (intro u hu; simp at hu; subst hu; rfl) | (unfold maxLen; omega) | omega | (have := hb0.out; simp; omega))
          intro v' w1 hown' hgrow _
          have R := hid (Ints_app HO.out HBL.out hb0.out hown' hgrow)
          clear hown' hgrow
          go_wp2
          go_roundw
          case rel => exact ⟨k + 1, 0, _, by go_num, rfl, by decide, by decide, by omega, R.out.1, by simp; exact HP.out, hid (Lim_append hPL.out (Lim_one (by omega) (by omega))), HX, R.out.2⟩
          case measure => simp [intOf]; omega
    · have a1 : ¬ (k : Int) < A.length := by omega
      have hE := hid (sub_end hPL.out HP.out ⟨hd0, hd1⟩ hPv.out (by omega) (by omega) HV.out)
      clear hown hbel hPk
      go_wp2_with fail
      refine (l02Trim_own _ u5 P hPlen hPL.out wr HO.out).mono ?_
      rw [hE.out]
      rintro e w2 ⟨⟨u, rfl, hU, -⟩, rfl⟩
      have HU := hid hU
      clear hU
      go_wp2
      go_ret
      exact OwnP_mk HB.out rfl HU.out HBL.out

end Go.Proofs.Yteanocjkdehhgaa

/- The reference's product. -/
namespace Go.Proofs.Yteanocjkdehhgaa
open Go.RowKit
open Go.Lib (hid)
set_option linter.unusedVariables false

theorem set_zeros {P : List Int} {m : Nat} (h : ∀ j (hj : j < P.length), m ≤ j → P[j] = 0) {i : Nat} (hi : i < m) (x : Int) : ∀ j (hj : j < (P.set i x).length), m ≤ j → (P.set i x)[j] = 0 := by
  intro j hj hm
  rw [List.getElem_set_ne (by omega)]
  exact h j (by simpa using hj) hm
theorem mul_end {P A B : List Int} {k m : Nat} (hm : m = k + B.length) (hk : k < A.length) (hmP : m < P.length) (h0 : P[m] = 0) {d : Int} (h : val P + d * pw (k + B.length) = val (A.take k) * val B + A[k] * val (B.take B.length) * pw k) :
    val (P.set m d) = val (A.take (k + 1)) * val B := by
  subst hm
  rw [val_set hmP, h0, Int.sub_zero, h, List.take_length]
  exact mul_one_step hk
theorem Ints_same {w : World} {B g n c : Nat} {P : List Int} (h : Ints w B (.slice (some ⟨g, 0, none⟩) n c) P) : P.length = n := (Ints_num h).symm

set_option maxRecDepth 100000 in
set_option maxHeartbeats 6400000 in
theorem l02Mul_any (a a' : Option Addr) (n n' c c' : Nat) (A B : List Int) (hA : A.length ≤ 1000000) (hB : B.length ≤ 1000000) (lA : Lim A) (lB : Lim B) (w : World) (h1 : RowI w a n A) (h2 : RowI w a' n' B) :
    Calls Try.prog 147 #[.slice a n c, .slice a' n' c'] w (OwnP (rep (val A * val B).toNat) w) := by
  have R1 := hid h1
  have R2 := hid h2
  obtain rfl : n = A.length := h1.1
  obtain rfl : n' = B.length := h2.1
  have L1 := hid lA
  have L2 := hid lB
  clear h1 h2 lA lB
  by_cases zA : A.length = 0
  · obtain rfl : A = [] := List.length_eq_zero_iff.1 zA
    have hE := hid (show rep (val [] * val B).toNat = [] by simp [val, rep_zero])
    have z1 : ((([] : List Int).length : Nat) : Int) = 0 := rfl
    go_enter Try.func147, Try.ntmps147
    go_wp2
    go_ret
    rw [hE.out]
    exact OwnP_mk rfl rfl (Ints_nil _ _) (Below.refl _ _)
  by_cases zB : B.length = 0
  · obtain rfl : B = [] := List.length_eq_zero_iff.1 zB
    have hE := hid (show rep (val A * val []).toNat = [] by simp [val, rep_zero])
    have z1 : ((A.length : Int) == 0) = false := beq_eq_false_iff_ne.2 (by omega)
    go_enter Try.func147, Try.ntmps147
    go_wp2
    go_ret
    rw [hE.out]
    exact OwnP_mk rfl rfl (Ints_nil _ _) (Below.refl _ _)
  have z1 : ((A.length : Int) == 0) = false := beq_eq_false_iff_ne.2 (by omega)
  have z2 : ((B.length : Int) == 0) = false := beq_eq_false_iff_ne.2 (by omega)
  have hmk : ∀ W : World, (Instr.makeSlice 22 (.int .i64 ((A.length : Int) + B.length)) (.int .i64 ((A.length : Int) + B.length))).run Try.prog W = .ok (.slice (some ⟨W.heap.size, 0, none⟩) (A.length + B.length) (A.length + B.length)) (W.alloc (.cells (madeCells #[.int .i64 0] (A.length + B.length)) 3)) := by
    intro W
    have hr := run_make_row' (P := Try.prog) 22 3 (.int .i64 0) 8 Try.underlying22 Try.info3 rfl .i64 .i64 (A.length + B.length) (by omega) (by omega) W
    rw [Int.natCast_add] at hr
    exact hr
  have HM := hid (Ints_made (w := w) (Nat.le_refl _) (A.length + B.length) (by unfold maxLen; omega))
  have HA := hid (below_new (w := w) (o := .cells (madeCells #[.int .i64 0] (A.length + B.length)) 3))
  go_enter Try.func147, Try.ntmps147
  go_wp2
  clear hmk
  generalize w.alloc (.cells (madeCells #[.int .i64 0] (A.length + B.length)) 3) = w1 at HM HA ⊢
  obtain ⟨g, hg⟩ : ∃ g, g = w.heap.size := ⟨_, rfl⟩
  have HG := hid hg
  rw [← hg] at HM HA
  rw [← hg]
  clear hg
  obtain ⟨N, hN⟩ : ∃ N, N = A.length + B.length := ⟨_, rfl⟩
  have HN := hid hN
  rw [← hN] at HM
  rw [← hN]
  clear hN
  go_loopw [28] (fun x wr => ∃ (k : Nat) (P : List Int), k ≤ A.length ∧ x = .int .i64 k ∧ Ints wr g (.slice (some ⟨g, 0, none⟩) N N) P ∧ Hid (Lim P) ∧ Hid (val P = val (A.take k) * val B) ∧ Hid (∀ j (hj : j < P.length), k + B.length ≤ j → P[j] = 0) ∧ Below g w wr) (fun x _ => A.length - (intOf x).toNat)
  case atStart => exact ⟨0, List.replicate N 0, Nat.zero_le _, rfl, HM.out, hid (Lim_zeros _), hid (by rw [val_zeros]; simp [val]), hid (fun j hj _ => by simp), HA.out⟩
  case round =>
    obtain ⟨k, P, hk, rfl, hown, hPL, hPv, hPz, hbel⟩ := hrel
    have HO := hid hown
    have HBL := hid hbel
    clear hown hbel HM HA
    by_cases hlt : k < A.length
    · obtain ⟨g1, o1, rfl, -, hc1⟩ := (RowI_old R1.out (by rw [← HG.out]; exact HBL.out)).2 (by omega)
      have q1 := hc1 k hlt
      clear hc1
      have a1 : (0 : Int) ≤ k := by omega
      have a2 : (k : Int) < A.length := by omega
      have hx := Lim_at L1.out hlt
      have HEND := hid (fun (P : List Int) (m : Nat) hm hmP h0 (d : Int) h => mul_end (P := P) (B := B) (m := m) hm hlt hmP h0 (d := d) h)
      obtain ⟨x, hxe⟩ : ∃ x, x = A[k] := ⟨_, rfl⟩
      rw [← hxe] at q1 hx HEND
      clear hxe
      obtain ⟨hx0, hx1⟩ := hx
      have HPk := hid (show val P + 0 * pw (k + 0) = val (A.take k) * val B + x * val (B.take 0) * pw k by rw [hPv.out]; simp [val])
      clear hPv
      go_wp2
      clear q1
      obtain ⟨wo, hwo⟩ : ∃ wo : World, wo = wr := ⟨_, rfl⟩
      clear hwo
      go_loopw [8, 35] (fun y z wr => ∃ (j : Nat) (d : Int) (P : List Int), j ≤ B.length ∧ z = .int .i64 j ∧ y = .int .i64 d ∧ 0 ≤ d ∧ d < 1000000000 ∧ Ints wr g (.slice (some ⟨g, 0, none⟩) N N) P ∧ Hid (Lim P) ∧ Hid (val P + d * pw (k + j) = val (A.take k) * val B + x * val (B.take j) * pw k) ∧ Hid (∀ j (hj : j < P.length), k + B.length ≤ j → P[j] = 0) ∧ Below g w wr) (fun _ z _ => B.length - (intOf z).toNat)
      case atStart => exact ⟨0, 0, P, Nat.zero_le _, rfl, rfl, by decide, by decide, HO.out, hPL, HPk, hPz, HBL.out⟩
      case round =>
        clear HO HBL hPL hPz HPk
        obtain ⟨j, d, P, hj, rfl, rfl, hd0, hd1, hown, hPL, hPv, hPz, hbel⟩ := hrel
        have HO := hid hown
        have HBL := hid hbel
        have hPn := Ints_same hown
        have HPn := hid hPn
        clear hown hbel
        by_cases hjl : j < B.length
        · have hkP : k + j < P.length := by rw [hPn, HN.out]; omega
          have hkN : k + j < N := by rw [HN.out]; omega
          clear hPn
          obtain ⟨g2, o2, rfl, -, hc2⟩ := (RowI_old R2.out (by rw [← HG.out]; exact HBL.out)).2 (by omega)
          have q2 := hc2 j hjl
          clear hc2
          have hy := Lim_at L2.out hjl
          have hz := Lim_at hPL.out hkP
          obtain ⟨z, hze⟩ : ∃ z, z = P[k + j] := ⟨_, rfl⟩
          obtain ⟨y, hye⟩ : ∃ y, y = B[j] := ⟨_, rfl⟩
          have HT := hid (set_step hkP (x := z + y * x + d) (y := y * x + d) (by rw [hze]; omega))
          have HACC := hid (mul_acc hjl hPv.out)
          rw [← hze] at hz
          rw [← hye] at hy q2 HACC
          clear hPv
          obtain ⟨b1, b2, b3, b4⟩ := mul_step hz hy (f := x) ⟨by omega, hx1⟩ (c := d) ⟨by omega, hd1⟩
          have b0 : 0 ≤ y * x := Int.mul_nonneg hy.1 hx0
          have q3 := Ints_cell HO.out hkP
          rw [← hze] at q3
          have f1 := Ints_free HO.out (k + j)
          clear hze hye
          obtain ⟨hz0, hz1⟩ := hz
          obtain ⟨hy0, hy1⟩ := hy
          have a3 : (0 : Int) ≤ j := by omega
          have a4 : (j : Int) < B.length := by omega
          have a5 : (0 : Int) ≤ (k : Int) + j := by omega
          have a6 : (k : Int) + j < N := by omega
          have a7 : ((k : Int) + j).toNat = k + j := by omega
          have HST := hid (Ints_store HO.out (i := k + j) ((z + y * x + d) % 1000000000))
          have HBL2 := hid (HBL.out.setCell (p := ⟨g, k + j, none⟩) (Nat.le_refl _) (.int .i64 ((z + y * x + d) % 1000000000)))
          obtain ⟨p, hp⟩ : ∃ p, p = y * x := ⟨_, rfl⟩
          have hpm : x * y = p := by rw [hp, Int.mul_comm]
          rw [← hp] at b0 b1 b2 b3 b4 HT HACC HST HBL2
          clear hp
          go_wp2
          go_roundw
          case rel =>
            refine ⟨j + 1, (z + p + d) / 1000000000, _, by omega, by go_num, rfl, by omega, by omega, HST.out, hid (Lim_set hPL.out _ (by omega) (by omega)), hid ?_, hid (set_zeros hPz.out (by omega) _), HBL2.out⟩
            exact HT.out.trans HACC.out
          case measure => simp [intOf]; omega
        · obtain rfl : j = B.length := by omega
          have hkP : k + B.length < P.length := by rw [hPn, HN.out]; omega
          have hkN : k + B.length < N := by rw [HN.out]; omega
          clear hPn
          have HE := hid (HEND.out P _ rfl hkP (hPz.out _ hkP (Nat.le_refl _)) d hPv.out)
          have HZ := hid (fun i (hi : i < (P.set (k + B.length) d).length) (h : k + 1 + B.length ≤ i) => set_zeros (m := k + 1 + B.length) (fun i hi h => hPz.out i hi (by omega)) (i := k + B.length) (by omega) d i hi h)
          have q3 := Ints_cell HO.out hkP
          obtain ⟨z, hze⟩ : ∃ z, z = P[k + B.length] := ⟨_, rfl⟩
          rw [← hze] at q3
          clear hze hPv
          have f1 := Ints_free HO.out (k + B.length)
          have a5 : (0 : Int) ≤ (k : Int) + B.length := by omega
          have a6 : (k : Int) + B.length < N := by omega
          have a7 : ((k : Int) + B.length).toNat = k + B.length := by omega
          have HST := hid (Ints_store HO.out (i := k + B.length) d)
          have HBL2 := hid (HBL.out.setCell (p := ⟨g, k + B.length, none⟩) (Nat.le_refl _) (.int .i64 d))
          go_wp2
          go_roundw
          case rel => exact ⟨k + 1, _, by omega, by go_num, HST.out, hid (Lim_set hPL.out _ hd0 hd1), HE, HZ, HBL2.out⟩
          case measure => simp [intOf]; omega
    · obtain rfl : k = A.length := by omega
      have a2 : ¬ (A.length : Int) < A.length := by omega
      have hPn : P.length ≤ 1073741824 := by rw [Ints_same HO.out, HN.out]; omega
      have hE := hid (show val P = val A * val B by rw [hPv.out, List.take_length])
      clear hPv
      go_wp2_with fail
      refine (l02Trim_own _ _ P hPn hPL.out wr HO.out).mono ?_
      rw [hE.out]
      rintro e w2 ⟨⟨u, rfl, hU, -⟩, rfl⟩
      have HU := hid hU
      clear hU
      go_wp2
      go_ret
      exact OwnP_mk HG.out rfl HU.out HBL.out

theorem cap_rep {V : Int} (h : 0 ≤ V) : val (rep V.toNat) = V := val_rep' h
end Go.Proofs.Yteanocjkdehhgaa
