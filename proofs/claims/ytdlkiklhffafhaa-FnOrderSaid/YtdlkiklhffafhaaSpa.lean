/- The reference's sum, difference and product. -/
import Derived.Test.YtdlkiklhffafhaaImq
namespace Go.Proofs.Ytdlkiklhffafhaa
open Go.RowKit
open Go.Lib (hid)
set_option linter.unusedVariables false

/-- A slice of the call's own whose limbs have the value V, at most n of them. -/
def OwnV (V : Int) (n : Nat) (w : World) (e : Ending) (w' : World) : Prop := ∃ M, Lim M ∧ val M = V ∧ M.length ≤ n ∧ OwnP M w e w'
theorem OwnV_mk {V : Int} {n : Nat} {M : List Int} {w w' : World} {e : Ending} {v : Value} {B : Nat} (hL : Lim M) (hV : val M = V) (hn : M.length ≤ n) (hB : B = w.heap.size) (he : e = .returned v) (h : Ints w' B v M) (hb : Below B w w') : OwnV V n w e w' :=
  ⟨M, hL, hV, hn, OwnP_mk hB he h hb⟩
theorem snoc_step {P : List Int} {k : Nat} (hk : P.length = k) (x : Int) : val (P ++ [x % 1000000000]) + (x / 1000000000) * pw (k + 1) = val P + x * pw k := by
  rw [val_append, hk]
  have e : x = 1000000000 * (x / 1000000000) + x % 1000000000 := by omega
  have h : val [x % 1000000000] = x - (x / 1000000000) * 1000000000 := by simp only [val]; omega
  rw [h]
  simp only [pw]
  grind
theorem take_more {A : List Int} (k : Nat) : val (A.take (k + 1)) = val (A.take k) + pw k * A.getD k 0 := by
  by_cases hk : k < A.length
  · rw [val_take_succ hk]; simp [hk]
  · rw [List.take_of_length_le (by omega), List.take_of_length_le (by omega)]
    simp [List.getD, List.getElem?_eq_none (show A.length ≤ k by omega)]
theorem getD_lim {A : List Int} (h : Lim A) (k : Nat) : 0 ≤ A.getD k 0 ∧ A.getD k 0 < 1000000000 := by
  by_cases hk : k < A.length
  · have := Lim_at h hk; simpa [hk] using this
  · simp [List.getD, List.getElem?_eq_none (show A.length ≤ k by omega)]
theorem getD_in {A : List Int} {k : Nat} (hk : k < A.length) : A.getD k 0 = A[k] := by simp [hk]
theorem getD_out {A : List Int} {k : Nat} (hk : ¬ k < A.length) : A.getD k 0 = 0 := by simp [List.getD, List.getElem?_eq_none (show A.length ≤ k by omega)]
theorem sum_step {P A B : List Int} {k : Nat} {c x : Int} (hk : P.length = k) (h : val P + c * pw k = val (A.take k) + val (B.take k)) (hx : x = c + A.getD k 0 + B.getD k 0) :
    val (P ++ [x % 1000000000]) + (x / 1000000000) * pw (k + 1) = val (A.take (k + 1)) + val (B.take (k + 1)) := by
  rw [snoc_step hk, take_more, take_more, hx]; grind
theorem sum_end {P A B : List Int} {k : Nat} {c : Int} (h : val P + c * pw k = val (A.take k) + val (B.take k)) (hA : A.length ≤ k) (hB : B.length ≤ k) (hc : c = 0) : val P = val A + val B := by
  subst hc
  rw [List.take_of_length_le hA, List.take_of_length_le hB] at h
  simpa using h

set_option maxRecDepth 100000 in
set_option maxHeartbeats 3200000 in
theorem l02Add_any (a a' : Option Addr) (n n' c c' : Nat) (A B : List Int) (hA : A.length ≤ 1000000) (hB : B.length ≤ 1000000) (lA : Lim A) (lB : Lim B) (w : World) (h1 : RowI w a n A) (h2 : RowI w a' n' B) :
    Calls Try.prog 145 #[.slice a n c, .slice a' n' c'] w (OwnV (val A + val B) (max A.length B.length + 1) w) := by
  obtain ⟨i3, hi, hz0, hz1, hz2⟩ := info_parts Try.info3
  have R1 := hid h1
  have R2 := hid h2
  obtain rfl : n = A.length := h1.1
  obtain rfl : n' = B.length := h2.1
  have L1 := hid lA
  have L2 := hid lB
  obtain ⟨b, hb⟩ : ∃ b, b = w.heap.size := ⟨_, rfl⟩
  have HB := hid hb
  obtain ⟨m, hm⟩ : ∃ m, m = max A.length B.length := ⟨_, rfl⟩
  have m1 : A.length ≤ m := by omega
  have m2 : B.length ≤ m := by omega
  have m3 : m ≤ 1000000 := by omega
  have HMX := hid (show m ≤ A.length ∨ m ≤ B.length by omega)
  rw [← hm]
  clear h1 h2 lA lB hb hm
  go_enter Try.func145, Try.ntmps145
  go_wp2
  go_loopw [5, 6, 7] (fun out y x wr => ∃ (k : Nat) (d : Int) (P : List Int), x = .int .i64 k ∧ y = .int .i64 d ∧ 0 ≤ d ∧ d ≤ 1 ∧ k ≤ m + 1 ∧ (k = m + 1 → d ≤ 0) ∧ Ints wr b out P ∧ P.length = k ∧ Hid (Lim P) ∧ Hid (val P + d * pw k = val (A.take k) + val (B.take k)) ∧ Below b w wr) (fun _ _ x _ => m + 2 - (intOf x).toNat)
  case atStart => exact ⟨0, 0, [], rfl, rfl, by decide, by decide, Nat.zero_le _, fun _ => by decide, Ints_lit0 HB.out, rfl, hid Lim_nil, hid (by simp [val]), by rw [HB.out]; exact below_new⟩
  case round =>
    obtain ⟨k, d, P, rfl, rfl, hd0, hd1, hk, hke, hown, hPk, hPL, hPv, hbel⟩ := hrel
    have HP := hid hPk
    have hPlen : P.length ≤ 1073741824 := by omega
    have HO := hid hown
    have HBL := hid hbel
    have hb0 := hid (show b ≤ wr.heap.size by have := hbel.size; have := HB.out; omega)
    have r1 := RowI_old R1.out (by rw [← HB.out]; exact hbel)
    have r2 := RowI_old R2.out (by rw [← HB.out]; exact hbel)
    have hga := getD_lim L1.out k
    have hgb := getD_lim L2.out k
    have HST := hid (fun (x : Int) hx => sum_step (x := x) HP.out hPv.out hx)
    have HDA := hid (getD_in (A := A) (k := k))
    have HNA := hid (getD_out (A := A) (k := k))
    have HDB := hid (getD_in (A := B) (k := k))
    have HNB := hid (getD_out (A := B) (k := k))
    have G1 := hid r1.2
    have G2 := hid r2.2
    obtain ⟨p, hp⟩ : ∃ p, p = A.getD k 0 := ⟨_, rfl⟩
    obtain ⟨q, hq⟩ : ∃ q, q = B.getD k 0 := ⟨_, rfl⟩
    rw [← hp] at hga HST HDA HNA
    rw [← hq] at hgb HST HDB HNB
    clear hp hq hPk r1 r2 hown hbel
    by_cases hka : k < A.length
    · by_cases hkb : k < B.length
      · obtain ⟨g1, o1, rfl, -, hc1⟩ := G1.out (by omega)
        have q1 := hc1 k hka
        rw [← HDA.out hka] at q1
        clear hc1
        have a1 : (k : Int) < A.length := by omega
        obtain ⟨g2, o2, rfl, -, hc2⟩ := G2.out (by omega)
        have q2 := hc2 k hkb
        rw [← HDB.out hkb] at q2
        clear hc2
        have a2 : (k : Int) < B.length := by omega
        have a0 : (0 : Int) ≤ k := by omega
        have HX := hid (HST.out (d + p + q) (by rfl))
        go_wp2_with (at_builtin; refine wpList_append_own _ rfl _ _ 23 rfl b 3 i3 (.int .i64 0) 1 8 Try.underlying23 hi hz0 hz1 hz2 rfl (by decide) _ _ _ rfl (World.ownsRow.alloc (show wr.ownsRow b 3 1 u5 _ _ from HO.out) _) ⟨wr.heap.size, 0, none⟩ 1 1 [.int .i64 ((d + p + q) % 1000000000)] rfl rfl ?c1a ?c2a ?c3a ?c4a ?c5a ?_)
        any_goals (first | rfl | exact cell_one_new _ _ _ | (intro u hu; simp at hu; subst hu; rfl) | (unfold maxLen; omega) | omega | (have := hb0.out; simp; omega))
        intro v' w1 hown' hgrow _
        have R := hid (Ints_app HO.out HBL.out hb0.out hown' hgrow)
        clear hown' hgrow
        go_wp2
        go_roundw
        case rel => exact ⟨k + 1, (d + p + q) / 1000000000, _, by go_num, rfl, by omega, by omega, by omega, fun e => by omega, R.out.1, by simp; exact HP.out, hid (Lim_append hPL.out (Lim_one (by omega) (by omega))), HX, R.out.2⟩
        case measure => simp [intOf]; omega
      · obtain ⟨g1, o1, rfl, -, hc1⟩ := G1.out (by omega)
        have q1 := hc1 k hka
        rw [← HDA.out hka] at q1
        clear hc1
        have a1 : (k : Int) < A.length := by omega
        have a2 : ¬ (k : Int) < B.length := by omega
        have eq := hid (HNB.out hkb)
        have a0 : (0 : Int) ≤ k := by omega
        have HX := hid (HST.out (d + p) (by have := eq.out; omega))
        go_wp2_with (at_builtin; refine wpList_append_own _ rfl _ _ 23 rfl b 3 i3 (.int .i64 0) 1 8 Try.underlying23 hi hz0 hz1 hz2 rfl (by decide) _ _ _ rfl (World.ownsRow.alloc (show wr.ownsRow b 3 1 u5 _ _ from HO.out) _) ⟨wr.heap.size, 0, none⟩ 1 1 [.int .i64 ((d + p) % 1000000000)] rfl rfl ?c1b ?c2b ?c3b ?c4b ?c5b ?_)
        any_goals (first | rfl | exact cell_one_new _ _ _ | (intro u hu; simp at hu; subst hu; rfl) | (unfold maxLen; omega) | omega | (have := hb0.out; simp; omega))
        intro v' w1 hown' hgrow _
        have R := hid (Ints_app HO.out HBL.out hb0.out hown' hgrow)
        clear hown' hgrow
        go_wp2
        go_roundw
        case rel => exact ⟨k + 1, (d + p) / 1000000000, _, by go_num, rfl, by omega, by omega, by omega, fun e => by omega, R.out.1, by simp; exact HP.out, hid (Lim_append hPL.out (Lim_one (by omega) (by omega))), HX, R.out.2⟩
        case measure => simp [intOf]; omega
    · by_cases hkb : k < B.length
      · have a1 : ¬ (k : Int) < A.length := by omega
        have ep := hid (HNA.out hka)
        obtain ⟨g2, o2, rfl, -, hc2⟩ := G2.out (by omega)
        have q2 := hc2 k hkb
        rw [← HDB.out hkb] at q2
        clear hc2
        have a2 : (k : Int) < B.length := by omega
        have a0 : (0 : Int) ≤ k := by omega
        have HX := hid (HST.out (d + q) (by have := ep.out; omega))
        go_wp2_with (at_builtin; refine wpList_append_own _ rfl _ _ 23 rfl b 3 i3 (.int .i64 0) 1 8 Try.underlying23 hi hz0 hz1 hz2 rfl (by decide) _ _ _ rfl (World.ownsRow.alloc (show wr.ownsRow b 3 1 u5 _ _ from HO.out) _) ⟨wr.heap.size, 0, none⟩ 1 1 [.int .i64 ((d + q) % 1000000000)] rfl rfl ?c1c ?c2c ?c3c ?c4c ?c5c ?_)
        any_goals (first | rfl | exact cell_one_new _ _ _ | (intro u hu; simp at hu; subst hu; rfl) | (unfold maxLen; omega) | omega | (have := hb0.out; simp; omega))
        intro v' w1 hown' hgrow _
        have R := hid (Ints_app HO.out HBL.out hb0.out hown' hgrow)
        clear hown' hgrow
        go_wp2
        go_roundw
        case rel => exact ⟨k + 1, (d + q) / 1000000000, _, by go_num, rfl, by omega, by omega, by omega, fun e => by omega, R.out.1, by simp; exact HP.out, hid (Lim_append hPL.out (Lim_one (by omega) (by omega))), HX, R.out.2⟩
        case measure => simp [intOf]; omega
      · by_cases hd : 0 < d
        · have a1 : ¬ (k : Int) < A.length := by omega
          have ep := hid (HNA.out hka)
          have a2 : ¬ (k : Int) < B.length := by omega
          have eq := hid (HNB.out hkb)
          have a0 : (0 : Int) ≤ k := by omega
          have HX := hid (HST.out (d) (by have := ep.out; have := eq.out; omega))
          go_wp2_with (at_builtin; refine wpList_append_own _ rfl _ _ 23 rfl b 3 i3 (.int .i64 0) 1 8 Try.underlying23 hi hz0 hz1 hz2 rfl (by decide) _ _ _ rfl (World.ownsRow.alloc (show wr.ownsRow b 3 1 u5 _ _ from HO.out) _) ⟨wr.heap.size, 0, none⟩ 1 1 [.int .i64 ((d) % 1000000000)] rfl rfl ?c1d ?c2d ?c3d ?c4d ?c5d ?_)
          any_goals (first | rfl | exact cell_one_new _ _ _ | (intro u hu; simp at hu; subst hu; rfl) | (unfold maxLen; omega) | omega | (have := hb0.out; simp; omega))
          intro v' w1 hown' hgrow _
          have R := hid (Ints_app HO.out HBL.out hb0.out hown' hgrow)
          clear hown' hgrow
          go_wp2
          go_roundw
          case rel => exact ⟨k + 1, (d) / 1000000000, _, by go_num, rfl, by omega, by omega, by omega, fun e => by omega, R.out.1, by simp; exact HP.out, hid (Lim_append hPL.out (Lim_one (by omega) (by omega))), HX, R.out.2⟩
          case measure => simp [intOf]; omega
        · have a1 : ¬ (k : Int) < A.length := by omega
          have a2 : ¬ (k : Int) < B.length := by omega
          have hE := hid (sum_end hPv.out (by omega) (by omega) (by omega))
          go_wp2
          go_ret
          exact OwnV_mk hPL.out hE.out (by have := HP.out; omega) HB.out rfl HO.out HBL.out
end Go.Proofs.Ytdlkiklhffafhaa
