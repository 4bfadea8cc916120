/- The reference's NatAdd, difference, product. -/
import Derived.Test.YtdlkiklhffafhabDoorSpa
namespace Go.Proofs.YtdlkiklhffafhabDoor
open Go.RowKit
open Go.Lib (hid)
set_option linter.unusedVariables false

/-- Through the cap: a slice of the call's own, trimmed and capped. -/
theorem OwnP_cap {w w1 : World} {u : Value} {M : List Int} {V : Int} {e : Ending} (hV : val M = V) (hI : Ints w1 w.heap.size u (capped (val M))) (hb : Below w.heap.size w w1) (he : e = .returned u) : OwnP (capped V) w e w1 := by
  subst hV; exact OwnP_mk rfl he hI hb

theorem sub_step {P A B : List Int} {k : Nat} {c x y : Int} (hk : P.length = k) (h : val P - c * pw k = val (A.take k) - val (B.take k)) (hx : x = A.getD k 0 - c - B.getD k 0) (d : Int) (hy : y = x + d * 1000000000) :
    val (P ++ [y]) - d * pw (k + 1) = val (A.take (k + 1)) - val (B.take (k + 1)) := by
  rw [val_append, hk, take_more, take_more, hy, hx]
  simp only [val, pw]; grind
theorem sub_end {P A B : List Int} {k : Nat} {c : Int} (hP : Lim P) (hk : P.length = k) (hc : 0 ≤ c ∧ c ≤ 1) (h : val P - c * pw k = val (A.take k) - val (B.take k)) (hA : A.length ≤ k) (hB : B.length ≤ k) (hv : val B ≤ val A) : val P = val A - val B := by
  rw [List.take_of_length_le hA, List.take_of_length_le hB] at h
  have := val_lt hP
  rw [hk] at this
  rcases Int.lt_or_eq_of_le hc.2 with h1 | h1
  · have : c = 0 := by omega
    subst this; simpa using h
  · subst h1; omega

set_option maxRecDepth 100000 in
set_option maxHeartbeats 3200000 in
theorem l02Sub_any (a a' : Option Addr) (n n' c c' : Nat) (A B : List Int) (hA : A.length ≤ 1000000) (hBA : B.length ≤ A.length) (lA : Lim A) (lB : Lim B) (hv : val B ≤ val A) (w : World) (h1 : RowI w a n A) (h2 : RowI w a' n' B) :
    Calls Tryd.prog 48 #[.slice a n c, .slice a' n' c'] w (OwnP (rep (val A - val B).toNat) w) := by
  obtain ⟨i3, hi, hz0, hz1, hz2⟩ := info_parts Tryd.info3
  have R1 := hid h1
  have R2 := hid h2
  obtain rfl : n = A.length := h1.1
  obtain rfl : n' = B.length := h2.1
  have L1 := hid lA
  have L2 := hid lB
  have HV := hid hv
  obtain ⟨b, hb⟩ : ∃ b, b = w.heap.size := ⟨_, rfl⟩
  have HB := hid hb
  clear h1 h2 lA lB hb hv
  go_enter Tryd.func48, Tryd.ntmps48
  go_wp2
  go_loopw [5, 6, 12] (fun out y x wr => ∃ (k : Nat) (d : Int) (P : List Int), x = .int .i64 k ∧ y = .int .i64 d ∧ 0 ≤ d ∧ d ≤ 1 ∧ k ≤ A.length ∧ Ints wr b out P ∧ P.length = k ∧ Hid (Lim P) ∧ Hid (val P - d * pw k = val (A.take k) - val (B.take k)) ∧ Below b w wr) (fun _ _ x _ => A.length - (intOf x).toNat)
  case atStart => exact ⟨0, 0, [], rfl, rfl, by decide, by decide, Nat.zero_le _, Ints_lit0 HB.out, rfl, hid Lim_nil, hid (by simp [val]), by rw [HB.out]; exact below_new⟩
  case round =>
    obtain ⟨k, d, P, rfl, rfl, hd0, hd1, hk, hown, hPk, hPL, hPv, hbel⟩ := hrel
    have HP := hid hPk
    have hPlen : P.length ≤ 1073741824 := by omega
    have HO := hid hown
    have HBL := hid hbel
    have hb0 := hid (show b ≤ wr.heap.size by have := hbel.size; have := HB.out; omega)
    by_cases hka : k < A.length
    · have r1 := RowI_old R1.out (by rw [← HB.out]; exact hbel)
      have r2 := RowI_old R2.out (by rw [← HB.out]; exact hbel)
      have hga := getD_lim L1.out k
      have hgb := getD_lim L2.out k
      have HST := hid (fun (x y e : Int) hx hy => sub_step (x := x) (y := y) HP.out hPv.out hx e hy)
      have HDA := hid (getD_in (A := A) (k := k))
      have HDB := hid (getD_in (A := B) (k := k))
      have HNB := hid (getD_out (A := B) (k := k))
      have G1 := hid r1.2
      have G2 := hid r2.2
      obtain ⟨p, hp⟩ : ∃ p, p = A.getD k 0 := ⟨_, rfl⟩
      obtain ⟨q, hq⟩ : ∃ q, q = B.getD k 0 := ⟨_, rfl⟩
      rw [← hp] at hga HST HDA
      rw [← hq] at hgb HST HDB HNB
      clear hp hq hPk r1 r2 hown hbel
      obtain ⟨g1, o1, rfl, -, hc1⟩ := G1.out (by omega)
      have q1 := hc1 k hka
      rw [← HDA.out hka] at q1
      clear hc1
      have a1 : (k : Int) < A.length := by omega
      have a0 : (0 : Int) ≤ k := by omega
      obtain ⟨hga0, hga1⟩ := hga
      obtain ⟨hgb0, hgb1⟩ := hgb
      by_cases hkb : k < B.length
      · obtain ⟨g2, o2, rfl, -, hc2⟩ := G2.out (by omega)
        have q2 := hc2 k hkb
        rw [← HDB.out hkb] at q2
        clear hc2
        have a2 : (k : Int) < B.length := by omega
        by_cases hn : p - d - q < 0
        · have HX := hid (HST.out (p - d - q) (p - d - q + 1000000000) 1 (by rfl) (by omega))
          go_wp2_with (at_builtin; refine wpList_append_own _ rfl _ _ 22 rfl b 3 i3 (.int .i64 0) 1 8 Tryd.underlying22 hi hz0 hz1 hz2 rfl (by decide) _ _ _ rfl (World.ownsRow.alloc (show wr.ownsRow b 3 1 u5 _ _ from HO.out) _) ⟨wr.heap.size, 0, none⟩ 1 1 [.int .i64 (p - d - q + 1000000000)] rfl rfl ?c1a ?c2a ?c3a ?c4a ?c5a ?_)
          any_goals (first | rfl | exact cell_one_new _ _ _ | (intro u hu; simp at hu; subst hu; rfl) | (unfold maxLen; omega) | omega | (have := hb0.out; simp; omega))
          intro v' w1 hown' hgrow _
          have R := hid (Ints_app HO.out HBL.out hb0.out hown' hgrow)
          clear hown' hgrow
          go_wp2
          go_roundw
          case rel => exact ⟨k + 1, 1, _, by go_num, rfl, by decide, by decide, by omega, R.out.1, by simp; exact HP.out, hid (Lim_append hPL.out (Lim_one (by omega) (by omega))), HX, R.out.2⟩
          case measure => simp [intOf]; omega
        · have HX := hid (HST.out (p - d - q) (p - d - q) 0 (by rfl) (by omega))
          go_wp2_with (at_builtin; refine wpList_append_own _ rfl _ _ 22 rfl b 3 i3 (.int .i64 0) 1 8 Tryd.underlying22 hi hz0 hz1 hz2 rfl (by decide) _ _ _ rfl (World.ownsRow.alloc (show wr.ownsRow b 3 1 u5 _ _ from HO.out) _) ⟨wr.heap.size, 0, none⟩ 1 1 [.int .i64 (p - d - q)] rfl rfl ?c1b ?c2b ?c3b ?c4b ?c5b ?_)
          any_goals (first | rfl | exact cell_one_new _ _ _ | (intro u hu; simp at hu; subst hu; rfl) | (unfold maxLen; omega) | omega | (have := hb0.out; simp; omega))
          intro v' w1 hown' hgrow _
          have R := hid (Ints_app HO.out HBL.out hb0.out hown' hgrow)
          clear hown' hgrow
          go_wp2
          go_roundw
          case rel => exact ⟨k + 1, 0, _, by go_num, rfl, by decide, by decide, by omega, R.out.1, by simp; exact HP.out, hid (Lim_append hPL.out (Lim_one (by omega) (by omega))), HX, R.out.2⟩
          case measure => simp [intOf]; omega
      · have a2 : ¬ (k : Int) < B.length := by omega
        have eq := hid (HNB.out hkb)
        by_cases hn : p - d < 0
        · have HX := hid (HST.out (p - d) (p - d + 1000000000) 1 (by have := eq.out; omega) (by omega))
          go_wp2_with (at_builtin; refine wpList_append_own _ rfl _ _ 22 rfl b 3 i3 (.int .i64 0) 1 8 Tryd.underlying22 hi hz0 hz1 hz2 rfl (by decide) _ _ _ rfl (World.ownsRow.alloc (show wr.ownsRow b 3 1 u5 _ _ from HO.out) _) ⟨wr.heap.size, 0, none⟩ 1 1 [.int .i64 (p - d + 1000000000)] rfl rfl ?c1c ?c2c ?c3c ?c4c ?c5c ?_)
          any_goals (first | rfl | exact cell_one_new _ _ _ | (intro u hu; simp at hu; subst hu; rfl) | (unfold maxLen; omega) | omega | (have := hb0.out; simp; omega))
          intro v' w1 hown' hgrow _
          have R := hid (Ints_app HO.out HBL.out hb0.out hown' hgrow)
          clear hown' hgrow
          go_wp2
          go_roundw
          case rel => exact ⟨k + 1, 1, _, by go_num, rfl, by decide, by decide, by omega, R.out.1, by simp; exact HP.out, hid (Lim_append hPL.out (Lim_one (by omega) (by omega))), HX, R.out.2⟩
          case measure => simp [intOf]; omega
        · have HX := hid (HST.out (p - d) (p - d) 0 (by have := eq.out; omega) (by omega))
          go_wp2_with (at_builtin; refine wpList_append_own _ rfl _ _ 22 rfl b 3 i3 (.int .i64 0) 1 8 Tryd.underlying22 hi hz0 hz1 hz2 rfl (by decide) _ _ _ rfl (World.ownsRow.alloc (show wr.ownsRow b 3 1 u5 _ _ from HO.out) _) ⟨wr.heap.size, 0, none⟩ 1 1 [.int .i64 (p - d)] rfl rfl ?c1d ?c2d ?c3d ?c4d ?c5d ?_)
          any_goals (first | rfl | exact cell_one_new _ _ _ | (intro u hu; simp at hu; subst hu; rfl) | (unfold maxLen; omega) | omega | (have := hb0.out; simp; omega))
          intro v' w1 hown' hgrow _
          have R := hid (Ints_app HO.out HBL.out hb0.out hown' hgrow)
          clear hown' hgrow
          go_wp2
          go_roundw
          case rel => exact ⟨k + 1, 0, _, by go_num, rfl, by decide, by decide, by omega, R.out.1, by simp; exact HP.out, hid (Lim_append hPL.out (Lim_one (by omega) (by omega))), HX, R.out.2⟩
          case measure => simp [intOf]; omega
    · have a1 : ¬ (k : Int) < A.length := by omega
      have hE := hid (sub_end hPL.out HP.out ⟨hd0, hd1⟩ hPv.out (by omega) (by omega) HV.out)
      clear hown hbel hPk
      go_wp2_with fail
      refine (l02Trim_own _ u5 P hPlen hPL.out wr HO.out).mono ?_
      rw [hE.out]
      rintro e w2 ⟨⟨u, rfl, hU, -⟩, rfl⟩
      have HU := hid hU
      clear hU
      go_wp2
      go_ret
      exact OwnP_mk HB.out rfl HU.out HBL.out

end Go.Proofs.YtdlkiklhffafhabDoor
