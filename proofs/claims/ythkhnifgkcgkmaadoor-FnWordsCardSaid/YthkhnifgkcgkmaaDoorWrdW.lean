/- The law FnWords, walked: it returns true and leaves what was there. -/
import Derived.Test.YthkhnifgkcgkmaaDoorWrd
import Derived.Test.YthkhnifgkcgkmaaDoorCur
import Derived.Test.YthkhnifgkcgkmaaDoorFmtW
namespace Go.Proofs.YthkhnifgkcgkmaaDoor
open Go.RowKit
open Go.Lib (hid)

theorem pad_word (k : Nat) (h : k < 10) (w : World) : Calls Tryd.prog 7 #[.string (bts (Lib.itoa k)), .int .i64 ((k : Int) + 1)] w fun e w' => e = .returned (.string (wordK k)) ∧ Below w.heap.size w w' := by
  have hs : (bts (Lib.itoa (k : Int))).size ≤ 1048576 := by
    have e : Lib.itoa (k : Int) = [dig1 (48 + (k : Int))] := by
      rw [Lib.itoa, if_neg (by omega)]
      exact dec_small (by omega)
    rw [e]; show 1 ≤ _; omega
  have K := impl_PadZeros (bts (Lib.itoa k)) ((k : Int) + 1) hs w
  rw [word_is h] at K
  exact K

theorem noDigits_any (w : World) : Calls Tryd.prog 11 #[.string (ByteArray.mk #[])] w fun e w' => e = .returned (.bool false) ∧ Below w.heap.size w w' :=
  (impl_IsDigits (ByteArray.mk #[]) w).mono fun _ _ ⟨he, p, hw⟩ => ⟨by rw [he, no_digits], by rw [hw]; exact (Below.refl _ _).alloc (Nat.le_refl _) _⟩
theorem nameX1_any (w : World) : Calls Tryd.prog 12 #[.string (ByteArray.mk #[120, 49])] w fun e w' => e = .returned (.bool true) ∧ Below w.heap.size w w' :=
  (impl_IsName (ByteArray.mk #[120, 49]) (by decide) w).mono fun _ _ ⟨he, p, hw⟩ => ⟨by rw [he, name_x1], by rw [hw]; exact (Below.refl _ _).alloc (Nat.le_refl _) _⟩
theorem name1X_any (w : World) : Calls Tryd.prog 12 #[.string (ByteArray.mk #[49, 120])] w fun e w' => e = .returned (.bool false) ∧ Below w.heap.size w w' :=
  (impl_IsName (ByteArray.mk #[49, 120]) (by decide) w).mono fun _ _ ⟨he, p, hw⟩ => ⟨by rw [he, name_1x], by rw [hw]; exact (Below.refl _ _).alloc (Nat.le_refl _) _⟩
def TwoPost (w : World) (e : Ending) (w' : World) : Prop := ∃ g cap, e = .returned (.slice (some ⟨g, 0, none⟩) 2 cap) ∧ Below w.heap.size w w'
theorem twoLines_any (w : World) : Calls Tryd.prog 13 #[.string (ByteArray.mk #[97, 10, 98, 10])] w (TwoPost w) :=
  (impl_SplitLines (ByteArray.mk #[97, 10, 98, 10]) (by decide) w).mono fun _ _ ⟨g, cap, he, _, _, _, hb⟩ => ⟨g, cap, by rw [he, two_lines], hb⟩

set_option maxRecDepth 100000 in
set_option maxHeartbeats 800000 in
theorem law_Words (a : Option Addr) (n c : Nat) (Z : List Int) (w : World) (hr : ByteRow w a n Z) (hn : n ≤ maxLen) (hp : Pow10 w) (hg : 3 < w.heap.size) :
    Calls Tryd.prog 3 #[.slice a n c] w fun e w' => e = .returned (.bool true) ∧ Below w.heap.size w w' := by
  unfold maxLen at hn
  by_cases hs : (1048576 : Int) < n
  · clear hr hp
    go_enter Tryd.func3, Tryd.ntmps3
    go_wp2_with fail
    go_ret
    exact ⟨rfl, Below.refl _ _⟩
  have hM := numOf_le Z (m := 5) (by omega)
  have hZ : Z.length ≤ 1048576 := by have := hr.1; omega
  obtain ⟨M, hMe⟩ : ∃ M, M = numOf Z 5 := ⟨_, rfl⟩
  have KM : Hid (∀ w' : World, ByteRow w' a n Z → Calls Tryd.prog 6 #[.slice a n c, .int .i64 5] w' fun e w'' => e = .returned (.int .i64 M) ∧ Below w'.heap.size w' w'') := by
    rw [hMe]; exact hid (fun w' h' => MakeNum_any a n c Z 5 hZ w' h' (by omega) (by omega))
  rw [← hMe] at hM
  have HR := hid hr
  have HP := hid hp
  clear hMe hr hp hZ
  go_enter Tryd.func3, Tryd.ntmps3
  go_wp2_with fail
  go_loopw [3, 4] (fun x i wr => ∃ k : Nat, (k : Int) ≤ 1 + M ∧ i = .int .i64 k ∧ x = .string (wordsTo k) ∧ Below w.heap.size w wr) (fun _ i _ => (1 + M - intOf i).toNat)
  case atStart => exact ⟨0, by omega, rfl, rfl, Below.refl _ _⟩
  case round =>
    obtain ⟨k, hk, rfl, rfl, hb⟩ := hrel
    have hz1 := wordsTo_size k (by omega)
    have HRr := hid (ByteRow_below HR.out hb)
    go_wp2_with fail
    refine (KM.out _ HRr.out).mono ?_
    rintro e w1 ⟨rfl, hb1⟩
    have hb01 := hb.trans (hb1.mono hb.size)
    clear hb hb1
    by_cases hlt : (k : Int) < 1 + M
    · have hp1 := hid (show Pow10 w1 from var?_below hb01 gPow (by omega) HP.out)
      have KF := hid (impl_FormatInt (k : Int) (by omega) (by omega) w1 hp1.out)
      have hz2 : (wordK k).size ≤ 10 := by rw [wordK_size]; omega
      go_wp2_with fail
      refine KF.out.mono ?_
      rintro e w2 ⟨rfl, hb2⟩
      have KP := hid (pad_word k (by omega) w2)
      obtain ⟨R, hR⟩ : ∃ R, R = bts (Lib.itoa (k : Int)) := ⟨_, rfl⟩
      rw [← hR] at KP ⊢
      clear hR
      go_wp2_with fail
      refine KP.out.mono ?_
      rintro e w3 ⟨rfl, hb3⟩
      go_wp2_with fail
      go_roundw
      case rel => exact ⟨k + 1, by omega, by go_num, rfl, (hb01.trans (hb2.mono hb01.size)).trans (hb3.mono (by have := hb01.size; have := hb2.size; omega))⟩
      case measure => simp [intOf]; omega
    · have hk1 : (k : Int) = 1 + M := by omega
      have hW := words_at k (by omega) (by omega)
      obtain ⟨L, hL⟩ : ∃ L, L = pieces (wordsTo k) (ByteArray.mk #[44]) := ⟨_, rfl⟩
      have KS : Hid (Calls Tryd.prog 9 #[.string (wordsTo k), .string (ByteArray.mk #[44])] w1 (OwnPost L w1)) := by
        rw [hL]; exact hid (impl_SplitAny_own (wordsTo k) (ByteArray.mk #[44]) (by omega) (by decide) w1)
      rw [← hL] at hW
      clear hL
      obtain ⟨-, -, hlen, hjoin, hsum, hdig⟩ := hW
      have HLen := hid hlen
      have HJ := hid hjoin
      have HDg := hid hdig
      have HK1 := hid hk1
      clear hlen hjoin hdig hk1
      go_wp2_with fail
      ((with_reducible refine KS.out.mono ?_))
      rintro e w2 ⟨g, cp, rfl, hg2, hgz, hSt, hb2⟩
      have hcap : L.length ≤ cp := by
        rcases Strs_cases hSt with ⟨h, _⟩ | ⟨g', c', h, _, _, h4⟩
        · simp at h
        · simp at h; omega
      have KJ : Hid (Calls Tryd.prog 10 #[.slice (some ⟨g, 0, none⟩) L.length cp, .string (ByteArray.mk #[44])] w2 fun e w' => e = .returned (.string (wordsTo k)) ∧ Below w2.heap.size w2 w') := by
        have h := impl_Join g cp L (ByteArray.mk #[44]) w2 (fun i hi => Strs_cell hSt hi) hgz hcap (by rw [HLen.out]; omega) hsum (by decide)
        rw [HJ.out] at h
        exact hid h
      clear hcap hsum
      have hL0 : (0 : Int) < L.length := by rw [HLen.out]; omega
      have hLm : ((L.length : Int) == 2 + M) = true := by
        have h1 := HLen.out
        have h2 := HK1.out
        simp; omega
      go_wp2_with fail
      refine KJ.out.mono ?_
      rintro e w3 ⟨rfl, hb3⟩
      have hSt3 := Strs_keep hSt hb3 hgz
      have b3 := (hb01.trans (hb2.mono hb01.size)).trans (hb3.mono (by have := hb01.size; have := hb2.size; omega))
      have HR3 := hid (ByteRow_below HR.out b3)
      have hgz3 : g < w3.heap.size := Nat.lt_of_lt_of_le hgz hb3.size
      go_wp2_with fail
      refine (KM.out _ HR3.out).mono ?_
      rintro e w4 ⟨rfl, hb4⟩
      have hSt4 := Strs_keep hSt3 hb4 hgz3
      have b4 := b3.trans (hb4.mono b3.size)
      obtain ⟨x, hx⟩ : ∃ x, x = L.getD 0 (ByteArray.mk #[]) := ⟨_, rfl⟩
      have hcell : w4.cell? ⟨g, 0, none⟩ = some (.string x) := by
        have h0 : 0 < L.length := by omega
        rw [Strs_cell hSt4 h0, hx]
        simp [h0]
      have KDx : Hid (Calls Tryd.prog 11 #[.string x] w4 fun e w' => e = .returned (.bool true) ∧ ∃ pos, w' = w4.iter x pos) := by
        have h := impl_IsDigits x w4
        rw [hx, HDg.out, ← hx] at h
        exact hid h
      clear hx
      go_wp2_with fail
      refine KDx.out.mono ?_
      rintro e w5 ⟨rfl, p5, rfl⟩
      have hb5 : Below w4.heap.size w4 (w4.iter x p5) := (Below.refl _ _).alloc (Nat.le_refl _) _
      generalize w4.iter x p5 = w5 at hb5 ⊢
      have b5 := b4.trans (hb5.mono b4.size)
      have KE := hid (noDigits_any w5)
      go_wp2_with fail
      refine KE.out.mono ?_
      rintro e w6 ⟨rfl, hb6⟩
      have b6 := b5.trans (hb6.mono b5.size)
      have KX := hid (nameX1_any w6)
      go_wp2_with fail
      refine KX.out.mono ?_
      rintro e w7 ⟨rfl, hb7⟩
      have b7 := b6.trans (hb7.mono b6.size)
      have KY := hid (name1X_any w7)
      go_wp2_with fail
      refine KY.out.mono ?_
      rintro e w8 ⟨rfl, hb8⟩
      have b8 := b7.trans (hb8.mono b7.size)
      have KL := hid (twoLines_any w8)
      go_wp2_with fail
      refine KL.out.mono ?_
      rintro e w9 ⟨g9, c9, rfl, hb9⟩
      go_wp2_with fail
      go_ret
      exact ⟨rfl, b8.trans (hb9.mono b8.size)⟩
end Go.Proofs.YthkhnifgkcgkmaaDoor
