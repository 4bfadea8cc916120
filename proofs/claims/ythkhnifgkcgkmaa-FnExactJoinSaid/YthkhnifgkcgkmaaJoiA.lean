/- The functions that the law of Join calls: the size of a slice of strings, its copy, the reference's Join, the program's Join. -/
import Derived.Test.YthkhnifgkcgkmaaJoi
import Derived.Test.YthkhnifgkcgkmaaPad
import Derived.Test.YthkhnifgkcgkmaaSplA
import Derived.OwnWalk
namespace Go.Proofs.Ythkhnifgkcgkmaa
open Go.RowKit
open Go.Lib (hid)

def SzPost (L : List ByteArray) (w : World) (e : Ending) (w' : World) : Prop := ∃ r : Int, e = .returned (.int .i64 r) ∧ (0 ≤ r → sumSz L ≤ 1048576 ∧ L.length ≤ 1048576) ∧ w = w'

set_option maxHeartbeats 800000 in
theorem szStringS_any (a : Option Addr) (n c : Nat) (L : List ByteArray) (w : World) (hr : RowO w a n L) (hn : n ≤ maxLen) (hz : ∀ x ∈ L, x.size ≤ maxLen) :
    Calls Try.prog 20 #[.slice a n c, .int .i64 1048576] w (SzPost L w) := by
  obtain ⟨rfl, hr⟩ := hr
  have HR := hid hr
  have HZ := hid hz
  clear hr hz
  unfold maxLen at hn
  by_cases h1 : (1048576 : Int) < L.length
  · go_enter Try.func20, Try.ntmps20
    go_wp2
    go_ret
    exact ⟨-1, rfl, by omega, rfl⟩
  · go_enter Try.func20, Try.ntmps20
    go_wp2
    go_loop [1, 5] (fun x i => ∃ (k : Nat) (left : Int), k ≤ L.length ∧ i = .int .i64 k ∧ x = .int .i64 left ∧ 0 ≤ left ∧ left ≤ 1048576 ∧ Hid (left = 1048576 - L.length - sumSz (L.take k))) (fun _ i => L.length - (intOf i).toNat)
    case atStart => exact ⟨0, _, Nat.zero_le _, rfl, rfl, by omega, by omega, hid (by simp [sumSz])⟩
    case round =>
      obtain ⟨k, left, hk, rfl, rfl, h2, h3, h4⟩ := hrel
      by_cases hlt : k < L.length
      · obtain ⟨g, o, rfl, hg, hc⟩ := HR.out (by omega)
        have hck := hc k hlt
        have hzk := HZ.out L[k] (List.getElem_mem hlt)
        have HT := hid (sumSz_take hlt)
        unfold maxLen at hzk
        clear hc
        have a1 : (0 : Int) ≤ k := by omega
        have a2 : (k : Int) < L.length := by omega
        by_cases h5 : left - L[k].size < 0
        · go_wp2
          go_ret
          exact ⟨-1, rfl, by omega, rfl⟩
        · go_wp2
          go_round
          case rel => exact ⟨k + 1, _, by omega, by go_num, rfl, by omega, by omega, hid (by have := h4.out; have := HT.out; omega)⟩
          case measure => simp [intOf]; omega
      · obtain rfl : k = L.length := by omega
        go_wp2
        go_ret
        refine ⟨left, rfl, fun _ => ?_, rfl⟩
        have := h4.out
        rw [List.take_length] at this
        omega

theorem made_list (n : Nat) : (madeCells (Value.string ByteArray.empty).cells (n * 1)).toList = (List.replicate n (ByteArray.mk #[])).map Value.string := by
  rw [Nat.mul_one]
  show (madeCells #[Value.string ByteArray.empty] n).toList = _
  rw [toList_madeCells_one, List.map_replicate]
  rfl

set_option maxHeartbeats 800000 in
theorem toStringS_any (a : Option Addr) (n c : Nat) (L : List ByteArray) (w : World) (hr : RowO w a n L) (hn : L.length ≤ 1048576) :
    Calls Try.prog 22 #[.slice a n c] w (OwnPost L w) := by
  obtain ⟨i9, hi, hz0, hz1, hz2⟩ := info_parts Try.info9
  obtain ⟨rfl, hr⟩ := hr
  have HR := hid hr
  clear hr
  go_enter Try.func22, Try.ntmps22
  go_wp2_with (at_make; refine wpList_make_full _ rfl _ _ 23 rfl w.heap.size 9 i9 (.string ByteArray.empty) 1 Try.underlying23 hi hz0 hz1 .i64 .i64 _ _ L.length rfl rfl rfl rfl ?c1 ?c2 (Nat.le_refl _) ?_)
  case c1 => rw [hz2]; omega
  case c2 => unfold maxLen; omega
  intro w1 hown hgrow
  have hS : Strs w1 9 w.heap.size (.slice (some ⟨w.heap.size, 0, none⟩) L.length L.length) (filled L 0) := by
    unfold Strs
    rw [filled_len (Nat.zero_le _)]
    have e : (filled L 0).map Value.string = (madeCells (Value.string ByteArray.empty).cells (L.length * 1)).toList := by
      rw [made_list]; simp [filled]
    rw [e, Nat.mul_one]; exact hown
  have hb : Below w.heap.size w w1 := (Below.refl _ _).grown hgrow (Nat.le_refl _) (fun _ h => by cases h)
  have hz : w.heap.size < w1.heap.size := by
    rcases Strs_cases hS with ⟨h, _⟩ | ⟨g, cap, h, _, h2, _⟩
    · simp at h
    · simp at h; omega
  clear hown hgrow
  go_wp2
  go_loopw [4] (fun i wr => ∃ (k : Nat), k ≤ L.length ∧ i = .int .i64 k ∧ w.heap.size < wr.heap.size ∧ Strs wr 9 w.heap.size (.slice (some ⟨w.heap.size, 0, none⟩) L.length L.length) (filled L k) ∧ Below w.heap.size w wr) (fun i _ => L.length - (intOf i).toNat)
  case atStart => exact ⟨0, Nat.zero_le _, rfl, hz, hS, hb⟩
  case round =>
    clear hS hb hz
    obtain ⟨k, hk, rfl, hz, hS, hb⟩ := hrel
    by_cases hlt : k < L.length
    · obtain ⟨g, o, rfl, hg, hc⟩ := HR.out (by omega)
      have hck := (hb.cell (p := ⟨g, o + k, none⟩) hg).trans (hc k hlt)
      clear hc
      have a1 : (0 : Int) ≤ k := by omega
      have a2 : (k : Int) < L.length := by omega
      have hcell := Strs_cell hS (i := k) (by rw [filled_len hk]; exact hlt)
      have hfree := Strs_free hS k
      have hst := hid (Strs_store hS (i := k) L[k])
      have hb2 := hb.setCell (p := ⟨w.heap.size, k, none⟩) (Nat.le_refl _) (.string L[k])
      clear hS hb
      go_wp2
      go_roundw
      case rel =>
        have hs := hst.out
        rw [filled_set hlt] at hs
        exact ⟨k + 1, by omega, by go_num, by simpa [World.setCell] using hz, hs, hb2⟩
      case measure => simp [intOf]; omega
    · obtain rfl : k = L.length := by omega
      go_wp2
      go_ret
      rw [filled_all] at hS
      exact ⟨w.heap.size, L.length, rfl, Nat.le_refl _, hz, hS, hb⟩

set_option maxHeartbeats 800000 in
theorem spec_Join (g c : Nat) (L : List ByteArray) (sep : ByteArray) (w : World) (hc : ∀ i (h : i < L.length), w.cell? ⟨g, i, none⟩ = some (.string L[i])) (hn : L.length ≤ 1048576) (hs : sumSz L ≤ 1048576) (hsep : sep.size ≤ 1048576) :
    Calls Try.prog 21 #[.slice (some ⟨g, 0, none⟩) L.length c, .string sep] w fun e w' => e = .returned (.string (joinK L sep L.length)) ∧ w = w' := by
  have HC := hid hc
  clear hc
  go_enter Try.func21, Try.ntmps21
  go_wp2
  go_loop [5, 10] (fun x i => ∃ (k : Nat), k ≤ L.length ∧ i = .int .i64 k ∧ x = .string (joinK L sep k)) (fun _ i => L.length - (intOf i).toNat)
  case atStart => exact ⟨0, Nat.zero_le _, rfl, rfl⟩
  case round =>
    obtain ⟨k, hk, rfl, rfl⟩ := hrel
    by_cases hlt : k < L.length
    · have hck := HC.out k hlt
      have a1 : (0 : Int) ≤ k := by omega
      have a2 : (k : Int) < L.length := by omega
      have hz : (joinK L sep k).size ≤ 1099512676352 := by
        have h1 := joinK_size (L := L) (sep := sep) k hk
        have h2 := sumSz_take_le L k
        have h3 : k * sep.size ≤ 1048576 * 1048576 := Nat.mul_le_mul (by omega) hsep
        omega
      have hx : L[k].size ≤ 1048576 := by
        have h1 := sumSz_take hlt
        have h2 := sumSz_take_le L (k + 1)
        omega
      by_cases h0 : k = 0
      · subst h0
        have hj := hid (joinK_first L sep hlt)
        go_wp2
        go_round
        case rel => exact ⟨1, by omega, by first | rfl | go_num, by rw [hj.out]; rfl⟩
        case measure => simp [intOf]; omega
      · have hj := hid (joinK_next (sep := sep) hlt (by omega))
        have h1 : (0 : Int) < k := by omega
        go_wp2
        go_round
        case rel => exact ⟨k + 1, by omega, by go_num, by rw [hj.out]⟩
        case measure => simp [intOf]; omega
    · obtain rfl : k = L.length := by omega
      go_wp2
      go_ret
      exact ⟨rfl, rfl⟩

set_option maxHeartbeats 800000 in
theorem impl_Join (g c : Nat) (L : List ByteArray) (sep : ByteArray) (w : World) (hc : ∀ i (h : i < L.length), w.cell? ⟨g, i, none⟩ = some (.string L[i])) (hg : g < w.heap.size) (hcap : L.length ≤ c) (hn : L.length ≤ 1048576) (hs : sumSz L ≤ 1048576) (hsep : sep.size ≤ 1048576) :
    Calls Try.prog 23 #[.slice (some ⟨g, 0, none⟩) L.length c, .string sep] w fun e w' => e = .returned (.string (joinK L sep L.length)) ∧ Below w.heap.size w w' := by
  have K := hid (joinParts_any g c L sep w (fun j x hj => by
    obtain ⟨hlt, rfl⟩ := List.getElem?_eq_some_iff.1 hj
    rw [Nat.zero_add]; exact hc j hlt) hg hcap (by omega) (by
    have h1 := joinL_len L sep
    have h3 : L.length * sep.size ≤ 1048576 * 1048576 := Nat.mul_le_mul hn hsep
    omega))
  have HJ := hid (joinK_all L sep)
  clear hc
  go_enter Try.func23, Try.ntmps23
  go_wp2_with fail
  refine K.out.mono ?_
  rintro e w1 ⟨rfl, hb⟩
  go_wp2_with fail
  go_ret
  rw [HJ.out]
  exact ⟨rfl, hb⟩

set_option maxHeartbeats 1600000 in
theorem law_Join (a : Option Addr) (n c : Nat) (L : List ByteArray) (sep : ByteArray) (w : World) (hr : RowO w a n L) (hn : n ≤ maxLen) (hz : ∀ x ∈ L, x.size ≤ maxLen) :
    Calls Try.prog 7 #[.slice a n c, .string sep] w fun e w' => e = .returned (.bool true) ∧ Below w.heap.size w w' := by
  by_cases h1 : 1048576 < (sep.size : Int)
  · go_enter Try.func7, Try.ntmps7
    go_wp2
    go_ret
    exact ⟨rfl, Below.refl _ _⟩
  have HR := hid hr
  have K1 := hid (szStringS_any a n c L w hr hn hz)
  clear hr hz
  go_enter Try.func7, Try.ntmps7
  go_wp2_with fail
  refine K1.out.mono ?_
  rintro e w1 ⟨r, rfl, hr2, rfl⟩
  by_cases h2 : r < 0
  · clear hr2
    go_wp2
    go_ret
    exact ⟨rfl, Below.refl _ _⟩
  obtain ⟨hs, hL⟩ := hr2 (by omega)
  go_wp2_with fail
  refine (toStringS_any a n c L _ HR.out hL).mono ?_
  rintro e w2 ⟨g2, c2, rfl, hg2, hz2, hS2, hb2⟩
  go_wp2_with fail
  refine (spec_Join g2 c2 L sep _ (fun i hi => Strs_cell hS2 hi) hL hs (by omega)).mono ?_
  rintro e w3 ⟨rfl, rfl⟩
  have HR2 := hid (RowO_below HR.out hb2)
  go_wp2_with fail
  refine (toStringS_any a n c L _ HR2.out hL).mono ?_
  rintro e w4 ⟨g4, c4, rfl, hg4, hz4, hS4, hb4⟩
  have hcap : L.length ≤ c4 := by
    rcases Strs_cases hS4 with ⟨h, _⟩ | ⟨g', c', h, _, _, h4⟩
    · simp at h
    · simp at h; omega
  go_wp2_with fail
  refine (impl_Join g4 c4 L sep _ (fun i hi => Strs_cell hS4 hi) hz4 hcap hL hs (by omega)).mono ?_
  rintro e w5 ⟨rfl, hb5⟩
  have HR5 := hid (RowO_below (RowO_below HR2.out hb4) hb5)
  have hS5 := Strs_keep hS4 hb5 hz4
  have hz5 : g4 < w5.heap.size := Nat.lt_of_lt_of_le hz4 hb5.size
  go_wp2_with fail
  refine (toStringS_any a n c L _ HR5.out hL).mono ?_
  rintro e w6 ⟨g6, c6, rfl, hg6, hz6, hS6, hb6⟩
  have hR4 := hid (Row_below hS5 hb6 hz5)
  have hR6 := hid (Row_of hS6)
  go_wp2_with fail
  refine (eqStringS_same _ _ _ _ _ _ L (by omega) _ hR4.out hR6.out).mono ?_
  rintro e w7 ⟨rfl, d7, rfl⟩
  go_wp2_with fail
  go_ret
  exact ⟨rfl, below_drewN (((hb2.trans (hb4.mono hb2.size)).trans (hb5.mono (by have := hb2.size; have := hb4.size; omega))).trans (hb6.mono (by have := hb2.size; have := hb4.size; have := hb5.size; omega))) d7⟩
end Go.Proofs.Ythkhnifgkcgkmaa
