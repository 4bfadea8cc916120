/- FormatNat: the text of a number: the reference's and the program's walk. -/
import Derived.Test.YthkehmnodcmlcaaGreatDoorBas
import Derived.Test.YthkehmnodcmlcaaGreatDoorDtx
namespace Go.Proofs.YthkehmnodcmlcaaGreatDoor
open Go.RowKit
open Go.Lib (hid)
set_option linter.unusedVariables false

theorem pow_below {w w' : World} (h : Pow10 w) (hb : Below w.heap.size w w') : Pow10 w' := by
  have hc := h.cell gPow 0 (by decide)
  have hg := World.block_lt_of_cell? w _ hc
  exact var?_below hb gPow hg h

/-- The text after j further limbs: the top limb's digits, then nine digits a limb. -/
def fmtD (L : List Int) : Nat → ByteArray
  | 0 => bts (Lib.itoa (L.getD (L.length - 1) 0))
  | j + 1 => fmtD L j ++ padded (bts (Lib.itoa (L.getD (L.length - 2 - j) 0))) 9
def partsD (L : List Int) : Nat → List ByteArray
  | 0 => [bts (Lib.itoa (L.getD (L.length - 1) 0))]
  | j + 1 => partsD L j ++ [padded (bts (Lib.itoa (L.getD (L.length - 2 - j) 0))) 9]
def formatL (L : List Int) : ByteArray := if nok L then (if L = [] then ByteArray.mk #[48] else fmtD L (L.length - 1)) else ByteArray.mk #[]
theorem formatL_no {L : List Int} (h : nok L = false) : formatL L = ByteArray.mk #[] := by simp [formatL, h]
theorem formatL_nil {L : List Int} (h : nok L = true) (h' : L = []) : formatL L = ByteArray.mk #[48] := by subst h'; simp [formatL, h]
theorem formatL_yes {L : List Int} (h : nok L = true) (h' : L.length ≠ 0) : formatL L = fmtD L (L.length - 1) := by
  have : L ≠ [] := by intro e; subst e; exact h' rfl
  simp [formatL, h, this]
theorem itoa_size {x : Int} (h0 : 0 ≤ x) (h1 : x < 1000000000) : (bts (Lib.itoa x)).size ≤ 20 := by
  rw [bts_size, Lib.itoa, if_neg (by omega)]
  exact dec_len _ (by omega)
theorem padded_size {s : ByteArray} (h : s.size ≤ 20) : (padded s 9).size ≤ 20 := by
  unfold padded
  split
  · next hh =>
    obtain ⟨h1, -⟩ := hh
    have : (padK s (Int.toNat 9 - s.size)).size = (Int.toNat 9 - s.size) + s.size := padK_size _ _
    rw [this]; omega
  · exact h
theorem getD_lim {A : List Int} (h : Lim A) (k : Nat) : 0 ≤ A.getD k 0 ∧ A.getD k 0 < 1000000000 := by
  by_cases hk : k < A.length
  · have := Lim_at h hk; simpa [hk] using this
  · simp [List.getD, List.getElem?_eq_none (show A.length ≤ k by omega)]
theorem getD_in {A : List Int} {k : Nat} (hk : k < A.length) : A.getD k 0 = A[k] := by simp [hk]
theorem fmtD_size {L : List Int} (h : Lim L) : ∀ j, (fmtD L j).size ≤ 20 + 20 * j
  | 0 => by
    have := getD_lim h (L.length - 1)
    exact itoa_size this.1 this.2
  | j + 1 => by
    have := getD_lim h (L.length - 2 - j)
    have h1 := padded_size (itoa_size this.1 this.2)
    have h2 := fmtD_size h j
    rw [fmtD, ByteArray.size_append']; omega
theorem partsD_len (L : List Int) : ∀ j, (partsD L j).length = j + 1
  | 0 => rfl
  | j + 1 => by rw [partsD, List.length_append, partsD_len L j]; rfl
theorem joinK_prefix (X : List ByteArray) (y sep : ByteArray) : ∀ k, k ≤ X.length → joinK (X ++ [y]) sep k = joinK X sep k
  | 0, _ => rfl
  | k + 1, h => by
    have ih := joinK_prefix X y sep k (by omega)
    have e : (X ++ [y]).getD k ByteArray.empty = X.getD k ByteArray.empty := by simp [List.getD, List.getElem?_append_left (show k < X.length by omega)]
    simp only [joinK, ih, e]
theorem app_nil (x : ByteArray) : x ++ ByteArray.mk #[] = x := ByteArray.append_empty
theorem nil_app (x : ByteArray) : ByteArray.mk #[] ++ x = x := ByteArray.empty_append
theorem join_parts (L : List Int) : ∀ j, joinK (partsD L j) (ByteArray.mk #[]) (j + 1) = fmtD L j
  | 0 => by
    simp only [joinK, partsD, fmtD]
    rw [if_neg (by omega)]
    exact nil_app _
  | j + 1 => by
    have ih := join_parts L j
    have hl := partsD_len L j
    have e : (partsD L (j + 1)).getD (j + 1) ByteArray.empty = padded (bts (Lib.itoa (L.getD (L.length - 2 - j) 0))) 9 := by
      rw [partsD, List.getD, List.getElem?_append_right (by omega), hl]; simp
    have e2 : joinK (partsD L (j + 1)) (ByteArray.mk #[]) (j + 1) = fmtD L j := by
      rw [partsD, joinK_prefix _ _ _ _ (by omega)]; exact ih
    show (if 0 < j + 1 then joinK (partsD L (j + 1)) (ByteArray.mk #[]) (j + 1) ++ ByteArray.mk #[] else joinK (partsD L (j + 1)) (ByteArray.mk #[]) (j + 1)) ++ (partsD L (j + 1)).getD (j + 1) ByteArray.empty = _
    rw [if_pos (by omega), e2, e, app_nil]; rfl
theorem sumSz_app (X : List ByteArray) (y : ByteArray) : sumSz (X ++ [y]) = sumSz X + y.size := by
  induction X with
  | nil => simp [sumSz]
  | cons x r ih => simp only [List.cons_append, sumSz, ih]; omega
theorem parts_size {L : List Int} (h : Lim L) : ∀ j, sumSz (partsD L j) ≤ 20 + 20 * j
  | 0 => by
    have := getD_lim h (L.length - 1)
    have := itoa_size this.1 this.2
    simp only [partsD, sumSz]; omega
  | j + 1 => by
    have := getD_lim h (L.length - 2 - j)
    have h1 := padded_size (itoa_size this.1 this.2)
    have h2 := parts_size h j
    rw [partsD, sumSz_app]; omega
def StrP (s : ByteArray) (w : World) (e : Ending) (w' : World) : Prop := e = .returned (.string s) ∧ Below w.heap.size w w'
theorem StrP_mk {s t : ByteArray} {w w' : World} (h : t = s) (hb : Below w.heap.size w w') : StrP s w (.returned (.string t)) w' := by subst h; exact ⟨rfl, hb⟩

set_option maxRecDepth 100000 in
set_option maxHeartbeats 1600000 in
theorem spec_FormatNat (a : Option Addr) (n c : Nat) (L : List Int) (hL : L.length ≤ 1073741824) (w : World) (h1 : RowI w a n L) :
    Calls Tryz.prog 63 #[.slice a n c] w (StrP (formatL L) w) := by
  have K := hid (spec_NatOk a n c L hL w h1)
  have R := hid h1
  obtain rfl : n = L.length := h1.1
  clear h1
  obtain ⟨s, hs⟩ : ∃ s, s = formatL L := ⟨_, rfl⟩
  have HS := hid hs
  rw [← hs]
  clear hs
  cases e1 : nok L with
  | false =>
    have hE := hid (HS.out.trans (formatL_no e1))
    rw [e1] at K
    clear e1
    go_enter Tryz.func63, Tryz.ntmps63
    go_wp2_with fail
    refine K.out.mono ?_
    rintro e w1 ⟨rfl, rfl⟩
    go_wp2
    go_ret
    exact StrP_mk hE.out.symm (Below.refl _ _)
  | true =>
    by_cases h0 : L.length = 0
    · have hE := hid (HS.out.trans (formatL_nil e1 (List.length_eq_zero_iff.1 h0)))
      have h0b : ((L.length : Int) == 0) = true := beq_iff_eq.2 (by omega)
      rw [e1] at K
      clear e1 h0
      go_enter Tryz.func63, Tryz.ntmps63
      go_wp2_with fail
      refine K.out.mono ?_
      rintro e w1 ⟨rfl, rfl⟩
      go_wp2
      go_ret
      exact StrP_mk hE.out.symm (Below.refl _ _)
    · have hE := hid (HS.out.trans (formatL_yes e1 h0))
      have h0' : ¬ (L.length : Int) = 0 := by omega
      have h0b : ((L.length : Int) == 0) = false := beq_eq_false_iff_ne.2 h0'
      have LL := hid (nok_iff.1 e1).2.1
      have h60 := (nok_iff.1 e1).1
      rw [e1] at K
      clear e1
      obtain ⟨m, hlm, hm⟩ : ∃ m, m < L.length ∧ L.length = m + 1 := ⟨L.length - 1, by omega, by omega⟩
      have hmm : ((L.length : Int) - 1).toNat = m := by omega
      have hm0 : (1 : Int) ≤ L.length := by omega
      have HM := hid hm
      clear hm
      obtain ⟨g1, o1, rfl, -, hc1⟩ := R.out.2 (by omega)
      have q1 := hc1 m hlm
      clear hc1
      have hx := Lim_at LL.out hlm
      obtain ⟨x, hxe⟩ : ∃ x, x = L[m] := ⟨_, rfl⟩
      rw [← hxe] at q1 hx
      have HX := hid (show bts (Lib.itoa x) = fmtD L 0 by
        rw [fmtD, show L.length - 1 = m by have := HM.out; omega, getD_in hlm, hxe])
      have hx64 := hid (show -9223372036854775808 ≤ x ∧ x ≤ 9223372036854775807 by omega)
      clear hxe
      go_enter Tryz.func63, Tryz.ntmps63
      go_wp2_with fail
      refine K.out.mono ?_
      rintro e w1 ⟨rfl, rfl⟩
      go_wp2_with fail
      refine (spec_FormatInt x hx64.out.1 hx64.out.2 _).mono ?_
      rintro e w1 ⟨rfl, b1⟩
      rw [HX.out]
      have HB := hid b1
      clear b1 q1 hmm
      go_wp2
      go_loopw [3, 4] (fun y z wr => ∃ j : Nat, j + 1 ≤ L.length ∧ z = .int .i64 ((L.length : Int) - 2 - j) ∧ y = .string (fmtD L j) ∧ Below w.heap.size w wr) (fun _ z _ => (intOf z + 1).toNat)
      case atStart => exact ⟨0, by omega, by simp, rfl, HB.out⟩
      case round =>
        obtain ⟨j, hj, rfl, rfl, hbel⟩ := hrel
        have HB := hid hbel
        clear hbel
        have hfs := fmtD_size LL.out j
        obtain ⟨t, ht⟩ : ∃ t, t = fmtD L j := ⟨_, rfl⟩
        have HT := hid ht
        rw [← ht] at hfs
        rw [← ht]
        clear ht
        by_cases hlt : j + 2 ≤ L.length
        · have hi : L.length - 2 - j < L.length := by omega
          obtain ⟨i, hie⟩ : ∃ i, i = L.length - 2 - j := ⟨_, rfl⟩
          have hii : ((L.length : Int) - 2 - j).toNat = i := by omega
          have hi0 : (0 : Int) ≤ (L.length : Int) - 2 - j := by omega
          have hi1 : (L.length : Int) - 2 - j < L.length := by omega
          rw [← hie] at hi
          obtain ⟨g2, o2, he, -, hc2⟩ := (RowI_old R.out HB.out).2 (by omega)
          obtain ⟨rfl, rfl⟩ : g1 = g2 ∧ o1 = o2 := by simpa using he
          have q2 := hc2 i hi
          clear hc2 he
          have hx := Lim_at LL.out hi
          obtain ⟨x, hxe⟩ : ∃ x, x = L[i] := ⟨_, rfl⟩
          rw [← hxe] at q2 hx
          have HX := hid (show t ++ padded (bts (Lib.itoa x)) 9 = fmtD L (j + 1) by
            rw [fmtD, ← hie, getD_in hi, hxe, HT.out])
          have hx64 := hid (show -9223372036854775808 ≤ x ∧ x ≤ 9223372036854775807 by omega)
          have hsz := itoa_size hx.1 hx.2
          have hsp := padded_size hsz
          obtain ⟨u, hu⟩ : ∃ u, u = bts (Lib.itoa x) := ⟨_, rfl⟩
          have HU := hid hu
          rw [← hu] at hsz hsp HX
          obtain ⟨q, hq⟩ : ∃ q, q = padded u 9 := ⟨_, rfl⟩
          have HQ := hid hq
          rw [← hq] at hsp HX
          clear hxe hie hu hq
          go_wp2_with fail
          refine (spec_FormatInt x hx64.out.1 hx64.out.2 _).mono ?_
          rw [← HU.out]
          rintro e w2 ⟨rfl, b2⟩
          have HB := hid (HB.out.trans (b2.mono HB.out.size))
          clear b2
          go_wp2_with fail
          refine (spec_PadZeros u 9 (by omega) _).mono ?_
          rw [← HQ.out]
          rintro e w3 ⟨rfl, rfl⟩
          go_wp2
          go_roundw
          case rel =>
            refine ⟨j + 1, by omega, ?_, ?_, HB.out⟩
            · congr 1; omega
            · rw [HX.out]
          case measure => simp [intOf]; omega
        · have hE2 := hid (show t = s by
            rw [HT.out, hE.out, show L.length - 1 = j by omega])
          have hi0 : ¬ (0 : Int) ≤ (L.length : Int) - 2 - j := by omega
          go_wp2
          go_ret
          exact StrP_mk hE2.out HB.out
end Go.Proofs.YthkehmnodcmlcaaGreatDoor
