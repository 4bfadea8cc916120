/- FormatNat: the program's walk, and the law's. -/
import Derived.Test.YthkehmnodcmlcaaGreatDoorFna
namespace Go.Proofs.YthkehmnodcmlcaaGreatDoor
open Go.RowKit
open Go.Lib (hid)
set_option linter.unusedVariables false

theorem Strs_one {w : World} {B : Nat} (x : ByteArray) (hB : B ≤ w.heap.size) : Strs (w.alloc (.cells #[.string x] 9)) 9 B (.slice (some ⟨w.heap.size, 0, none⟩) 1 1) [x] :=
  World.ownsRow_lit w #[.string x] 1 hB (by decide) rfl

set_option maxRecDepth 100000 in
set_option maxHeartbeats 1600000 in
theorem impl_FormatNat (a : Option Addr) (n c : Nat) (L : List Int) (hL : L.length ≤ 1073741824) (w : World) (h1 : RowI w a n L) (hp : Pow10 w) :
    Calls Tryz.prog 72 #[.slice a n c] w (StrP (formatL L) w) := by
  have K := hid (impl_NatOk a n c L hL w h1)
  have R := hid h1
  have P := hid hp
  obtain rfl : n = L.length := h1.1
  clear h1 hp
  obtain ⟨s, hs⟩ : ∃ s, s = formatL L := ⟨_, rfl⟩
  have HS := hid hs
  rw [← hs]
  clear hs
  cases e1 : nok L with
  | false =>
    have hE := hid (HS.out.trans (formatL_no e1))
    rw [e1] at K
    clear e1
    go_enter Tryz.func72, Tryz.ntmps72
    go_wp2_with fail
    refine K.out.mono ?_
    rintro e w1 ⟨rfl, rfl⟩
    go_wp2
    go_ret
    exact StrP_mk hE.out.symm (Below.refl _ _)
  | true =>
    by_cases h0 : L.length = 0
    · have hE := hid (HS.out.trans (formatL_nil e1 (List.length_eq_zero_iff.1 h0)))
      have h0b : ((L.length : Int) == 0) = true := beq_iff_eq.2 (by omega)
      rw [e1] at K
      clear e1 h0
      go_enter Tryz.func72, Tryz.ntmps72
      go_wp2_with fail
      refine K.out.mono ?_
      rintro e w1 ⟨rfl, rfl⟩
      go_wp2
      go_ret
      exact StrP_mk hE.out.symm (Below.refl _ _)
    · obtain ⟨i9, hi9, hz0, hz1, hz2⟩ := info_parts Tryz.info9
      have hE := hid (HS.out.trans (formatL_yes e1 h0))
      have h0' : ¬ (L.length : Int) = 0 := by omega
      have h0b : ((L.length : Int) == 0) = false := beq_eq_false_iff_ne.2 h0'
      have LL := hid (nok_iff.1 e1).2.1
      have h60 := (nok_iff.1 e1).1
      rw [e1] at K
      clear e1
      obtain ⟨m, hlm, hm⟩ : ∃ m, m < L.length ∧ L.length = m + 1 := ⟨L.length - 1, by omega, by omega⟩
      have hmm : ((L.length : Int) - 1).toNat = m := by omega
      have hm0 : (1 : Int) ≤ L.length := by omega
      have HM := hid hm
      clear hm
      obtain ⟨g1, o1, rfl, -, hc1⟩ := R.out.2 (by omega)
      have q1 := hc1 m hlm
      clear hc1
      have hx := Lim_at LL.out hlm
      obtain ⟨x, hxe⟩ : ∃ x, x = L[m] := ⟨_, rfl⟩
      rw [← hxe] at q1 hx
      have HX := hid (show [bts (Lib.itoa x)] = partsD L 0 by
        rw [partsD, show L.length - 1 = m by have := HM.out; omega, getD_in hlm, hxe])
      have hx64 := hid (show -9223372036854775808 ≤ x ∧ x ≤ 9223372036854775807 by omega)
      clear hxe
      obtain ⟨B, hB⟩ : ∃ B, B = w.heap.size := ⟨_, rfl⟩
      have HBE := hid hB
      clear hB
      go_enter Tryz.func72, Tryz.ntmps72
      go_wp2_with fail
      refine K.out.mono ?_
      rintro e w1 ⟨rfl, rfl⟩
      go_wp2_with fail
      refine (impl_FormatInt x hx64.out.1 hx64.out.2 _ P.out).mono ?_
      obtain ⟨y, hy⟩ : ∃ y, y = bts (Lib.itoa x) := ⟨_, rfl⟩
      rw [← hy] at HX ⊢
      clear hy
      rintro e w1 ⟨rfl, b1⟩
      have HO := hid (Strs_one (w := w1) (B := B) y (by have := b1.size; have := HBE.out; omega))
      rw [HX.out] at HO
      have HB := hid (b1.alloc b1.size (.cells #[.string y] 9))
      clear b1 q1 hmm HX
      go_wp2
      go_loopw [4, 5] (fun out z wr => ∃ j : Nat, j + 1 ≤ L.length ∧ z = .int .i64 ((L.length : Int) - 2 - j) ∧ Strs wr 9 B out (partsD L j) ∧ Below w.heap.size w wr) (fun _ z _ => (intOf z + 1).toNat)
      case atStart => exact ⟨0, by omega, by first | rfl | (congr 1; omega) | simp, HO.out, HB.out⟩
      case round =>
        obtain ⟨j, hj, rfl, hown, hbel⟩ := hrel
        clear HB HO
        have HB := hid hbel
        have HO := hid hown
        clear hbel hown
        have hpl := partsD_len L j
        have hps := parts_size LL.out j
        obtain ⟨t, ht⟩ : ∃ t, t = partsD L j := ⟨_, rfl⟩
        have HT := hid ht
        rw [← ht] at hps hpl HO
        clear ht
        have HPL := hid hpl
        have hpl2 : t.length ≤ 60 := by omega
        have hb0 := hid (show B ≤ wr.heap.size by have := HB.out.size; have := HBE.out; omega)
        clear hpl
        by_cases hlt : j + 2 ≤ L.length
        · have hi : L.length - 2 - j < L.length := by omega
          obtain ⟨i, hie⟩ : ∃ i, i = L.length - 2 - j := ⟨_, rfl⟩
          have hii : ((L.length : Int) - 2 - j).toNat = i := by omega
          have hi0 : (0 : Int) ≤ (L.length : Int) - 2 - j := by omega
          have hi1 : (L.length : Int) - 2 - j < L.length := by omega
          rw [← hie] at hi
          obtain ⟨g2, o2, he, -, hc2⟩ := (RowI_old R.out HB.out).2 (by omega)
          obtain ⟨rfl, rfl⟩ : g1 = g2 ∧ o1 = o2 := by simpa using he
          have q2 := hc2 i hi
          clear hc2 he
          have hx := Lim_at LL.out hi
          obtain ⟨x, hxe⟩ : ∃ x, x = L[i] := ⟨_, rfl⟩
          rw [← hxe] at q2 hx
          have HX := hid (show t ++ [padded (bts (Lib.itoa x)) 9] = partsD L (j + 1) by
            rw [partsD, ← hie, getD_in hi, hxe, HT.out])
          have hx64 := hid (show -9223372036854775808 ≤ x ∧ x ≤ 9223372036854775807 by omega)
          have hsz := itoa_size hx.1 hx.2
          obtain ⟨u, hu⟩ : ∃ u, u = bts (Lib.itoa x) := ⟨_, rfl⟩
          have HU := hid hu
          rw [← hu] at hsz HX
          obtain ⟨q, hq⟩ : ∃ q, q = padded u 9 := ⟨_, rfl⟩
          have HQ := hid hq
          rw [← hq] at HX
          clear hxe hie hu hq
          go_wp2_with fail
          refine (impl_FormatInt x hx64.out.1 hx64.out.2 _ (pow_below P.out HB.out)).mono ?_
          rw [← HU.out]
          rintro e w2 ⟨rfl, b2⟩
          have HO := hid (Strs_below HO.out b2 (fun k hk => (World.ownsRow.lt HO.out k hk).2))
          have HB := hid (HB.out.trans (b2.mono HB.out.size))
          clear b2
          go_wp2_with fail
          refine (impl_PadZeros u 9 (by omega) _).mono ?_
          rw [← HQ.out]
          rintro e w3 ⟨rfl, b2⟩
          have HO := hid (Strs_below HO.out b2 (fun k hk => (World.ownsRow.lt HO.out k hk).2))
          have HB := hid (HB.out.trans (b2.mono HB.out.size))
          clear b2
          have hb0 := hid (show B ≤ w3.heap.size by have := HB.out.size; have := HBE.out; omega)
          go_wp2_with (at_builtin; refine wpList_append_own _ rfl _ _ 30 rfl B 9 i9 (.string ByteArray.empty) 1 16 Tryz.underlying30 hi9 hz0 hz1 hz2 rfl (by decide) _ _ _ rfl (World.ownsRow.alloc (show w3.ownsRow B 9 1 u4 _ _ from HO.out) _) ⟨w3.heap.size, 0, none⟩ 1 1 [.string q] rfl rfl ?d1 ?d2 ?d3 ?d4 ?d5 ?_)
          any_goals (first | rfl | exact cell_one_new _ _ _ | (intro u hu; simp at hu; subst hu; rfl) | (unfold maxLen; omega) | omega | (have := hb0.out; simp; omega))
          intro v' w1 hown' hgrow _
          have hB2 : Below B w w3 := by rw [HBE.out]; exact HB.out
          have R := hid (Strs_app HO.out hB2 hb0.out hown' hgrow)
          clear hown' hgrow hB2
          rw [HX.out, HBE.out] at R
          rw [← HBE.out] at R
          go_wp2
          go_roundw
          case rel =>
            refine ⟨j + 1, by omega, ?_, R.out.1, by rw [← HBE.out]; exact R.out.2⟩
            congr 1; omega
          case measure => simp [intOf]; omega
        · have hE2 := hid (show joinK t (ByteArray.mk #[]) t.length = s by
            rw [HPL.out, HT.out, join_parts, hE.out, show L.length - 1 = j by omega])
          have hi0 : ¬ (0 : Int) ≤ (L.length : Int) - 2 - j := by omega
          rcases Strs_cases HO.out with ⟨-, h0⟩ | ⟨g, cap, rfl, -, hg, hcap⟩
          · have := HPL.out; rw [h0] at this; simp at this
          go_wp2_with fail
          refine (impl_Join g cap t (ByteArray.mk #[]) wr (fun i hi => Strs_cell HO.out hi) hg hcap (by omega) (by omega) (by decide)).mono ?_
          rw [hE2.out]
          rintro e w2 ⟨rfl, b2⟩
          go_wp2
          go_ret
          exact StrP_mk rfl (HB.out.trans (b2.mono HB.out.size))

end Go.Proofs.YthkehmnodcmlcaaGreatDoor
