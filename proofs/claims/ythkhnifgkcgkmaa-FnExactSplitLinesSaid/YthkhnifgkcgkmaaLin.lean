/- SplitLines, the reference's and the program's, return the same lines. -/
import Derived.Test.YthkhnifgkcgkmaaSplW
namespace Go.Proofs.Ythkhnifgkcgkmaa
open Go.RowKit
open Go.Lib (hid)

def lastOf (L : List ByteArray) : ByteArray := L.getLastD ByteArray.empty
def linesOf (s : ByteArray) : List ByteArray :=
  if (lastOf (pieces s (ByteArray.mk #[10]))).toList.isEmpty then (pieces s (ByteArray.mk #[10])).dropLast else pieces s (ByteArray.mk #[10])

theorem last_at {L : List ByteArray} {m : Nat} (hm : L.length = m + 1) : L[m]? = some (lastOf L) := by
  have h : L ≠ [] := by intro h; rw [h] at hm; cases hm
  unfold lastOf
  rw [List.getLastD_eq_getLast?, List.getLast?_eq_getElem?, show L.length - 1 = m by omega, List.getElem?_eq_getElem (by omega)]
  rfl

def CutPost (L : List ByteArray) (m : Nat) (x : ByteArray) (w : World) (e : Ending) (w' : World) : Prop :=
  ∃ g cap, e = .returned (.slice (some ⟨g, 0, none⟩) (m + 1) cap) ∧ w.heap.size ≤ g ∧ g < w'.heap.size ∧ m + 1 ≤ cap ∧ w'.cell? ⟨g, m, none⟩ = some (.string x) ∧
    Strs w' 9 w.heap.size (.slice (some ⟨g, 0, none⟩) (m + 1) cap) L ∧ Below w.heap.size w w'
theorem CutPost_of {L : List ByteArray} {m : Nat} {w w' : World} {e : Ending} (hm : L.length = m + 1) (h : OwnPost L w e w') : CutPost L m (lastOf L) w e w' := by
  obtain ⟨g, cap, rfl, h1, h2, hS, hb⟩ := h
  have hc := Strs_cell hS (i := m) (by omega)
  have hl := last_at hm
  rw [List.getElem?_eq_getElem (by omega)] at hl
  have hcap : L.length ≤ cap := by
    rcases Strs_cases hS with ⟨h, _⟩ | ⟨g', c', h, _, _, h4⟩
    · simp at h
    · simp at h; omega
  refine ⟨g, cap, by rw [hm], h1, h2, by omega, ?_, by rw [← hm]; exact hS, hb⟩
  rw [hc]; simp at hl; rw [hl]

theorem OwnPost_init {L : List ByteArray} {m g cap : Nat} {w w' : World} (hm : L.length = m + 1) (h1 : w.heap.size ≤ g) (h2 : g < w'.heap.size) (hS : Strs w' 9 w.heap.size (.slice (some ⟨g, 0, none⟩) (m + 1) cap) L) (hb : Below w.heap.size w w') :
    OwnPost L.dropLast w (.returned (.slice (some ⟨g, 0, none⟩) m cap)) w' := by
  have hl : L.dropLast.length = m := by simp; omega
  refine ⟨g, cap, by rw [hl], h1, h2, ?_, hb⟩
  rw [hl]; exact Strs_init hm hS
theorem OwnPost_all {L : List ByteArray} {m g cap : Nat} {w w' : World} (hm : L.length = m + 1) (h1 : w.heap.size ≤ g) (h2 : g < w'.heap.size) (hS : Strs w' 9 w.heap.size (.slice (some ⟨g, 0, none⟩) (m + 1) cap) L) (hb : Below w.heap.size w w') :
    OwnPost L w (.returned (.slice (some ⟨g, 0, none⟩) (m + 1) cap)) w' :=
  ⟨g, cap, by rw [hm], h1, h2, by rw [hm]; exact hS, hb⟩

set_option maxHeartbeats 800000 in
theorem spec_SplitLines (s : ByteArray) (hs : s.size ≤ 1048576) (w : World) : Calls Try.prog 18 #[.string s] w (OwnPost (linesOf s) w) := by
  have hlen := pieces_len s (ByteArray.mk #[10])
  obtain ⟨m, hm⟩ : ∃ m, (pieces s (ByteArray.mk #[10])).length = m + 1 := ⟨(pieces s (ByteArray.mk #[10])).length - 1, by omega⟩
  have hmb : m ≤ 1048576 := by omega
  clear hlen
  have KS := hid ((spec_SplitAny_own s (ByteArray.mk #[10]) hs (by decide) w).mono fun _ _ h => CutPost_of hm h)
  have KM := hid hm
  clear hm
  unfold linesOf
  obtain ⟨x, hx⟩ : ∃ x, x = lastOf (pieces s (ByteArray.mk #[10])) := ⟨_, rfl⟩
  rw [← hx] at KS ⊢
  clear hx
  by_cases he : x.toList.isEmpty = true
  · rw [if_pos he]
    go_enter Try.func18, Try.ntmps18
    go_wp2_with fail
    refine KS.out.mono ?_
    rintro e w1 ⟨g, c, rfl, hg, hz, hcap, hcell, hS, hb⟩
    go_wp2_with fail
    go_ret
    exact OwnPost_init KM.out hg hz hS hb
  · have hf : x.toList.isEmpty = false := by simpa using he
    rw [if_neg he]
    clear he
    go_enter Try.func18, Try.ntmps18
    go_wp2_with fail
    refine KS.out.mono ?_
    rintro e w1 ⟨g, c, rfl, hg, hz, hcap, hcell, hS, hb⟩
    go_wp2_with fail
    go_ret
    exact OwnPost_all KM.out hg hz hS hb

set_option maxHeartbeats 800000 in
theorem impl_SplitLines (s : ByteArray) (hs : s.size ≤ 1048576) (w : World) : Calls Try.prog 19 #[.string s] w (OwnPost (linesOf s) w) := by
  have hlen := pieces_len s (ByteArray.mk #[10])
  obtain ⟨m, hm⟩ : ∃ m, (pieces s (ByteArray.mk #[10])).length = m + 1 := ⟨(pieces s (ByteArray.mk #[10])).length - 1, by omega⟩
  have hmb : m ≤ 1048576 := by omega
  clear hlen
  have KS := hid ((impl_SplitAny_own s (ByteArray.mk #[10]) hs (by decide) w).mono fun _ _ h => CutPost_of hm h)
  have KM := hid hm
  clear hm
  unfold linesOf
  obtain ⟨x, hx⟩ : ∃ x, x = lastOf (pieces s (ByteArray.mk #[10])) := ⟨_, rfl⟩
  rw [← hx] at KS ⊢
  clear hx
  by_cases he : x.toList.isEmpty = true
  · rw [if_pos he]
    go_enter Try.func19, Try.ntmps19
    go_wp2_with fail
    refine KS.out.mono ?_
    rintro e w1 ⟨g, c, rfl, hg, hz, hcap, hcell, hS, hb⟩
    go_wp2_with fail
    go_ret
    exact OwnPost_init KM.out hg hz hS hb
  · have hf : x.toList.isEmpty = false := by simpa using he
    rw [if_neg he]
    clear he
    go_enter Try.func19, Try.ntmps19
    go_wp2_with fail
    refine KS.out.mono ?_
    rintro e w1 ⟨g, c, rfl, hg, hz, hcap, hcell, hS, hb⟩
    go_wp2_with fail
    go_ret
    exact OwnPost_all KM.out hg hz hS hb

theorem linesOf_len (s : ByteArray) : (linesOf s).length ≤ s.size + 1 := by
  have := pieces_len s (ByteArray.mk #[10])
  unfold linesOf
  split <;> simp <;> omega

set_option maxHeartbeats 1600000 in
theorem law_SplitLines (s : ByteArray) (w : World) :
    Calls Try.prog 6 #[.string s] w fun e w' => e = .returned (.bool true) ∧ Below w.heap.size w w' := by
  by_cases hs : 1048576 < (s.size : Int)
  · go_enter Try.func6, Try.ntmps6
    go_wp2
    go_ret
    exact ⟨rfl, Below.refl _ _⟩
  have hL : (linesOf s).length ≤ 1048577 := by have := linesOf_len s; omega
  obtain ⟨L, hLe⟩ : ∃ L, L = linesOf s := ⟨_, rfl⟩
  rw [← hLe] at hL
  have HL : Hid (L = linesOf s) := hLe
  clear hLe
  have cS := fun w => HL.out ▸ spec_SplitLines s (by omega) w
  have cI := fun w => HL.out ▸ impl_SplitLines s (by omega) w
  have KS := hid cS
  have KI := hid cI
  clear cS cI
  go_enter Try.func6, Try.ntmps6
  go_wp2_with fail
  refine (KS.out _).mono ?_
  rintro e w1 ⟨g1, c1, rfl, hg1, hz1, hS1, hb1⟩
  go_wp2_with fail
  refine (KI.out _).mono ?_
  rintro e w2 ⟨g2, c2, rfl, hg2, hz2, hS2, hb2⟩
  have hR1 := hid (Row_below hS1 hb2 hz1)
  have hR2 := hid (Row_of hS2)
  go_wp2_with fail
  refine (eqStringS_same _ _ _ _ _ _ L (by omega) _ hR2.out hR1.out).mono ?_
  rintro e w3 ⟨rfl, d3, rfl⟩
  have hS3 := Strs_drewN hS2 d3
  have hb3 := below_drewN (Below.refl w2.heap.size w2) d3
  have hz3 : g2 < (w2.drewN d3).heap.size := hz2
  have hs3 : w2.heap.size ≤ (w2.drewN d3).heap.size := Nat.le_refl _
  generalize w2.drewN d3 = w3 at hS3 hb3 hz3 hs3 ⊢
  go_wp2_with fail
  refine (markStringS_any w1.heap.size g2 c2 L (by omega) _ hS3 hg2 hz3).mono ?_
  rintro e w4 ⟨rfl, hS4, hb4⟩
  have hz4 : g2 < w4.heap.size := Nat.lt_of_lt_of_le hz3 hb4.size
  go_wp2_with fail
  refine (heldStringS_any w1.heap.size g2 c2 L.length (by omega) _ hS4 hz4).mono ?_
  rintro e w5 ⟨rfl, hb5⟩
  have hz5 : g2 < w5.heap.size := Nat.lt_of_lt_of_le hz4 hb5.size
  go_wp2_with fail
  refine (KI.out _).mono ?_
  rintro e w6 ⟨g6, c6, rfl, hg6, hz6, hS6, hb6⟩
  have b12 : Below w1.heap.size w1 w6 := (((hb2.trans (hb3.mono hb2.size)).trans hb4).trans (hb5.mono (by have := hb2.size; have := hb4.size; omega))).trans (hb6.mono (by have := hb2.size; have := hb4.size; have := hb5.size; omega))
  have hR1b := hid (Row_below hS1 b12 hz1)
  have hR6 := hid (Row_of hS6)
  have hS7 := Strs_keep (Strs_keep hS4 hb5 hz4) hb6 hz5
  have hz7 : g2 < w6.heap.size := Nat.lt_of_lt_of_le hz5 hb6.size
  go_wp2_with fail
  refine (eqStringS_same _ _ _ _ _ _ L (by omega) _ hR6.out hR1b.out).mono ?_
  rintro e w8 ⟨rfl, d8, rfl⟩
  go_wp2_with fail
  refine (heldStringS_any w1.heap.size g2 c2 L.length (by omega) _ (Strs_drewN hS7 d8) hz7).mono ?_
  rintro e w9 ⟨rfl, hb9⟩
  go_wp2_with fail
  go_ret
  exact ⟨rfl, ((hb1.trans (b12.mono hb1.size)).trans (below_drewN (Below.refl _ _) d8)).trans (hb9.mono (by have := hb1.size; have := b12.size; show w.heap.size ≤ w6.heap.size; omega))⟩
end Go.Proofs.Ythkhnifgkcgkmaa
