/- SplitLines, the reference's and the program's, return the same lines. -/
import Derived.Test.YthkhnifgkcgkmaaDoorSplB
import Derived.Test.YthkhnifgkcgkmaaDoorOwn
namespace Go.Proofs.YthkhnifgkcgkmaaDoor
open Go.RowKit
open Go.Lib (hid)

def lastOf (L : List ByteArray) : ByteArray := L.getLastD ByteArray.empty
def linesOf (s : ByteArray) : List ByteArray :=
  if (lastOf (pieces s (ByteArray.mk #[10]))).toList.isEmpty then (pieces s (ByteArray.mk #[10])).dropLast else pieces s (ByteArray.mk #[10])

theorem last_at {L : List ByteArray} {m : Nat} (hm : L.length = m + 1) : L[m]? = some (lastOf L) := by
  have h : L ≠ [] := by intro h; rw [h] at hm; cases hm
  unfold lastOf
  rw [List.getLastD_eq_getLast?, List.getLast?_eq_getElem?, show L.length - 1 = m by omega, List.getElem?_eq_getElem (by omega)]
  rfl

def CutPost (L : List ByteArray) (m : Nat) (x : ByteArray) (w : World) (e : Ending) (w' : World) : Prop :=
  ∃ g cap, e = .returned (.slice (some ⟨g, 0, none⟩) (m + 1) cap) ∧ w.heap.size ≤ g ∧ g < w'.heap.size ∧ m + 1 ≤ cap ∧ w'.cell? ⟨g, m, none⟩ = some (.string x) ∧
    Strs w' 9 w.heap.size (.slice (some ⟨g, 0, none⟩) (m + 1) cap) L ∧ Below w.heap.size w w'
theorem CutPost_of {L : List ByteArray} {m : Nat} {w w' : World} {e : Ending} (hm : L.length = m + 1) (h : OwnPost L w e w') : CutPost L m (lastOf L) w e w' := by
  obtain ⟨g, cap, rfl, h1, h2, hS, hb⟩ := h
  have hc := Strs_cell hS (i := m) (by omega)
  have hl := last_at hm
  rw [List.getElem?_eq_getElem (by omega)] at hl
  have hcap : L.length ≤ cap := by
    rcases Strs_cases hS with ⟨h, _⟩ | ⟨g', c', h, _, _, h4⟩
    · simp at h
    · simp at h; omega
  refine ⟨g, cap, by rw [hm], h1, h2, by omega, ?_, by rw [← hm]; exact hS, hb⟩
  rw [hc]; simp at hl; rw [hl]

theorem OwnPost_init {L : List ByteArray} {m g cap : Nat} {w w' : World} (hm : L.length = m + 1) (h1 : w.heap.size ≤ g) (h2 : g < w'.heap.size) (hS : Strs w' 9 w.heap.size (.slice (some ⟨g, 0, none⟩) (m + 1) cap) L) (hb : Below w.heap.size w w') :
    OwnPost L.dropLast w (.returned (.slice (some ⟨g, 0, none⟩) m cap)) w' := by
  have hl : L.dropLast.length = m := by simp; omega
  refine ⟨g, cap, by rw [hl], h1, h2, ?_, hb⟩
  rw [hl]; exact Strs_init hm hS
theorem OwnPost_all {L : List ByteArray} {m g cap : Nat} {w w' : World} (hm : L.length = m + 1) (h1 : w.heap.size ≤ g) (h2 : g < w'.heap.size) (hS : Strs w' 9 w.heap.size (.slice (some ⟨g, 0, none⟩) (m + 1) cap) L) (hb : Below w.heap.size w w') :
    OwnPost L w (.returned (.slice (some ⟨g, 0, none⟩) (m + 1) cap)) w' :=
  ⟨g, cap, by rw [hm], h1, h2, by rw [hm]; exact hS, hb⟩

theorem impl_SplitAny_own (s t : ByteArray) (hs : s.size ≤ 1048576) (ht : t.size ≤ 1048576) (w : World) : Calls Tryd.prog 9 #[.string s, .string t] w (OwnPost (pieces s t) w) :=
  (impl_SplitAny s t hs ht w).mono fun _ _ h => OwnPost_of (by have := pieces_len s t; omega) h

set_option maxHeartbeats 800000 in
theorem impl_SplitLines (s : ByteArray) (hs : s.size ≤ 1048576) (w : World) : Calls Tryd.prog 13 #[.string s] w (OwnPost (linesOf s) w) := by
  have hlen := pieces_len s (ByteArray.mk #[10])
  obtain ⟨m, hm⟩ : ∃ m, (pieces s (ByteArray.mk #[10])).length = m + 1 := ⟨(pieces s (ByteArray.mk #[10])).length - 1, by omega⟩
  have hmb : m ≤ 1048576 := by omega
  clear hlen
  have KS := hid ((impl_SplitAny_own s (ByteArray.mk #[10]) hs (by decide) w).mono fun _ _ h => CutPost_of hm h)
  have KM := hid hm
  clear hm
  unfold linesOf
  obtain ⟨x, hx⟩ : ∃ x, x = lastOf (pieces s (ByteArray.mk #[10])) := ⟨_, rfl⟩
  rw [← hx] at KS ⊢
  clear hx
  by_cases he : x.toList.isEmpty = true
  · rw [if_pos he]
    go_enter Tryd.func13, Tryd.ntmps13
    go_wp2_with fail
    refine KS.out.mono ?_
    rintro e w1 ⟨g, c, rfl, hg, hz, hcap, hcell, hS, hb⟩
    go_wp2_with fail
    go_ret
    exact OwnPost_init KM.out hg hz hS hb
  · have hf : x.toList.isEmpty = false := by simpa using he
    rw [if_neg he]
    clear he
    go_enter Tryd.func13, Tryd.ntmps13
    go_wp2_with fail
    refine KS.out.mono ?_
    rintro e w1 ⟨g, c, rfl, hg, hz, hcap, hcell, hS, hb⟩
    go_wp2_with fail
    go_ret
    exact OwnPost_all KM.out hg hz hS hb

theorem linesOf_len (s : ByteArray) : (linesOf s).length ≤ s.size + 1 := by
  have := pieces_len s (ByteArray.mk #[10])
  unfold linesOf
  split <;> simp <;> omega

end Go.Proofs.YthkhnifgkcgkmaaDoor
