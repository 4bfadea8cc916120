/- The helpers of the exact laws over slices of strings: two that hold the same are equal; what was markedS is held. -/
import Derived.Test.YtleechafachkaaaDoorMark
import Derived.Deep.QuietTactic
import Derived.BigQuiet
import Derived.Deep.RegionHeld3
namespace Go.Proofs.YtleechafachkaaaDoor
open Go.RowKit
open Go.Lib (hid)

/-- A slice value that reads as the strings L. -/
def Row (w : World) (a : Option Addr) (n : Nat) (L : List ByteArray) : Prop := n = L.length ∧ (0 < L.length → ∃ g, a = some ⟨g, 0, none⟩ ∧ ∀ i (h : i < L.length), w.cell? ⟨g, i, none⟩ = some (.string L[i]))

def DrawnS (r : Value) (w : World) (e : Ending) (w' : World) : Prop := e = .returned r ∧ ∃ d, w' = w.drewN d


def marksS (n : Nat) : List ByteArray := (List.range n).map fun i : Nat => mkT (1 + (i : Int))
theorem marks_lenS (n : Nat) : (marksS n).length = n := by simp [marksS]
theorem marks_atS {n i : Nat} (h : i < (marksS n).length) : (marksS n)[i] = mkT (1 + (i : Int)) := by simp [marksS]
/-- The list L with its first k places markedS. -/
def markedS (L : List ByteArray) (k : Nat) : List ByteArray := marksS k ++ L.drop k
theorem marked_zeroS (L : List ByteArray) : markedS L 0 = L := by simp [markedS, marksS]
theorem marked_lenS {L : List ByteArray} {k : Nat} (h : k ≤ L.length) : (markedS L k).length = L.length := by simp [markedS, marks_lenS]; omega
theorem marked_allS (L : List ByteArray) : markedS L L.length = marksS L.length := by simp [markedS]
theorem marked_setS {L : List ByteArray} {k : Nat} (h : k < L.length) : (markedS L k).set k (mkT (1 + (k : Int))) = markedS L (k + 1) := by
  apply List.ext_getElem
  · simp [markedS, marks_lenS]; omega
  · intro i h1 h2
    by_cases e : i = k
    · subst e
      simp [markedS, marksS]
    · rw [List.getElem_set_ne (Ne.symm e)]
      simp only [markedS, List.getElem_append, marks_lenS]
      by_cases h3 : i < k
      · have h4 : i < k + 1 := by omega
        simp [marksS, h3, h4]
      · have h4 : ¬ i < k + 1 := by omega
        simp only [h3, h4, dif_neg, not_false_eq_true, List.getElem_drop]
        congr 1; omega

def MarkPost (B : Nat) (v : Value) (n : Nat) (w : World) (e : Ending) (w' : World) : Prop := e = .returned (.int .i64 (1 + n)) ∧ Strs w' 9 B v (marksS n) ∧ Below B w w'


def HeldPost (n : Nat) (w : World) (e : Ending) (w' : World) : Prop := e = .returned (.int .i64 (1 + n)) ∧ Below w.heap.size w w'


/-- A function's own slice of strings, not nil. -/
def OwnPost (L : List ByteArray) (w : World) (e : Ending) (w' : World) : Prop :=
  ∃ g cap, e = .returned (.slice (some ⟨g, 0, none⟩) L.length cap) ∧ w.heap.size ≤ g ∧ g < w'.heap.size ∧ Strs w' 9 w.heap.size (.slice (some ⟨g, 0, none⟩) L.length cap) L ∧ Below w.heap.size w w'
theorem OwnPost_of {L : List ByteArray} {w w' : World} {e : Ending} (hL : 0 < L.length) (h : ∃ v, e = .returned v ∧ Strs w' 9 w.heap.size v L ∧ Below w.heap.size w w') : OwnPost L w e w' := by
  obtain ⟨v, rfl, hs, hb⟩ := h
  rcases Strs_cases hs with ⟨_, h0⟩ | ⟨g, cap, rfl, h1, h2, _⟩
  · rw [h0] at hL; cases hL
  · exact ⟨g, cap, rfl, h1, h2, hs, hb⟩
theorem Row_of {w : World} {B g cap : Nat} {L : List ByteArray} (h : Strs w 9 B (.slice (some ⟨g, 0, none⟩) L.length cap) L) : Row w (some ⟨g, 0, none⟩) L.length L :=
  ⟨rfl, fun _ => ⟨g, rfl, fun _ hi => Strs_cell h hi⟩⟩
theorem Row_below {w w' : World} {B B' g cap : Nat} {L : List ByteArray} (h : Strs w 9 B (.slice (some ⟨g, 0, none⟩) L.length cap) L) (hb : Below B' w w') (hg : g < B') : Row w' (some ⟨g, 0, none⟩) L.length L :=
  Row_of (Strs_below h hb (by intro k hk; simp [Value.ownBlock] at hk; omega))
theorem Strs_keep {w w' : World} {B B' g n cap : Nat} {L : List ByteArray} (h : Strs w 9 B (.slice (some ⟨g, 0, none⟩) n cap) L) (hb : Below B' w w') (hg : g < B') : Strs w' 9 B (.slice (some ⟨g, 0, none⟩) n cap) L :=
  Strs_below h hb (by intro k hk; simp [Value.ownBlock] at hk; omega)
theorem Strs_init {w : World} {E B g m cap : Nat} {L : List ByteArray} (hm : L.length = m + 1) (h : Strs w E B (.slice (some ⟨g, 0, none⟩) (m + 1) cap) L) : Strs w E B (.slice (some ⟨g, 0, none⟩) m cap) L.dropLast := by
  obtain ⟨h1, h2⟩ := h
  rcases h2 with ⟨h2, _⟩ | ⟨g', cap', cur, h2, h3, h4, h5, h6, h7, h8⟩
  · simp at h2
  · simp at h2
    obtain ⟨rfl, _, rfl⟩ := h2
    have hl : L.dropLast.length = m := by simp; omega
    refine ⟨by simp, .inr ⟨g, cap, cur, by rw [hl], h3, h4, by rw [hl]; omega, h6, h7, ?_⟩⟩
    have e : L.dropLast.map Value.string = (L.map Value.string).take (L.dropLast.length * 1) := by
      rw [List.dropLast_eq_take, List.map_take, ← List.dropLast_eq_take]
      congr 1
      simp
    rw [e, ← h8, List.take_take]
    congr 1; rw [hl]; omega
end Go.Proofs.YtleechafachkaaaDoor
