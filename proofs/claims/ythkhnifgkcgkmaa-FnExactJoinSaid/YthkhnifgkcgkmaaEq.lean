/- The helpers of the exact laws over slices of strings: two that hold the same are equal; what was marked is held. -/
import Derived.Test.YthkhnifgkcgkmaaMark
import Derived.Deep.QuietTactic
import Derived.BigQuiet
import Derived.Deep.RegionHeld3
namespace Go.Proofs.Ythkhnifgkcgkmaa
open Go.RowKit
open Go.Lib (hid)

/-- A slice value that reads as the strings L. -/
def Row (w : World) (a : Option Addr) (n : Nat) (L : List ByteArray) : Prop := n = L.length ∧ (0 < L.length → ∃ g, a = some ⟨g, 0, none⟩ ∧ ∀ i (h : i < L.length), w.cell? ⟨g, i, none⟩ = some (.string L[i]))

def Drawn (r : Value) (w : World) (e : Ending) (w' : World) : Prop := e = .returned r ∧ ∃ d, w' = w.drewN d

set_option maxHeartbeats 800000 in
theorem eqStringS_same (a1 a2 : Option Addr) (n1 n2 c1 c2 : Nat) (L : List ByteArray) (hL : L.length ≤ 1073741824) (w : World) (h1 : Row w a1 n1 L) (h2 : Row w a2 n2 L) :
    Calls Try.prog 15 #[.slice a1 n1 c1, .slice a2 n2 c2] w (Drawn (.bool true) w) := by
  obtain ⟨rfl, H1⟩ := h1
  obtain ⟨rfl, H2⟩ := h2
  have G1 := hid H1
  have G2 := hid H2
  clear H1 H2
  go_enter Try.func15, Try.ntmps15
  go_wp2
  go_loopw [5] (fun i wr => ∃ (k d : Nat), k ≤ L.length ∧ i = .int .i64 k ∧ wr = w.drewN d) (fun i _ => L.length - (intOf i).toNat)
  case atStart => exact ⟨0, 0, Nat.zero_le _, rfl, rfl⟩
  case round =>
    obtain ⟨k, d, hk, rfl, rfl⟩ := hrel
    by_cases hlt : k < L.length
    · obtain ⟨g1, rfl, hc1⟩ := G1.out (by omega)
      obtain ⟨g2, rfl, hc2⟩ := G2.out (by omega)
      clear G1 G2
      have q1 := hc1 k hlt
      have q2 := hc2 k hlt
      clear hc1 hc2
      have a1 : (0 : Int) ≤ k := by omega
      have a2 : (k : Int) < L.length := by omega
      go_wp2
      go_quiet (fail)
      go_wp2
      go_roundw
      case rel => exact ⟨k + 1, d + nq, by omega, by go_num, by first | rfl | exact World.drewN_drewN _ _ _⟩
      case measure => simp [intOf]; omega
    · go_wp2
      go_ret
      exact ⟨rfl, d, rfl⟩

def marks (n : Nat) : List ByteArray := (List.range n).map fun i : Nat => mkT (1 + (i : Int))
theorem marks_len (n : Nat) : (marks n).length = n := by simp [marks]
theorem marks_at {n i : Nat} (h : i < (marks n).length) : (marks n)[i] = mkT (1 + (i : Int)) := by simp [marks]
/-- The list L with its first k places marked. -/
def marked (L : List ByteArray) (k : Nat) : List ByteArray := marks k ++ L.drop k
theorem marked_zero (L : List ByteArray) : marked L 0 = L := by simp [marked, marks]
theorem marked_len {L : List ByteArray} {k : Nat} (h : k ≤ L.length) : (marked L k).length = L.length := by simp [marked, marks_len]; omega
theorem marked_all (L : List ByteArray) : marked L L.length = marks L.length := by simp [marked]
theorem marked_set {L : List ByteArray} {k : Nat} (h : k < L.length) : (marked L k).set k (mkT (1 + (k : Int))) = marked L (k + 1) := by
  apply List.ext_getElem
  · simp [marked, marks_len]; omega
  · intro i h1 h2
    by_cases e : i = k
    · subst e
      simp [marked, marks]
    · rw [List.getElem_set_ne (Ne.symm e)]
      simp only [marked, List.getElem_append, marks_len]
      by_cases h3 : i < k
      · have h4 : i < k + 1 := by omega
        simp [marks, h3, h4]
      · have h4 : ¬ i < k + 1 := by omega
        simp only [h3, h4, dif_neg, not_false_eq_true, List.getElem_drop]
        congr 1; omega

def MarkPost (B : Nat) (v : Value) (n : Nat) (w : World) (e : Ending) (w' : World) : Prop := e = .returned (.int .i64 (1 + n)) ∧ Strs w' 9 B v (marks n) ∧ Below B w w'

set_option maxHeartbeats 800000 in
theorem markStringS_any (B g c : Nat) (L : List ByteArray) (hL : L.length ≤ 1073741000) (w : World) (hw : Strs w 9 B (.slice (some ⟨g, 0, none⟩) L.length c) L) (hB : B ≤ g) (hg : g < w.heap.size) :
    Calls Try.prog 16 #[.slice (some ⟨g, 0, none⟩) L.length c, .int .i64 1] w (MarkPost B (.slice (some ⟨g, 0, none⟩) L.length c) L.length w) := by
  go_enter Try.func16, Try.ntmps16
  go_wp2
  go_loopw [1, 5] (fun x i wr => ∃ (k : Nat), k ≤ L.length ∧ i = .int .i64 k ∧ x = .int .i64 (1 + k) ∧ Strs wr 9 B (.slice (some ⟨g, 0, none⟩) L.length c) (marked L k) ∧ Below B w wr) (fun _ i _ => L.length - (intOf i).toNat)
  case atStart => exact ⟨0, Nat.zero_le _, rfl, rfl, by rw [marked_zero]; exact hw, Below.refl _ _⟩
  case round =>
    obtain ⟨k, hk, rfl, rfl, hown, hbel⟩ := hrel
    have hsz := hbel.size
    by_cases hlt : k < L.length
    · have a1 : (0 : Int) ≤ k := by omega
      have a2 : (k : Int) < L.length := by omega
      have hl := marked_len (L := L) (k := k) (by omega)
      go_wp2_with (go_at_call 29; refine (markText_any _ (by omega) (by omega) _).mono ?_; rintro e w1 ⟨rfl, hb1⟩; have hown1 := Strs_below hown hb1 (by intro q hq; simp [Value.ownBlock] at hq; omega); have hbel1 := hbel.trans (hb1.mono (by omega)); have hcell := Strs_cell hown1 (show k < _ by omega); have hfree := Strs_free hown1 k; have hst := hid (Strs_store hown1 (i := k) (mkT (1 + (k : Int)))); clear hown1 hown hbel hb1)
      go_roundw
      case rel =>
        have hs := hst.out
        rw [marked_set hlt] at hs
        exact ⟨k + 1, by omega, by go_num, by rw [show ((k + 1 : Nat) : Int) = (k : Int) + 1 by omega, Int.add_assoc], hs, hbel1.setCell hB _⟩
      case measure => simp [intOf]; omega
    · obtain rfl : k = L.length := by omega
      go_wp2
      go_ret
      rw [marked_all] at hown
      exact ⟨rfl, hown, hbel⟩

def HeldPost (n : Nat) (w : World) (e : Ending) (w' : World) : Prop := e = .returned (.int .i64 (1 + n)) ∧ Below w.heap.size w w'

set_option maxHeartbeats 800000 in
theorem heldStringS_any (B g c n : Nat) (hn : n ≤ 1073741000) (w : World) (hw : Strs w 9 B (.slice (some ⟨g, 0, none⟩) n c) (marks n)) (hg : g < w.heap.size) :
    Calls Try.prog 17 #[.slice (some ⟨g, 0, none⟩) n c, .int .i64 1] w (HeldPost n w) := by
  go_enter Try.func17, Try.ntmps17
  go_wp2
  go_loopw [1, 5] (fun x i wr => ∃ (k : Nat), k ≤ n ∧ i = .int .i64 k ∧ x = .int .i64 (1 + k) ∧ Below w.heap.size w wr) (fun _ i _ => n - (intOf i).toNat)
  case atStart => exact ⟨0, Nat.zero_le _, rfl, rfl, Below.refl _ _⟩
  case round =>
    obtain ⟨k, hk, rfl, rfl, hbel⟩ := hrel
    have hsz := hbel.size
    by_cases hlt : k < n
    · have a1 : (0 : Int) ≤ k := by omega
      have a2 : (k : Int) < n := by omega
      have hcell : wr.cell? ⟨g, k, none⟩ = some (.string (mkT (1 + (k : Int)))) := by
        rw [hbel.cell (p := ⟨g, k, none⟩) hg, Strs_cell hw (i := k) (by rw [marks_len]; exact hlt), marks_at]
      go_wp2_with fail
      go_region_held3 (fun w' => w'.cell? ⟨g, k, none⟩ = some (.string (mkT (1 + (k : Int))))) (first | go_keep | (rw [hb1.cell (p := ⟨g, k, none⟩) (by simp; omega)]; simp [*])) (first | (go_at_call 29; refine (markText_any _ (by omega) (by omega) _).mono ?_; rintro e w1 ⟨rfl, hb1⟩))
      go_wp2
      go_roundw
      case rel =>
        exact ⟨k + 1, by omega, by go_num, by rw [show ((k + 1 : Nat) : Int) = (k : Int) + 1 by omega, Int.add_assoc], hbel.drew.trans (hb1.mono hsz)⟩
      case measure => simp [intOf]; omega
    · obtain rfl : k = n := by omega
      go_wp2
      go_ret
      exact ⟨rfl, hbel⟩

/-- A function's own slice of strings, not nil. -/
def OwnPost (L : List ByteArray) (w : World) (e : Ending) (w' : World) : Prop :=
  ∃ g cap, e = .returned (.slice (some ⟨g, 0, none⟩) L.length cap) ∧ w.heap.size ≤ g ∧ g < w'.heap.size ∧ Strs w' 9 w.heap.size (.slice (some ⟨g, 0, none⟩) L.length cap) L ∧ Below w.heap.size w w'
theorem OwnPost_of {L : List ByteArray} {w w' : World} {e : Ending} (hL : 0 < L.length) (h : ∃ v, e = .returned v ∧ Strs w' 9 w.heap.size v L ∧ Below w.heap.size w w') : OwnPost L w e w' := by
  obtain ⟨v, rfl, hs, hb⟩ := h
  rcases Strs_cases hs with ⟨_, h0⟩ | ⟨g, cap, rfl, h1, h2, _⟩
  · rw [h0] at hL; cases hL
  · exact ⟨g, cap, rfl, h1, h2, hs, hb⟩
theorem Row_of {w : World} {B g cap : Nat} {L : List ByteArray} (h : Strs w 9 B (.slice (some ⟨g, 0, none⟩) L.length cap) L) : Row w (some ⟨g, 0, none⟩) L.length L :=
  ⟨rfl, fun _ => ⟨g, rfl, fun _ hi => Strs_cell h hi⟩⟩
theorem Row_below {w w' : World} {B B' g cap : Nat} {L : List ByteArray} (h : Strs w 9 B (.slice (some ⟨g, 0, none⟩) L.length cap) L) (hb : Below B' w w') (hg : g < B') : Row w' (some ⟨g, 0, none⟩) L.length L :=
  Row_of (Strs_below h hb (by intro k hk; simp [Value.ownBlock] at hk; omega))
theorem Strs_keep {w w' : World} {B B' g n cap : Nat} {L : List ByteArray} (h : Strs w 9 B (.slice (some ⟨g, 0, none⟩) n cap) L) (hb : Below B' w w') (hg : g < B') : Strs w' 9 B (.slice (some ⟨g, 0, none⟩) n cap) L :=
  Strs_below h hb (by intro k hk; simp [Value.ownBlock] at hk; omega)
theorem Strs_init {w : World} {E B g m cap : Nat} {L : List ByteArray} (hm : L.length = m + 1) (h : Strs w E B (.slice (some ⟨g, 0, none⟩) (m + 1) cap) L) : Strs w E B (.slice (some ⟨g, 0, none⟩) m cap) L.dropLast := by
  obtain ⟨h1, h2⟩ := h
  rcases h2 with ⟨h2, _⟩ | ⟨g', cap', cur, h2, h3, h4, h5, h6, h7, h8⟩
  · simp at h2
  · simp at h2
    obtain ⟨rfl, _, rfl⟩ := h2
    have hl : L.dropLast.length = m := by simp; omega
    refine ⟨by simp, .inr ⟨g, cap, cur, by rw [hl], h3, h4, by rw [hl]; omega, h6, h7, ?_⟩⟩
    have e : L.dropLast.map Value.string = (L.map Value.string).take (L.dropLast.length * 1) := by
      rw [List.dropLast_eq_take, List.map_take, ← List.dropLast_eq_take]
      congr 1
      simp
    rw [e, ← h8, List.take_take]
    congr 1; rw [hl]; omega
end Go.Proofs.Ythkhnifgkcgkmaa
