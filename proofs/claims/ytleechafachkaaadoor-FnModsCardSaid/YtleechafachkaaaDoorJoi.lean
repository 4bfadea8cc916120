/- Join: lists of strings laid end to end with a separator, as the reference's loop builds them and as the library's function does. No program text. -/
import Derived.Test.YtleechafachkaaaDoorEq
import Derived.Lib.Join
namespace Go.Proofs.YtleechafachkaaaDoor
open Go.RowKit
open Go.Lib (hid)

def sumSz : List ByteArray → Nat
  | [] => 0
  | x :: r => x.size + sumSz r
theorem sumSz_take {L : List ByteArray} {k : Nat} (h : k < L.length) : sumSz (L.take (k + 1)) = sumSz (L.take k) + L[k].size := by
  induction L generalizing k with
  | nil => simp at h
  | cons x r ih =>
    cases k with
    | zero => simp [sumSz]
    | succ k =>
      have := ih (k := k) (by simpa using h)
      simp only [List.take_succ_cons, sumSz, List.getElem_cons_succ, this]; omega
theorem sumSz_take_le (L : List ByteArray) (k : Nat) : sumSz (L.take k) ≤ sumSz L := by
  induction L generalizing k with
  | nil => simp
  | cons x r ih =>
    cases k with
    | zero => simp [sumSz]
    | succ k => have := ih k; simp only [List.take_succ_cons, sumSz]; omega

/-- What the loop has built after k elements. -/
def joinK (L : List ByteArray) (sep : ByteArray) : Nat → ByteArray
  | 0 => ByteArray.mk #[]
  | k + 1 => (if 0 < k then joinK L sep k ++ sep else joinK L sep k) ++ L.getD k ByteArray.empty
theorem joinK_first (L : List ByteArray) (sep : ByteArray) (h : 0 < L.length) : joinK L sep 1 = ByteArray.mk #[] ++ L[0] := by
  simp [joinK, h]
theorem joinK_next {L : List ByteArray} {sep : ByteArray} {k : Nat} (h : k < L.length) (h0 : 0 < k) : joinK L sep (k + 1) = (joinK L sep k ++ sep) ++ L[k] := by
  simp [joinK, h, h0]
theorem joinK_size {L : List ByteArray} {sep : ByteArray} : ∀ k, k ≤ L.length → (joinK L sep k).size ≤ sumSz (L.take k) + k * sep.size
  | 0, _ => Nat.zero_le _
  | k + 1, h => by
    have ih := joinK_size (L := L) (sep := sep) k (by omega)
    have hs := sumSz_take (L := L) (k := k) (by omega)
    have hm : (k + 1) * sep.size = k * sep.size + sep.size := by rw [Nat.succ_mul]
    cases k with
    | zero =>
      rw [joinK_first L sep (by omega), ByteArray.size_append', hs]
      show 0 + _ ≤ _
      omega
    | succ k =>
      rw [joinK_next (by omega) (by omega), ByteArray.size_append', ByteArray.size_append', hs]
      omega
theorem append_list (a b : ByteArray) : (a ++ b).data.toList = a.data.toList ++ b.data.toList := by
  simp
theorem joinTail_snoc (sep x : List UInt8) (r : List (List UInt8)) : Lib.joinTail sep (r ++ [x]) = Lib.joinTail sep r ++ (sep ++ x) := by
  simp [Lib.joinTail]
theorem joinK_list {L : List ByteArray} {sep : ByteArray} {x : ByteArray} {r : List ByteArray} (hL : L = x :: r) : ∀ k, k < L.length → (joinK L sep (k + 1)).data.toList = x.data.toList ++ Lib.joinTail sep.data.toList ((r.take k).map (·.data.toList))
  | 0, h => by
    rw [joinK_first L sep (by omega), append_list]
    subst hL
    simp [Lib.joinTail]
  | k + 1, h => by
    have ih := joinK_list (sep := sep) hL k (by omega)
    rw [joinK_next h (by omega), append_list, append_list, ih]
    subst hL
    have hk : k < r.length := by simpa using h
    rw [List.take_succ_eq_append_getElem hk, List.map_append, List.map_cons, List.map_nil, joinTail_snoc]
    simp
theorem joinK_all (L : List ByteArray) (sep : ByteArray) : joinK L sep L.length = ⟨(Lib.join (L.map (·.data.toList)) sep.data.toList).toArray⟩ := by
  apply WideShapes.bytes_inj
  cases hL : L with
  | nil => simp [joinK, Lib.join_nil]
  | cons x r =>
    have h := joinK_list (sep := sep) hL r.length (by rw [hL]; simp)
    rw [← hL, show L.length = r.length + 1 by rw [hL]; rfl, h, hL, List.map_cons, Lib.join_cons]
    simp
theorem joinL_len (L : List ByteArray) (sep : ByteArray) : (Lib.join (L.map (·.data.toList)) sep.data.toList).length ≤ sumSz L + L.length * sep.size := by
  have h := joinK_size (L := L) (sep := sep) L.length (Nat.le_refl _)
  rw [joinK_all, List.take_length] at h
  exact h

/-- The list L with all places from k on still empty. -/
def filled (L : List ByteArray) (k : Nat) : List ByteArray := L.take k ++ List.replicate (L.length - k) (ByteArray.mk #[])
theorem filled_len {L : List ByteArray} {k : Nat} (h : k ≤ L.length) : (filled L k).length = L.length := by simp [filled]; omega
theorem filled_all (L : List ByteArray) : filled L L.length = L := by simp [filled]
theorem filled_set {L : List ByteArray} {k : Nat} (h : k < L.length) : (filled L k).set k L[k] = filled L (k + 1) := by
  have e : L.length - k = (L.length - (k + 1)) + 1 := by omega
  have hk : (L.take k).length = k := by simp; omega
  unfold filled
  rw [e, List.replicate_succ, List.set_append, if_neg (by omega), hk, Nat.sub_self, List.set_cons_zero, List.take_succ_eq_append_getElem h, List.append_assoc]
  rfl

/-- A slice of strings that came in: its elements are L. -/
def RowO (w : World) (a : Option Addr) (n : Nat) (L : List ByteArray) : Prop :=
  n = L.length ∧ (0 < L.length → ∃ g o, a = some ⟨g, o, none⟩ ∧ g < w.heap.size ∧ ∀ i (h : i < L.length), w.cell? ⟨g, o + i, none⟩ = some (.string L[i]))
theorem RowO_below {w w' : World} {a : Option Addr} {n : Nat} {L : List ByteArray} (h : RowO w a n L) (hb : Below w.heap.size w w') : RowO w' a n L := by
  refine ⟨h.1, fun h0 => ?_⟩
  obtain ⟨g, o, e, hg, hc⟩ := h.2 h0
  exact ⟨g, o, e, Nat.lt_of_lt_of_le hg hb.size, fun i hi => (hb.cell (p := ⟨g, o + i, none⟩) hg).trans (hc i hi)⟩
end Go.Proofs.YtleechafachkaaaDoor
