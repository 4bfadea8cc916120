/- The text of a vector (the program and the reference). -/
import Derived.Test.YthkehmnodcmlcaaGreatDoorVf
import Derived.Test.YthkehmnodcmlcaaGreatDoorFf
import Derived.Test.YthkehmnodcmlcaaGreatDoorDtx
import Derived.Test.YthkehmnodcmlcaaGreatDoorFnb
import Derived.Deep.RegionHeld3
import Derived.Deep.DeepCutAuto
namespace Go.Proofs.YthkehmnodcmlcaaGreatDoor
open Go.RowKit
open Go.Lib (hid)
set_option linter.unusedVariables false

theorem fmtR_size {s : Bool} {A D : List Int} : (fmtR s A D).size ≤ 2602 := by
  unfold fmtR
  split
  · split
    · have := fmtB_size (s := s) (A := A); omega
    · rw [ByteArray.size_append, ByteArray.size_append]
      have h1 := fmtB_size (s := s) (A := A)
      have h2 := formatL_size (L := D)
      show _ + 1 + _ ≤ _
      omega
  · show 0 ≤ 2602; omega
def Fq.t (f : Fq) : ByteArray := fmtR f.s f.A f.D
def txs (K : List Fq) : List ByteArray := K.map Fq.t
theorem txs_len (K : List Fq) : (txs K).length = K.length := by simp [txs]
theorem txs_sum : ∀ K : List Fq, sumSz (txs K) ≤ K.length * 2602
  | [] => by simp [txs, sumSz]
  | f :: K => by
    have h1 := txs_sum K
    have h2 : (Fq.t f).size ≤ 2602 := fmtR_size
    simp only [txs, List.map_cons, sumSz, List.length_cons] at h1 ⊢
    omega
theorem txs_take {K : List Fq} {k : Nat} (h : k < K.length) : txs (K.take k) ++ [K[k].t] = txs (K.take (k + 1)) := by
  unfold txs
  rw [List.take_succ_eq_append_getElem h, List.map_append]; rfl
/-- The text of a vector (the empty text stands for a list that is none). -/
def fmtV (K : List Fq) : ByteArray := if oks (vals K) = true then (if K.length = 0 then ByteArray.mk #[45] else joinK (txs K) (ByteArray.mk #[32]) K.length) else ByteArray.mk #[]
theorem Strs_old {w w' : World} {E B : Nat} {v : Value} {L : List ByteArray} (h : Strs w E B v L) (hb : Below w.heap.size w w') : Strs w' E B v L := Strs_below h hb fun k hk => (World.ownsRow.lt h k hk).2
theorem Strs_sh {w : World} {E B n c : Nat} {a : Option Addr} {L : List ByteArray} (h : Strs w E B (.slice a n c) L) : n = L.length ∧ (0 < L.length → ∃ g, a = some ⟨g, 0, none⟩ ∧ g < w.heap.size) ∧ L.length ≤ c := by
  rcases h.2 with ⟨h1, h2⟩ | ⟨g, cap, cur, h1, h2, h3, h4, -⟩
  · simp only [Value.slice.injEq] at h1
    exact ⟨by omega, fun h0 => by omega, by omega⟩
  · simp only [Value.slice.injEq] at h1
    exact ⟨h1.2.1, fun _ => ⟨g, h1.1, (Array.getElem?_eq_some_iff.1 h3).1⟩, by rw [h1.2.2]; exact h4⟩
end Go.Proofs.YthkehmnodcmlcaaGreatDoor
