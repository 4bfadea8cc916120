/- What SplitAny returns, said over bytes: the pieces of a string between the positions at which a test holds. No program text. -/
import Derived.WalkKit
import Derived.Lib.Hide
import Derived.Deep.Quiet
import Derived.WalkSmall
namespace Go.Proofs.YtleechafachkaaaDoor
open Go.RowKit
open Go.Lib (hid)

/-- Does the byte c occur among the first k bytes of t? -/
def hitTo (t : ByteArray) (c : UInt8) : Nat → Bool
  | 0 => false
  | k + 1 => hitTo t c k || (if h : k < t.size then t[k] == c else false)
def hitAt (s t : ByteArray) (i : Nat) : Bool := if h : i < s.size then hitTo t s[i] t.size else false

/-- After k bytes: the pieces, and where the next one begins. -/
def cutTo (s : ByteArray) (p : Nat → Bool) : Nat → List ByteArray × Nat
  | 0 => ([], 0)
  | k + 1 => if p k then ((cutTo s p k).1 ++ [s.extract (cutTo s p k).2 k], k + 1) else cutTo s p k

theorem cutTo_yes {s : ByteArray} {p : Nat → Bool} {k : Nat} (h : p k = true) : cutTo s p (k + 1) = ((cutTo s p k).1 ++ [s.extract (cutTo s p k).2 k], k + 1) := by
  simp [cutTo, h]
theorem cutTo_no {s : ByteArray} {p : Nat → Bool} {k : Nat} (h : p k = false) : cutTo s p (k + 1) = cutTo s p k := by
  simp [cutTo, h]
theorem cutTo_le (s : ByteArray) (p : Nat → Bool) : ∀ k, (cutTo s p k).2 ≤ k ∧ (cutTo s p k).1.length ≤ k
  | 0 => by simp [cutTo]
  | k + 1 => by
    have := cutTo_le s p k
    by_cases h : p k = true
    · rw [cutTo_yes h]; simp; omega
    · rw [cutTo_no (by simpa using h)]; omega
def pieces (s t : ByteArray) : List ByteArray := (cutTo s (hitAt s t) s.size).1 ++ [s.extract (cutTo s (hitAt s t) s.size).2 s.size]
theorem pieces_len (s t : ByteArray) : 1 ≤ (pieces s t).length ∧ (pieces s t).length ≤ s.size + 1 := by
  have := cutTo_le s (hitAt s t) s.size
  unfold pieces; simp; omega

/-- A slice of strings that owns its cells, from block number B on. -/
def Strs (w : World) (E B : Nat) (v : Value) (L : List ByteArray) : Prop := w.ownsRow B E 1 v L.length (L.map Value.string)

theorem Strs_nil (w : World) (E B : Nat) : Strs w E B (.slice none 0 0) [] := World.ownsRow_nil _ _ _ _
theorem Strs_snoc {w : World} {E B : Nat} {v : Value} {L : List ByteArray} {x : ByteArray} {n : Nat} {xs : List Value} (hn : n = L.length + 1) (hx : xs = L.map Value.string ++ [.string x])
    (h : w.ownsRow B E 1 v n xs) : Strs w E B v (L ++ [x]) := by
  subst hn; subst hx
  unfold Strs
  simpa using h
theorem Strs_drewN {w : World} {E B : Nat} {v : Value} {L : List ByteArray} (h : Strs w E B v L) (n : Nat) : Strs (w.drewN n) E B v L := h
theorem Strs_own {w : World} {E B : Nat} {v : Value} {L : List ByteArray} (h : Strs w E B v L) : ∀ k, v.ownBlock = some k → B ≤ k := fun k hk => (World.ownsRow.lt h k hk).1
theorem hitTo_no {t : ByteArray} {c : UInt8} {m : Nat} (hm : m < t.size) (h : hitTo t c m = false) (hne : ¬ c = t[m]) : hitTo t c (m + 1) = false := by
  have : ¬ t[m] = c := fun e => hne e.symm
  simp [hitTo, h, hm, this]
theorem hitTo_yes {t : ByteArray} {c : UInt8} {m : Nat} (hm : m < t.size) (he : c = t[m]) : hitTo t c (m + 1) = true := by
  simp [hitTo, hm, he]
theorem hitTo_mono {t : ByteArray} {c : UInt8} {m : Nat} (h : hitTo t c m = true) : ∀ n, m ≤ n → hitTo t c n = true := by
  intro n hn
  induction n with
  | zero => obtain rfl : m = 0 := by omega
            exact h
  | succ n ih =>
    by_cases e : m = n + 1
    · rw [← e]; exact h
    · simp [hitTo, ih (by omega)]
theorem hitAt_yes {s t : ByteArray} {k m : Nat} (hk : k < s.size) (hm : m < t.size) (he : s[k] = t[m]) : hitAt s t k = true := by
  simp only [hitAt, hk, dif_pos]
  exact hitTo_mono (hitTo_yes hm he) _ (by omega)
theorem hitAt_no {s t : ByteArray} {k : Nat} (hk : k < s.size) (h : hitTo t s[k] t.size = false) : hitAt s t k = false := by
  simp only [hitAt, hk, dif_pos, h]
theorem Strs_app {w0 w w1 : World} {E B : Nat} {v v' : Value} {L : List ByteArray} {x : ByteArray} {o : Obj} (h : Strs w E B v L) (hbel : Below B w0 w) (hB : B ≤ w.heap.size)
    (h' : w1.ownsRow B E 1 v' (L.length + 1) (L.map Value.string ++ [.string x])) (hg : (w.alloc o).grownBy w1 v.ownBlock) : Strs w1 E B v' (L ++ [x]) ∧ Below B w0 w1 :=
  ⟨Strs_snoc rfl rfl h', (hbel.alloc hB o).grown hg (by simp; omega) (Strs_own h)⟩
theorem cut_hit {s : ByteArray} {p : Nat → Bool} {k f : Nat} (hf : f = (cutTo s p k).2) (h : p k = true) : cutTo s p (k + 1) = ((cutTo s p k).1 ++ [s.extract f k], k + 1) := by
  rw [cutTo_yes h, hf]
theorem pieces_end {s t : ByteArray} {k f : Nat} (hf : f = (cutTo s (hitAt s t) k).2) (hk : k = s.size) : (cutTo s (hitAt s t) k).1 ++ [s.extract f s.size] = pieces s t := by
  subst hk; rw [hf]; rfl
/-- Block number B is a row of 256 bools: number c says whether the byte c is among the first k bytes of t. -/
def Tab (t : ByteArray) (T B : Nat) (w : World) (k : Nat) : Prop := ∃ cs : Array Value, w.heap[B]? = some (.cells cs T (0, 0)) ∧ cs.size = 256 ∧ ∀ c : UInt8, cs[c.toNat]? = some (.bool (hitTo t c k))
theorem Tab_start (t : ByteArray) (T : Nat) (w : World) : Tab t T w.heap.size (w.alloc (.cells (Array.replicate 256 (.bool false)) T)) 0 := by
  refine ⟨_, heap_alloc_new w _, by simp, fun c => ?_⟩
  have := c.toNat_lt
  simp [hitTo, Array.getElem?_replicate]; omega
theorem Tab_cell {t : ByteArray} {T B k : Nat} {w : World} (h : Tab t T B w k) (c : UInt8) : w.cell? ⟨B, c.toNat, none⟩ = some (.bool (hitTo t c k)) := by
  obtain ⟨cs, hb, _, hc⟩ := h
  simp [World.cell?, hb, hc c]
theorem Tab_free {t : ByteArray} {T B k : Nat} {w : World} (h : Tab t T B w k) (j : Nat) : w.frozen? ⟨B, j, none⟩ = false := by
  obtain ⟨cs, hb, _, hc⟩ := h
  simp [World.frozen?, hb]
theorem Tab_store {t : ByteArray} {T B k : Nat} {w : World} (h : Tab t T B w k) (hk : k < t.size) : Tab t T B (w.setCell ⟨B, t[k].toNat, none⟩ (.bool true)) (k + 1) := by
  obtain ⟨cs, hb, hz, hc⟩ := h
  refine ⟨cs.setIfInBounds t[k].toNat (.bool true), ?_, by simpa using hz, fun c => ?_⟩
  · simp [World.setCell, Array.getElem?_modify, hb]
  · by_cases e : c = t[k]
    · have hlt : t[k].toNat < cs.size := by rw [hz]; exact t[k].toNat_lt
      subst e
      simp [hlt, hitTo, hk]
    · have hne : ¬ t[k].toNat = c.toNat := fun g => e (UInt8.toNat_inj.mp g.symm)
      rw [Array.getElem?_setIfInBounds, if_neg hne, hc c]
      have hb : (t[k] == c) = false := by simpa using fun g : t[k] = c => e g.symm
      simp only [hitTo, hk, dif_pos, hb, Bool.or_false]
theorem Tab_below {t : ByteArray} {T B B' k : Nat} {w w' : World} (h : Tab t T B w k) (hb : Below B' w w') (hlt : B < B') : Tab t T B w' k := by
  obtain ⟨cs, h1, h2⟩ := h
  exact ⟨cs, (hb.block B hlt).trans h1, h2⟩
theorem Tab_lt {t : ByteArray} {T B k : Nat} {w : World} (h : Tab t T B w k) : B < w.heap.size := by
  obtain ⟨cs, h1, _⟩ := h
  exact (Array.getElem?_eq_some_iff.1 h1).1
theorem hitAt_is {s t : ByteArray} {k : Nat} (hk : k < s.size) : hitTo t s[k] t.size = hitAt s t k := by
  simp [hitAt, hk]
/-- What is owned above block B stays owned, what lies below stays as it was: an append's step for a row above the table. -/
theorem Strs_app_tab {w0 w w1 : World} {E T B : Nat} {v v' : Value} {L : List ByteArray} {x : ByteArray} {o : Obj} {t : ByteArray} {k : Nat} (h : Strs w E (B + 1) v L) (hbel : Below B w0 w) (ht : Tab t T B w k)
    (h' : w1.ownsRow (B + 1) E 1 v' (L.length + 1) (L.map Value.string ++ [.string x])) (hg : (w.alloc o).grownBy w1 v.ownBlock) : Strs w1 E (B + 1) v' (L ++ [x]) ∧ Below B w0 w1 ∧ Tab t T B w1 k := by
  have hlt := Tab_lt ht
  have R := Strs_app (w0 := w) h (Below.refl _ _) (by omega) h' hg
  exact ⟨R.1, hbel.trans (R.2.mono (by omega)), Tab_below ht R.2 (by omega)⟩
theorem Strs_base {w : World} {E B B' : Nat} {v : Value} {L : List ByteArray} (h : Strs w E B v L) (hB : B' ≤ B) : Strs w E B' v L := by
  refine ⟨h.1, ?_⟩
  rcases h.2 with g | ⟨b, cap, cur, h1, h2, h3⟩
  · exact .inl g
  · exact .inr ⟨b, cap, cur, h1, Nat.le_trans hB h2, h3⟩
/-- What a slice of strings of the call's own looks like: nil, or the head of a block. -/
theorem Strs_cases {w : World} {E B : Nat} {v : Value} {L : List ByteArray} (h : Strs w E B v L) :
    (v = .slice none 0 0 ∧ L = []) ∨ ∃ g cap, v = .slice (some ⟨g, 0, none⟩) L.length cap ∧ B ≤ g ∧ g < w.heap.size ∧ L.length ≤ cap := by
  rcases h.2 with ⟨h1, h2⟩ | ⟨g, cap, cur, h1, h2, h3, h4, _⟩
  · exact .inl ⟨h1, List.length_eq_zero_iff.mp h2⟩
  · exact .inr ⟨g, cap, h1, h2, (Array.getElem?_eq_some_iff.1 h3).1, h4⟩
theorem Strs_cell {w : World} {E B g n cap : Nat} {L : List ByteArray} (h : Strs w E B (.slice (some ⟨g, 0, none⟩) n cap) L) {i : Nat} (hi : i < L.length) : w.cell? ⟨g, i, none⟩ = some (.string L[i]) := by
  have hn : n = L.length := by
    rcases h.2 with ⟨h1, _⟩ | ⟨g', cap', cur, h1, _⟩
    · simp at h1
    · simp at h1; exact h1.2.1
  subst hn
  rw [World.ownsRow.cellAt h i (by omega)]
  simp [hi]
theorem Strs_free {w : World} {E B g n cap : Nat} {L : List ByteArray} (h : Strs w E B (.slice (some ⟨g, 0, none⟩) n cap) L) (i : Nat) : w.frozen? ⟨g, i, none⟩ = false := by
  have hn : n = L.length := by
    rcases h.2 with ⟨h1, _⟩ | ⟨g', cap', cur, h1, _⟩
    · simp at h1
    · simp at h1; exact h1.2.1
  subst hn
  exact World.ownsRow.frozenAt h i
theorem Strs_store {w : World} {E B g n cap : Nat} {L : List ByteArray} (h : Strs w E B (.slice (some ⟨g, 0, none⟩) n cap) L) {i : Nat} (x : ByteArray) :
    Strs (w.setCell ⟨g, i, none⟩ (.string x)) E B (.slice (some ⟨g, 0, none⟩) n cap) (L.set i x) := by
  have hn : n = L.length := by
    rcases h.2 with ⟨h1, _⟩ | ⟨g', cap', cur, h1, _⟩
    · simp at h1
    · simp at h1; exact h1.2.1
  subst hn
  have := World.ownsRow.stored h i (.string x)
  unfold Strs
  rw [List.length_set, List.map_set]
  exact this.1
theorem Strs_below {w w' : World} {E B B' : Nat} {v : Value} {L : List ByteArray} (h : Strs w E B v L) (hb : Below B' w w') (hg : ∀ k, v.ownBlock = some k → k < B') : Strs w' E B v L := by
  refine ⟨h.1, ?_⟩
  rcases h.2 with g | ⟨b, cap, cur, h1, h2, h3, h4⟩
  · exact .inl g
  · exact .inr ⟨b, cap, cur, h1, h2, (hb.block b (hg b (by rw [h1]; rfl))).trans h3, h4⟩
end Go.Proofs.YtleechafachkaaaDoor
