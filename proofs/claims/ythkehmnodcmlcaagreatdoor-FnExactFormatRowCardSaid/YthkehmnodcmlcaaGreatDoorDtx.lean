/- Merged: Cut Mark Eq Joi Pad SplA JoiA Fmt FmtW. -/
import Derived.WalkKit
import Derived.Lib.Hide
import Derived.Deep.Quiet
import Derived.WalkSmall
import Derived.Test.YthkehmnodcmlcaaGreatDoorProg
import Derived.Laws.IdiomStrings
import Derived.Maps.AppendAt
import Derived.Deep.QuietTactic
import Derived.BigQuiet
import Derived.Deep.RegionHeld3
import Derived.Lib.Join
import Derived.Test.YthkehmnodcmlcaaGreatDoorShelf
import Derived.Test.YthkehmnodcmlcaaGreatDoorShelg
import Derived.OwnWalk
import Derived.Lib.ItoaNum
import Derived.IntWalk
import Derived.Deep.RegionWith
/- What SplitAny returns, said over bytes: the pieces of a string between the positions at which a test holds. No program text. -/
namespace Go.Proofs.YthkehmnodcmlcaaGreatDoor
open Go.RowKit
open Go.Lib (hid)

/-- Does the byte c occur among the first k bytes of t? -/
def hitTo (t : ByteArray) (c : UInt8) : Nat → Bool
  | 0 => false
  | k + 1 => hitTo t c k || (if h : k < t.size then t[k] == c else false)
def hitAt (s t : ByteArray) (i : Nat) : Bool := if h : i < s.size then hitTo t s[i] t.size else false

/-- After k bytes: the pieces, and where the next one begins. -/
def cutTo (s : ByteArray) (p : Nat → Bool) : Nat → List ByteArray × Nat
  | 0 => ([], 0)
  | k + 1 => if p k then ((cutTo s p k).1 ++ [s.extract (cutTo s p k).2 k], k + 1) else cutTo s p k

theorem cutTo_yes {s : ByteArray} {p : Nat → Bool} {k : Nat} (h : p k = true) : cutTo s p (k + 1) = ((cutTo s p k).1 ++ [s.extract (cutTo s p k).2 k], k + 1) := by
  simp [cutTo, h]
theorem cutTo_no {s : ByteArray} {p : Nat → Bool} {k : Nat} (h : p k = false) : cutTo s p (k + 1) = cutTo s p k := by
  simp [cutTo, h]
theorem cutTo_le (s : ByteArray) (p : Nat → Bool) : ∀ k, (cutTo s p k).2 ≤ k ∧ (cutTo s p k).1.length ≤ k
  | 0 => by simp [cutTo]
  | k + 1 => by
    have := cutTo_le s p k
    by_cases h : p k = true
    · rw [cutTo_yes h]; simp; omega
    · rw [cutTo_no (by simpa using h)]; omega
def pieces (s t : ByteArray) : List ByteArray := (cutTo s (hitAt s t) s.size).1 ++ [s.extract (cutTo s (hitAt s t) s.size).2 s.size]
theorem pieces_len (s t : ByteArray) : 1 ≤ (pieces s t).length ∧ (pieces s t).length ≤ s.size + 1 := by
  have := cutTo_le s (hitAt s t) s.size
  unfold pieces; simp; omega

/-- A slice of strings that owns its cells, from block number B on. -/
def Strs (w : World) (E B : Nat) (v : Value) (L : List ByteArray) : Prop := w.ownsRow B E 1 v L.length (L.map Value.string)

theorem Strs_nil (w : World) (E B : Nat) : Strs w E B (.slice none 0 0) [] := World.ownsRow_nil _ _ _ _
theorem Strs_snoc {w : World} {E B : Nat} {v : Value} {L : List ByteArray} {x : ByteArray} {n : Nat} {xs : List Value} (hn : n = L.length + 1) (hx : xs = L.map Value.string ++ [.string x])
    (h : w.ownsRow B E 1 v n xs) : Strs w E B v (L ++ [x]) := by
  subst hn; subst hx
  unfold Strs
  simpa using h
theorem Strs_drewN {w : World} {E B : Nat} {v : Value} {L : List ByteArray} (h : Strs w E B v L) (n : Nat) : Strs (w.drewN n) E B v L := h
theorem Strs_own {w : World} {E B : Nat} {v : Value} {L : List ByteArray} (h : Strs w E B v L) : ∀ k, v.ownBlock = some k → B ≤ k := fun k hk => (World.ownsRow.lt h k hk).1
theorem hitTo_no {t : ByteArray} {c : UInt8} {m : Nat} (hm : m < t.size) (h : hitTo t c m = false) (hne : ¬ c = t[m]) : hitTo t c (m + 1) = false := by
  have : ¬ t[m] = c := fun e => hne e.symm
  simp [hitTo, h, hm, this]
theorem hitTo_yes {t : ByteArray} {c : UInt8} {m : Nat} (hm : m < t.size) (he : c = t[m]) : hitTo t c (m + 1) = true := by
  simp [hitTo, hm, he]
theorem hitTo_mono {t : ByteArray} {c : UInt8} {m : Nat} (h : hitTo t c m = true) : ∀ n, m ≤ n → hitTo t c n = true := by
  intro n hn
  induction n with
  | zero => obtain rfl : m = 0 := by omega
            exact h
  | succ n ih =>
    by_cases e : m = n + 1
    · rw [← e]; exact h
    · simp [hitTo, ih (by omega)]
theorem hitAt_yes {s t : ByteArray} {k m : Nat} (hk : k < s.size) (hm : m < t.size) (he : s[k] = t[m]) : hitAt s t k = true := by
  simp only [hitAt, hk, dif_pos]
  exact hitTo_mono (hitTo_yes hm he) _ (by omega)
theorem hitAt_no {s t : ByteArray} {k : Nat} (hk : k < s.size) (h : hitTo t s[k] t.size = false) : hitAt s t k = false := by
  simp only [hitAt, hk, dif_pos, h]
theorem Strs_app {w0 w w1 : World} {E B : Nat} {v v' : Value} {L : List ByteArray} {x : ByteArray} {o : Obj} (h : Strs w E B v L) (hbel : Below B w0 w) (hB : B ≤ w.heap.size)
    (h' : w1.ownsRow B E 1 v' (L.length + 1) (L.map Value.string ++ [.string x])) (hg : (w.alloc o).grownBy w1 v.ownBlock) : Strs w1 E B v' (L ++ [x]) ∧ Below B w0 w1 :=
  ⟨Strs_snoc rfl rfl h', (hbel.alloc hB o).grown hg (by simp; omega) (Strs_own h)⟩
theorem cut_hit {s : ByteArray} {p : Nat → Bool} {k f : Nat} (hf : f = (cutTo s p k).2) (h : p k = true) : cutTo s p (k + 1) = ((cutTo s p k).1 ++ [s.extract f k], k + 1) := by
  rw [cutTo_yes h, hf]
theorem pieces_end {s t : ByteArray} {k f : Nat} (hf : f = (cutTo s (hitAt s t) k).2) (hk : k = s.size) : (cutTo s (hitAt s t) k).1 ++ [s.extract f s.size] = pieces s t := by
  subst hk; rw [hf]; rfl
/-- Block number B is a row of 256 bools: number c says whether the byte c is among the first k bytes of t. -/
def Tab (t : ByteArray) (T B : Nat) (w : World) (k : Nat) : Prop := ∃ cs : Array Value, w.heap[B]? = some (.cells cs T (0, 0)) ∧ cs.size = 256 ∧ ∀ c : UInt8, cs[c.toNat]? = some (.bool (hitTo t c k))
theorem Tab_start (t : ByteArray) (T : Nat) (w : World) : Tab t T w.heap.size (w.alloc (.cells (Array.replicate 256 (.bool false)) T)) 0 := by
  refine ⟨_, heap_alloc_new w _, by simp, fun c => ?_⟩
  have := c.toNat_lt
  simp [hitTo, Array.getElem?_replicate]; omega
theorem Tab_cell {t : ByteArray} {T B k : Nat} {w : World} (h : Tab t T B w k) (c : UInt8) : w.cell? ⟨B, c.toNat, none⟩ = some (.bool (hitTo t c k)) := by
  obtain ⟨cs, hb, _, hc⟩ := h
  simp [World.cell?, hb, hc c]
theorem Tab_free {t : ByteArray} {T B k : Nat} {w : World} (h : Tab t T B w k) (j : Nat) : w.frozen? ⟨B, j, none⟩ = false := by
  obtain ⟨cs, hb, _, hc⟩ := h
  simp [World.frozen?, hb]
theorem Tab_store {t : ByteArray} {T B k : Nat} {w : World} (h : Tab t T B w k) (hk : k < t.size) : Tab t T B (w.setCell ⟨B, t[k].toNat, none⟩ (.bool true)) (k + 1) := by
  obtain ⟨cs, hb, hz, hc⟩ := h
  refine ⟨cs.setIfInBounds t[k].toNat (.bool true), ?_, by simpa using hz, fun c => ?_⟩
  · simp [World.setCell, Array.getElem?_modify, hb]
  · by_cases e : c = t[k]
    · have hlt : t[k].toNat < cs.size := by rw [hz]; exact t[k].toNat_lt
      subst e
      simp [hlt, hitTo, hk]
    · have hne : ¬ t[k].toNat = c.toNat := fun g => e (UInt8.toNat_inj.mp g.symm)
      rw [Array.getElem?_setIfInBounds, if_neg hne, hc c]
      have hb : (t[k] == c) = false := by simpa using fun g : t[k] = c => e g.symm
      simp only [hitTo, hk, dif_pos, hb, Bool.or_false]
theorem Tab_below {t : ByteArray} {T B B' k : Nat} {w w' : World} (h : Tab t T B w k) (hb : Below B' w w') (hlt : B < B') : Tab t T B w' k := by
  obtain ⟨cs, h1, h2⟩ := h
  exact ⟨cs, (hb.block B hlt).trans h1, h2⟩
theorem Tab_lt {t : ByteArray} {T B k : Nat} {w : World} (h : Tab t T B w k) : B < w.heap.size := by
  obtain ⟨cs, h1, _⟩ := h
  exact (Array.getElem?_eq_some_iff.1 h1).1
theorem hitAt_is {s t : ByteArray} {k : Nat} (hk : k < s.size) : hitTo t s[k] t.size = hitAt s t k := by
  simp [hitAt, hk]
/-- What is owned above block B stays owned, what lies below stays as it was: an append's step for a row above the table. -/
theorem Strs_app_tab {w0 w w1 : World} {E T B : Nat} {v v' : Value} {L : List ByteArray} {x : ByteArray} {o : Obj} {t : ByteArray} {k : Nat} (h : Strs w E (B + 1) v L) (hbel : Below B w0 w) (ht : Tab t T B w k)
    (h' : w1.ownsRow (B + 1) E 1 v' (L.length + 1) (L.map Value.string ++ [.string x])) (hg : (w.alloc o).grownBy w1 v.ownBlock) : Strs w1 E (B + 1) v' (L ++ [x]) ∧ Below B w0 w1 ∧ Tab t T B w1 k := by
  have hlt := Tab_lt ht
  have R := Strs_app (w0 := w) h (Below.refl _ _) (by omega) h' hg
  exact ⟨R.1, hbel.trans (R.2.mono (by omega)), Tab_below ht R.2 (by omega)⟩
theorem Strs_base {w : World} {E B B' : Nat} {v : Value} {L : List ByteArray} (h : Strs w E B v L) (hB : B' ≤ B) : Strs w E B' v L := by
  refine ⟨h.1, ?_⟩
  rcases h.2 with g | ⟨b, cap, cur, h1, h2, h3⟩
  · exact .inl g
  · exact .inr ⟨b, cap, cur, h1, Nat.le_trans hB h2, h3⟩
/-- What a slice of strings of the call's own looks like: nil, or the head of a block. -/
theorem Strs_cases {w : World} {E B : Nat} {v : Value} {L : List ByteArray} (h : Strs w E B v L) :
    (v = .slice none 0 0 ∧ L = []) ∨ ∃ g cap, v = .slice (some ⟨g, 0, none⟩) L.length cap ∧ B ≤ g ∧ g < w.heap.size ∧ L.length ≤ cap := by
  rcases h.2 with ⟨h1, h2⟩ | ⟨g, cap, cur, h1, h2, h3, h4, _⟩
  · exact .inl ⟨h1, List.length_eq_zero_iff.mp h2⟩
  · exact .inr ⟨g, cap, h1, h2, (Array.getElem?_eq_some_iff.1 h3).1, h4⟩
theorem Strs_cell {w : World} {E B g n cap : Nat} {L : List ByteArray} (h : Strs w E B (.slice (some ⟨g, 0, none⟩) n cap) L) {i : Nat} (hi : i < L.length) : w.cell? ⟨g, i, none⟩ = some (.string L[i]) := by
  have hn : n = L.length := by
    rcases h.2 with ⟨h1, _⟩ | ⟨g', cap', cur, h1, _⟩
    · simp at h1
    · simp at h1; exact h1.2.1
  subst hn
  rw [World.ownsRow.cellAt h i (by omega)]
  simp [hi]
theorem Strs_free {w : World} {E B g n cap : Nat} {L : List ByteArray} (h : Strs w E B (.slice (some ⟨g, 0, none⟩) n cap) L) (i : Nat) : w.frozen? ⟨g, i, none⟩ = false := by
  have hn : n = L.length := by
    rcases h.2 with ⟨h1, _⟩ | ⟨g', cap', cur, h1, _⟩
    · simp at h1
    · simp at h1; exact h1.2.1
  subst hn
  exact World.ownsRow.frozenAt h i
theorem Strs_store {w : World} {E B g n cap : Nat} {L : List ByteArray} (h : Strs w E B (.slice (some ⟨g, 0, none⟩) n cap) L) {i : Nat} (x : ByteArray) :
    Strs (w.setCell ⟨g, i, none⟩ (.string x)) E B (.slice (some ⟨g, 0, none⟩) n cap) (L.set i x) := by
  have hn : n = L.length := by
    rcases h.2 with ⟨h1, _⟩ | ⟨g', cap', cur, h1, _⟩
    · simp at h1
    · simp at h1; exact h1.2.1
  subst hn
  have := World.ownsRow.stored h i (.string x)
  unfold Strs
  rw [List.length_set, List.map_set]
  exact this.1
theorem Strs_below {w w' : World} {E B B' : Nat} {v : Value} {L : List ByteArray} (h : Strs w E B v L) (hb : Below B' w w') (hg : ∀ k, v.ownBlock = some k → k < B') : Strs w' E B v L := by
  refine ⟨h.1, ?_⟩
  rcases h.2 with g | ⟨b, cap, cur, h1, h2, h3, h4⟩
  · exact .inl g
  · exact .inr ⟨b, cap, cur, h1, h2, (hb.block b (hg b (by rw [h1]; rfl))).trans h3, h4⟩
end Go.Proofs.YthkehmnodcmlcaaGreatDoor

/- The helpers of the exact laws: a mark's text is a function of its number. -/
namespace Go.Proofs.YthkehmnodcmlcaaGreatDoor
open Go.RowKit
open Go.Lib (hid)

def mkF : Nat → Int → ByteArray → ByteArray
  | 0, _, acc => acc
  | f + 1, m, acc => if 0 < m then mkF f (m / 10) (ByteArray.mk [UInt8.ofNat (48 + m % 10).toNat].toArray ++ acc) else acc
/-- The text of the mark of number n (positive). -/
def mkTs (n : Int) : ByteArray := ByteArray.mk #[109] ++ mkF n.toNat n (ByteArray.mk #[])
theorem mkF_zero (f : Nat) (acc : ByteArray) : mkF f 0 acc = acc := by cases f <;> rfl
theorem mkF_step {f : Nat} {m : Int} {acc T : ByteArray} (h : mkF f m acc = T) (hf : m.toNat ≤ f) (hm : 0 < m) : ∃ g, (m / 10).toNat ≤ g ∧ mkF g (m / 10) (ByteArray.mk [UInt8.ofNat (48 + m % 10).toNat].toArray ++ acc) = T := by
  cases f with
  | zero => omega
  | succ g =>
    refine ⟨g, by omega, ?_⟩
    rw [← h]; simp [mkF, hm]

theorem conv1 (w : World) (z : Int) (h0 : 0 ≤ z) (h1 : z < 256) : (convert 102 9 (.slice (some ⟨w.heap.size, 0, none⟩) 1 1)).run Tryz.prog (w.alloc (.cells #[.int .u8 z] 5)) = .ok (.string ⟨[UInt8.ofNat z.toNat].toArray⟩) (w.alloc (.cells #[.int .u8 z] 5)) := by
  have e : (UInt8.ofNat z.toNat).toNat = z.toNat := by simp; omega
  refine run_convert_bytes_back (P := Tryz.prog) (w.alloc (.cells #[.int .u8 z] 5)) 102 9 5 ⟨w.heap.size, 0, none⟩ 1 [UInt8.ofNat z.toNat] Tryz.underlying102 Tryz.underlying5 Tryz.underlying9 (fun j hj => ?_)
  obtain rfl : j = 0 := by simp at hj; omega
  rw [cell_one_new w (.int .u8 z) 5 0 (.int .u8 z) rfl]
  simp only [List.getElem_cons_zero, e]
  rw [Int.toNat_of_nonneg h0]

theorem ret_str {a b : ByteArray} (h : a = b) : Ending.returned (.string a) = .returned (.string b) := by rw [h]

set_option maxRecDepth 100000 in
set_option maxHeartbeats 800000 in
theorem markText_any (n : Int) (h1 : 0 < n) (h2 : n ≤ 1073741824) (w : World) :
    Calls Tryz.prog 41 #[.int .i64 n] w fun e w' => e = .returned (.string (mkTs n)) ∧ Below w.heap.size w w' := by
  have h0 : decide (n ≤ 0) = false := decide_eq_false (by omega)
  go_enter Tryz.func41, Tryz.ntmps41
  go_wp2
  go_loopw [0, 3] (fun i x wr => ∃ (m : Int) (acc : ByteArray) (f : Nat), 0 ≤ m ∧ m ≤ n ∧ i = .int .i64 m ∧ x = .string acc ∧ acc.size + m.toNat ≤ n.toNat ∧ m.toNat ≤ f ∧ Hid (mkF f m acc = mkF n.toNat n (ByteArray.mk #[])) ∧ Below w.heap.size w wr) (fun i _ _ => (intOf i).toNat)
  case atStart => exact ⟨n, _, n.toNat, by omega, by omega, rfl, rfl, by show 0 + n.toNat ≤ _; omega, by omega, hid rfl, Below.refl _ _⟩
  case round =>
    obtain ⟨m, acc, f, hm, hm2, rfl, rfl, hz, hf, hmk, hbel⟩ := hrel
    by_cases hc : 0 < m
    · have hcv := conv1 wr (48 + m % 10) (by omega) (by omega)
      have HS := hid (mkF_step hmk.out hf hc)
      have hbs := hbel.size
      go_wp2
      go_roundw
      case rel =>
        obtain ⟨g, hg, hG⟩ := HS.out
        exact ⟨m / 10, _, g, by omega, by omega, rfl, rfl, by rw [ByteArray.size_append']; show 1 + acc.size + _ ≤ _; omega, hg, hid hG, hbel.alloc hbs _⟩
      case measure => simp [intOf]; omega
    · obtain rfl : m = 0 := by omega
      go_wp2
      go_ret
      have hT := hmk.out
      rw [mkF_zero] at hT
      exact ⟨ret_str (by rw [hT]; rfl), hbel⟩
end Go.Proofs.YthkehmnodcmlcaaGreatDoor

/- The helpers of the exact laws over slices of strings: two that hold the same are equal; what was markedS is held. -/
namespace Go.Proofs.YthkehmnodcmlcaaGreatDoor
open Go.RowKit
open Go.Lib (hid)

/-- A slice value that reads as the strings L. -/
def Row (w : World) (a : Option Addr) (n : Nat) (L : List ByteArray) : Prop := n = L.length ∧ (0 < L.length → ∃ g, a = some ⟨g, 0, none⟩ ∧ ∀ i (h : i < L.length), w.cell? ⟨g, i, none⟩ = some (.string L[i]))

def DrawnS (r : Value) (w : World) (e : Ending) (w' : World) : Prop := e = .returned r ∧ ∃ d, w' = w.drewN d

set_option maxRecDepth 100000 in
set_option maxHeartbeats 800000 in
theorem eqStringS_same (a1 a2 : Option Addr) (n1 n2 c1 c2 : Nat) (L : List ByteArray) (hL : L.length ≤ 1073741824) (w : World) (h1 : Row w a1 n1 L) (h2 : Row w a2 n2 L) :
    Calls Tryz.prog 13 #[.slice a1 n1 c1, .slice a2 n2 c2] w (DrawnS (.bool true) w) := by
  obtain ⟨rfl, H1⟩ := h1
  obtain ⟨rfl, H2⟩ := h2
  have G1 := hid H1
  have G2 := hid H2
  clear H1 H2
  go_enter Tryz.func13, Tryz.ntmps13
  go_wp2
  go_loopw [5] (fun i wr => ∃ (k d : Nat), k ≤ L.length ∧ i = .int .i64 k ∧ wr = w.drewN d) (fun i _ => L.length - (intOf i).toNat)
  case atStart => exact ⟨0, 0, Nat.zero_le _, rfl, rfl⟩
  case round =>
    obtain ⟨k, d, hk, rfl, rfl⟩ := hrel
    by_cases hlt : k < L.length
    · obtain ⟨g1, rfl, hc1⟩ := G1.out (by omega)
      obtain ⟨g2, rfl, hc2⟩ := G2.out (by omega)
      clear G1 G2
      have q1 := hc1 k hlt
      have q2 := hc2 k hlt
      clear hc1 hc2
      have a1 : (0 : Int) ≤ k := by omega
      have a2 : (k : Int) < L.length := by omega
      go_wp2
      go_quiet (fail)
      go_wp2
      go_roundw
      case rel => exact ⟨k + 1, d + nq, by omega, by go_num, by first | rfl | exact World.drewN_drewN _ _ _⟩
      case measure => simp [intOf]; omega
    · go_wp2
      go_ret
      exact ⟨rfl, d, rfl⟩

def marksS (n : Nat) : List ByteArray := (List.range n).map fun i : Nat => mkTs (1 + (i : Int))
theorem marks_lenS (n : Nat) : (marksS n).length = n := by simp [marksS]
theorem marks_atS {n i : Nat} (h : i < (marksS n).length) : (marksS n)[i] = mkTs (1 + (i : Int)) := by simp [marksS]
/-- The list L with its first k places markedS. -/
def markedS (L : List ByteArray) (k : Nat) : List ByteArray := marksS k ++ L.drop k
theorem marked_zeroS (L : List ByteArray) : markedS L 0 = L := by simp [markedS, marksS]
theorem marked_lenS {L : List ByteArray} {k : Nat} (h : k ≤ L.length) : (markedS L k).length = L.length := by simp [markedS, marks_lenS]; omega
theorem marked_allS (L : List ByteArray) : markedS L L.length = marksS L.length := by simp [markedS]
theorem marked_setS {L : List ByteArray} {k : Nat} (h : k < L.length) : (markedS L k).set k (mkTs (1 + (k : Int))) = markedS L (k + 1) := by
  apply List.ext_getElem
  · simp [markedS, marks_lenS]; omega
  · intro i h1 h2
    by_cases e : i = k
    · subst e
      simp [markedS, marksS]
    · rw [List.getElem_set_ne (Ne.symm e)]
      simp only [markedS, List.getElem_append, marks_lenS]
      by_cases h3 : i < k
      · have h4 : i < k + 1 := by omega
        simp [marksS, h3, h4]
      · have h4 : ¬ i < k + 1 := by omega
        simp only [h3, h4, dif_neg, not_false_eq_true, List.getElem_drop]
        congr 1; omega

def MarkPost (B : Nat) (v : Value) (n : Nat) (w : World) (e : Ending) (w' : World) : Prop := e = .returned (.int .i64 (1 + n)) ∧ Strs w' 9 B v (marksS n) ∧ Below B w w'

set_option maxRecDepth 100000 in
set_option maxHeartbeats 800000 in
theorem markStringS_any (B g c : Nat) (L : List ByteArray) (hL : L.length ≤ 1073741000) (w : World) (hw : Strs w 9 B (.slice (some ⟨g, 0, none⟩) L.length c) L) (hB : B ≤ g) (hg : g < w.heap.size) :
    Calls Tryz.prog 16 #[.slice (some ⟨g, 0, none⟩) L.length c, .int .i64 1] w (MarkPost B (.slice (some ⟨g, 0, none⟩) L.length c) L.length w) := by
  go_enter Tryz.func16, Tryz.ntmps16
  go_wp2
  go_loopw [1, 5] (fun x i wr => ∃ (k : Nat), k ≤ L.length ∧ i = .int .i64 k ∧ x = .int .i64 (1 + k) ∧ Strs wr 9 B (.slice (some ⟨g, 0, none⟩) L.length c) (markedS L k) ∧ Below B w wr) (fun _ i _ => L.length - (intOf i).toNat)
  case atStart => exact ⟨0, Nat.zero_le _, rfl, rfl, by rw [marked_zeroS]; exact hw, Below.refl _ _⟩
  case round =>
    obtain ⟨k, hk, rfl, rfl, hown, hbel⟩ := hrel
    have hsz := hbel.size
    by_cases hlt : k < L.length
    · have a1 : (0 : Int) ≤ k := by omega
      have a2 : (k : Int) < L.length := by omega
      have hl := marked_lenS (L := L) (k := k) (by omega)
      go_wp2_with (go_at_call 41; refine (markText_any _ (by omega) (by omega) _).mono ?_; rintro e w1 ⟨rfl, hb1⟩; have hown1 := Strs_below hown hb1 (by intro q hq; simp [Value.ownBlock] at hq; omega); have hbel1 := hbel.trans (hb1.mono (by omega)); have hcell := Strs_cell hown1 (show k < _ by omega); have hfree := Strs_free hown1 k; have hst := hid (Strs_store hown1 (i := k) (mkTs (1 + (k : Int)))); clear hown1 hown hbel hb1)
      go_roundw
      case rel =>
        have hs := hst.out
        rw [marked_setS hlt] at hs
        exact ⟨k + 1, by omega, by go_num, by rw [show ((k + 1 : Nat) : Int) = (k : Int) + 1 by omega, Int.add_assoc], hs, hbel1.setCell hB _⟩
      case measure => simp [intOf]; omega
    · obtain rfl : k = L.length := by omega
      go_wp2
      go_ret
      rw [marked_allS] at hown
      exact ⟨rfl, hown, hbel⟩

def HeldPost (n : Nat) (w : World) (e : Ending) (w' : World) : Prop := e = .returned (.int .i64 (1 + n)) ∧ Below w.heap.size w w'

/-- A function's own slice of strings, not nil. -/
def OwnPost (L : List ByteArray) (w : World) (e : Ending) (w' : World) : Prop :=
  ∃ g cap, e = .returned (.slice (some ⟨g, 0, none⟩) L.length cap) ∧ w.heap.size ≤ g ∧ g < w'.heap.size ∧ Strs w' 9 w.heap.size (.slice (some ⟨g, 0, none⟩) L.length cap) L ∧ Below w.heap.size w w'
theorem OwnPost_of {L : List ByteArray} {w w' : World} {e : Ending} (hL : 0 < L.length) (h : ∃ v, e = .returned v ∧ Strs w' 9 w.heap.size v L ∧ Below w.heap.size w w') : OwnPost L w e w' := by
  obtain ⟨v, rfl, hs, hb⟩ := h
  rcases Strs_cases hs with ⟨_, h0⟩ | ⟨g, cap, rfl, h1, h2, _⟩
  · rw [h0] at hL; cases hL
  · exact ⟨g, cap, rfl, h1, h2, hs, hb⟩
theorem Row_of {w : World} {B g cap : Nat} {L : List ByteArray} (h : Strs w 9 B (.slice (some ⟨g, 0, none⟩) L.length cap) L) : Row w (some ⟨g, 0, none⟩) L.length L :=
  ⟨rfl, fun _ => ⟨g, rfl, fun _ hi => Strs_cell h hi⟩⟩
theorem Row_below {w w' : World} {B B' g cap : Nat} {L : List ByteArray} (h : Strs w 9 B (.slice (some ⟨g, 0, none⟩) L.length cap) L) (hb : Below B' w w') (hg : g < B') : Row w' (some ⟨g, 0, none⟩) L.length L :=
  Row_of (Strs_below h hb (by intro k hk; simp [Value.ownBlock] at hk; omega))
theorem Strs_keep {w w' : World} {B B' g n cap : Nat} {L : List ByteArray} (h : Strs w 9 B (.slice (some ⟨g, 0, none⟩) n cap) L) (hb : Below B' w w') (hg : g < B') : Strs w' 9 B (.slice (some ⟨g, 0, none⟩) n cap) L :=
  Strs_below h hb (by intro k hk; simp [Value.ownBlock] at hk; omega)
theorem Strs_init {w : World} {E B g m cap : Nat} {L : List ByteArray} (hm : L.length = m + 1) (h : Strs w E B (.slice (some ⟨g, 0, none⟩) (m + 1) cap) L) : Strs w E B (.slice (some ⟨g, 0, none⟩) m cap) L.dropLast := by
  obtain ⟨h1, h2⟩ := h
  rcases h2 with ⟨h2, _⟩ | ⟨g', cap', cur, h2, h3, h4, h5, h6, h7, h8⟩
  · simp at h2
  · simp at h2
    obtain ⟨rfl, _, rfl⟩ := h2
    have hl : L.dropLast.length = m := by simp; omega
    refine ⟨by simp, .inr ⟨g, cap, cur, by rw [hl], h3, h4, by rw [hl]; omega, h6, h7, ?_⟩⟩
    have e : L.dropLast.map Value.string = (L.map Value.string).take (L.dropLast.length * 1) := by
      rw [List.dropLast_eq_take, List.map_take, ← List.dropLast_eq_take]
      congr 1
      simp
    rw [e, ← h8, List.take_take]
    congr 1; rw [hl]; omega
end Go.Proofs.YthkehmnodcmlcaaGreatDoor

/- Join: lists of strings laid end to end with a separator, as the reference's loop builds them and as the library's function does. No program text. -/
namespace Go.Proofs.YthkehmnodcmlcaaGreatDoor
open Go.RowKit
open Go.Lib (hid)

def sumSz : List ByteArray → Nat
  | [] => 0
  | x :: r => x.size + sumSz r
theorem sumSz_take {L : List ByteArray} {k : Nat} (h : k < L.length) : sumSz (L.take (k + 1)) = sumSz (L.take k) + L[k].size := by
  induction L generalizing k with
  | nil => simp at h
  | cons x r ih =>
    cases k with
    | zero => simp [sumSz]
    | succ k =>
      have := ih (k := k) (by simpa using h)
      simp only [List.take_succ_cons, sumSz, List.getElem_cons_succ, this]; omega
theorem sumSz_take_le (L : List ByteArray) (k : Nat) : sumSz (L.take k) ≤ sumSz L := by
  induction L generalizing k with
  | nil => simp
  | cons x r ih =>
    cases k with
    | zero => simp [sumSz]
    | succ k => have := ih k; simp only [List.take_succ_cons, sumSz]; omega

/-- What the loop has built after k elements. -/
def joinK (L : List ByteArray) (sep : ByteArray) : Nat → ByteArray
  | 0 => ByteArray.mk #[]
  | k + 1 => (if 0 < k then joinK L sep k ++ sep else joinK L sep k) ++ L.getD k ByteArray.empty
theorem joinK_first (L : List ByteArray) (sep : ByteArray) (h : 0 < L.length) : joinK L sep 1 = ByteArray.mk #[] ++ L[0] := by
  simp [joinK, h]
theorem joinK_next {L : List ByteArray} {sep : ByteArray} {k : Nat} (h : k < L.length) (h0 : 0 < k) : joinK L sep (k + 1) = (joinK L sep k ++ sep) ++ L[k] := by
  simp [joinK, h, h0]
theorem joinK_size {L : List ByteArray} {sep : ByteArray} : ∀ k, k ≤ L.length → (joinK L sep k).size ≤ sumSz (L.take k) + k * sep.size
  | 0, _ => Nat.zero_le _
  | k + 1, h => by
    have ih := joinK_size (L := L) (sep := sep) k (by omega)
    have hs := sumSz_take (L := L) (k := k) (by omega)
    have hm : (k + 1) * sep.size = k * sep.size + sep.size := by rw [Nat.succ_mul]
    cases k with
    | zero =>
      rw [joinK_first L sep (by omega), ByteArray.size_append', hs]
      show 0 + _ ≤ _
      omega
    | succ k =>
      rw [joinK_next (by omega) (by omega), ByteArray.size_append', ByteArray.size_append', hs]
      omega
theorem append_list (a b : ByteArray) : (a ++ b).data.toList = a.data.toList ++ b.data.toList := by
  simp
theorem joinTail_snoc (sep x : List UInt8) (r : List (List UInt8)) : Lib.joinTail sep (r ++ [x]) = Lib.joinTail sep r ++ (sep ++ x) := by
  simp [Lib.joinTail]
theorem joinK_list {L : List ByteArray} {sep : ByteArray} {x : ByteArray} {r : List ByteArray} (hL : L = x :: r) : ∀ k, k < L.length → (joinK L sep (k + 1)).data.toList = x.data.toList ++ Lib.joinTail sep.data.toList ((r.take k).map (·.data.toList))
  | 0, h => by
    rw [joinK_first L sep (by omega), append_list]
    subst hL
    simp [Lib.joinTail]
  | k + 1, h => by
    have ih := joinK_list (sep := sep) hL k (by omega)
    rw [joinK_next h (by omega), append_list, append_list, ih]
    subst hL
    have hk : k < r.length := by simpa using h
    rw [List.take_succ_eq_append_getElem hk, List.map_append, List.map_cons, List.map_nil, joinTail_snoc]
    simp
theorem joinK_all (L : List ByteArray) (sep : ByteArray) : joinK L sep L.length = ⟨(Lib.join (L.map (·.data.toList)) sep.data.toList).toArray⟩ := by
  apply WideShapes.bytes_inj
  cases hL : L with
  | nil => simp [joinK, Lib.join_nil]
  | cons x r =>
    have h := joinK_list (sep := sep) hL r.length (by rw [hL]; simp)
    rw [← hL, show L.length = r.length + 1 by rw [hL]; rfl, h, hL, List.map_cons, Lib.join_cons]
    simp
theorem joinL_len (L : List ByteArray) (sep : ByteArray) : (Lib.join (L.map (·.data.toList)) sep.data.toList).length ≤ sumSz L + L.length * sep.size := by
  have h := joinK_size (L := L) (sep := sep) L.length (Nat.le_refl _)
  rw [joinK_all, List.take_length] at h
  exact h

/-- The list L with all places from k on still empty. -/
def filled (L : List ByteArray) (k : Nat) : List ByteArray := L.take k ++ List.replicate (L.length - k) (ByteArray.mk #[])
theorem filled_len {L : List ByteArray} {k : Nat} (h : k ≤ L.length) : (filled L k).length = L.length := by simp [filled]; omega
theorem filled_all (L : List ByteArray) : filled L L.length = L := by simp [filled]
theorem filled_set {L : List ByteArray} {k : Nat} (h : k < L.length) : (filled L k).set k L[k] = filled L (k + 1) := by
  have e : L.length - k = (L.length - (k + 1)) + 1 := by omega
  have hk : (L.take k).length = k := by simp; omega
  unfold filled
  rw [e, List.replicate_succ, List.set_append, if_neg (by omega), hk, Nat.sub_self, List.set_cons_zero, List.take_succ_eq_append_getElem h, List.append_assoc]
  rfl

/-- A slice of strings that came in: its elements are L. -/
def RowO (w : World) (a : Option Addr) (n : Nat) (L : List ByteArray) : Prop :=
  n = L.length ∧ (0 < L.length → ∃ g o, a = some ⟨g, o, none⟩ ∧ g < w.heap.size ∧ ∀ i (h : i < L.length), w.cell? ⟨g, o + i, none⟩ = some (.string L[i]))
theorem RowO_below {w w' : World} {a : Option Addr} {n : Nat} {L : List ByteArray} (h : RowO w a n L) (hb : Below w.heap.size w w') : RowO w' a n L := by
  refine ⟨h.1, fun h0 => ?_⟩
  obtain ⟨g, o, e, hg, hc⟩ := h.2 h0
  exact ⟨g, o, e, Nat.lt_of_lt_of_le hg hb.size, fun i hi => (hb.cell (p := ⟨g, o + i, none⟩) hg).trans (hc i hi)⟩
end Go.Proofs.YthkehmnodcmlcaaGreatDoor

/- PadZeros, the reference's and the program's, answer the same. -/
namespace Go.Proofs.YthkehmnodcmlcaaGreatDoor
open Go.RowKit
open Go.Lib (hid)

def padK (s : ByteArray) : Nat → ByteArray
  | 0 => s
  | k + 1 => ByteArray.mk #[48] ++ padK s k
theorem padK_size (s : ByteArray) : ∀ k, (padK s k).size = k + s.size
  | 0 => by simp [padK]
  | k + 1 => by rw [padK, ByteArray.size_append', padK_size s k]; show 1 + _ = _; omega
theorem padK_is (s : ByteArray) : ∀ k, padK s k = ⟨(List.replicate k 48 ++ s.data.toList).toArray⟩
  | 0 => by simp [padK]
  | k + 1 => by
    rw [padK, padK_is s k]
    exact (ByteArray.mk_append_mk [48] _).trans (by simp [List.replicate_succ])
/-- What PadZeros returns. -/
def padded (s : ByteArray) (n : Int) : ByteArray := if (s.size : Int) < n ∧ n ≤ 2000 then padK s (n.toNat - s.size) else s
theorem padded_no {s : ByteArray} {n : Int} (h : n ≤ s.size ∨ 2000 < n) : padded s n = s := if_neg (by omega)
theorem padded_yes {s : ByteArray} {n : Int} (h : (s.size : Int) < n) (h' : n ≤ 2000) : padded s n = padK s (n.toNat - s.size) := if_pos ⟨h, h'⟩
theorem retp_str {a b : ByteArray} (h : a = b) : Ending.returned (.string a) = .returned (.string b) := by rw [h]

set_option maxRecDepth 100000 in
set_option maxHeartbeats 800000 in
theorem spec_PadZeros (s : ByteArray) (n : Int) (hs : s.size ≤ 1048576) (w : World) :
    Calls Tryz.prog 91 #[.string s, .int .i64 n] w fun e w' => e = .returned (.string (padded s n)) ∧ w = w' := by
  by_cases h1 : 2000 < n
  · go_enter Tryz.func91, Tryz.ntmps91
    go_wp2
    go_ret
    exact ⟨retp_str (padded_no (.inr h1)).symm, rfl⟩
  · go_enter Tryz.func91, Tryz.ntmps91
    go_wp2
    go_loop [0] (fun x => ∃ k : Nat, x = .string (padK s k) ∧ (k = 0 ∨ (k : Int) + s.size ≤ n)) (fun x => match x with | .string b => n.toNat - b.size | _ => 0)
    case atStart => exact ⟨0, rfl, .inl rfl⟩
    case round =>
      obtain ⟨k, rfl, hk⟩ := hrel
      have hz := padK_size s k
      have HZ := hid hz
      by_cases h2 : ((padK s k).size : Int) < n
      · rw [hz] at h2
        clear hz
        have h3 : ((padK s k).size : Int) < n := by rw [HZ.out]; exact h2
        have h4 : (padK s k).size ≤ 2000 := by omega
        go_wp2
        go_round
        case rel => exact ⟨k + 1, rfl, .inr (by omega)⟩
        case measure =>
          have hx : (ByteArray.mk #[48] ++ padK s k).size = (padK s k).size + 1 := by rw [ByteArray.size_append']; show 1 + _ = _; omega
          have hn : (n.toNat : Int) = n := by omega
          simp [hx]; omega
      · clear hz
        go_wp2
        go_ret
        rw [HZ.out] at h2
        refine ⟨retp_str ?_, rfl⟩
        by_cases h3 : (s.size : Int) < n
        · rw [padded_yes h3 (by omega)]
          congr 1; omega
        · rw [padded_no (by omega)]
          obtain rfl : k = 0 := by omega
          rfl

theorem rep_is : ∀ c, Lib.repeatL [48] c = List.replicate c 48
  | 0 => rfl
  | c + 1 => by rw [Lib.repeatL, rep_is c]; rfl
theorem join_two (x y : List UInt8) : Lib.join [x, y] [] = x ++ y := by
  rw [Lib.join_cons]; simp [Lib.joinTail]

def JoinedPost (L : List ByteArray) (sep : ByteArray) (w : World) (e : Ending) (w' : World) : Prop :=
  e = .returned (.string ⟨(Lib.join (L.map (·.data.toList)) sep.data.toList).toArray⟩) ∧ Below w.heap.size w w'

set_option maxRecDepth 100000 in
set_option maxHeartbeats 800000 in
theorem joinParts_any (g c : Nat) (L : List ByteArray) (sep : ByteArray) (w : World) (hc : ∀ (j : Nat) x, L[j]? = some x → w.cell? ⟨g, 0 + j, none⟩ = some (.string x)) (hg : g < w.heap.size) (hcap : L.length ≤ c)
    (hN : L.length ≤ 140737488355328) (hlen : (Lib.join (L.map (·.data.toList)) sep.data.toList).length ≤ 140737488355328) :
    Calls Tryz.prog 96 #[.string sep, .slice (some ⟨g, 0, none⟩) L.length c] w (JoinedPost L sep w) := by
  have K := hid (Tryz.strings_Join g 0 c L sep w hc hg hN hcap hlen)
  clear hc hlen
  go_enter Tryz.func96, Tryz.ntmps96
  go_wp2_with fail
  refine K.out.mono ?_
  rintro e w1 ⟨rfl, hb⟩
  go_wp2_with fail
  go_ret
  exact ⟨rfl, hb⟩

set_option maxRecDepth 100000 in
set_option maxHeartbeats 800000 in
theorem impl_PadZeros (s : ByteArray) (n : Int) (hs : s.size ≤ 1048576) (w : World) :
    Calls Tryz.prog 98 #[.string s, .int .i64 n] w fun e w' => e = .returned (.string (padded s n)) ∧ Below w.heap.size w w' := by
  by_cases h1 : n ≤ s.size
  · go_enter Tryz.func98, Tryz.ntmps98
    go_wp2
    go_ret
    exact ⟨retp_str (padded_no (.inl h1)).symm, Below.refl _ _⟩
  · by_cases h2 : 2000 < n
    · go_enter Tryz.func98, Tryz.ntmps98
      go_wp2
      go_ret
      exact ⟨retp_str (padded_no (.inr h2)).symm, Below.refl _ _⟩
    · obtain ⟨c, hc⟩ : ∃ c : Nat, n - s.size = (c : Int) := ⟨(n - s.size).toNat, by omega⟩
      have hc2 : c ≤ 2000 := by omega
      obtain ⟨r, hr⟩ : ∃ r : ByteArray, r = ⟨(List.replicate c 48).toArray⟩ := ⟨_, rfl⟩
      have KR : Calls Tryz.prog 117 #[.string (ByteArray.mk #[48]), .int .i64 (n - s.size)] w fun e w' => e = .returned (.string r) ∧ Below w.heap.size w w' := by
        rw [hc, hr, ← rep_is]
        exact Tryz.strings_Repeat (ByteArray.mk #[48]) c w (by omega) (by show 1 * c ≤ _; omega)
      have hfin : (⟨(Lib.join ([r, s].map (·.data.toList)) (ByteArray.mk #[]).data.toList).toArray⟩ : ByteArray) = padded s n := by
        rw [padded_yes (by omega) (by omega), padK_is]
        have e : ([r, s].map (·.data.toList)) = [r.data.toList, s.data.toList] := rfl
        rw [e]
        have e2 : (ByteArray.mk #[]).data.toList = ([] : List UInt8) := rfl
        rw [e2, join_two, hr, show n.toNat - s.size = c by omega]
      have hlen : (Lib.join ([r, s].map (·.data.toList)) (ByteArray.mk #[]).data.toList).length ≤ 140737488355328 := by
        have e : ([r, s].map (·.data.toList)) = [r.data.toList, s.data.toList] := rfl
        rw [e]
        have e2 : (ByteArray.mk #[]).data.toList = ([] : List UInt8) := rfl
        rw [e2, join_two, hr]
        have : s.data.toList.length = s.size := by simp
        simp; omega
      have HR := hid KR
      have HF := hid hfin
      have HL := hid hlen
      clear hr KR hfin hlen hc
      go_enter Tryz.func98, Tryz.ntmps98
      go_wp2_with fail
      refine HR.out.mono ?_
      rintro e w1 ⟨rfl, hb1⟩
      go_wp2_with fail
      refine (joinParts_any w1.heap.size 2 [r, s] (ByteArray.mk #[]) _ ?_ (by simp) (by simp) (by simp) HL.out).mono ?_
      · intro j x hj
        match j, hj with
        | 0, hj => simp at hj; subst hj; exact cell_two_new w1 (.string r) (.string s) 9 0 (.string r) rfl
        | 1, hj => simp at hj; subst hj; exact cell_two_new w1 (.string r) (.string s) 9 1 (.string s) rfl
        | j + 2, hj => simp at hj
      rintro e w2 ⟨rfl, hb2⟩
      go_wp2_with fail
      go_ret
      exact ⟨retp_str HF.out, (hb1.alloc hb1.size _).trans (hb2.mono (by have := hb1.size; simp; omega))⟩
end Go.Proofs.YthkehmnodcmlcaaGreatDoor

/- The reference's SplitAny returns the pieces. -/
namespace Go.Proofs.YthkehmnodcmlcaaGreatDoor
open Go.RowKit
open Go.Lib (hid)

theorem Tryz.info9 : (Tryz.prog.info? 9).map (fun i => (i.zero, i.size, i.bytes)) = some (some (.string ByteArray.empty), 1, 16) := by kernel_rfl

def SplitPost (s t : ByteArray) (B : Nat) (w : World) (e : Ending) (w' : World) : Prop := ∃ v, e = .returned v ∧ Strs w' 9 B v (pieces s t) ∧ Below B w w'

theorem Strs_made {w : World} {B : Nat} (h : B = w.heap.size) : Strs (w.alloc (.cells #[] 9)) 9 B (.slice (some ⟨w.heap.size, 0, none⟩) 0 0) [] :=
  World.ownsRow_made w #[] 0 (by omega) (by decide) rfl

set_option maxRecDepth 100000 in
set_option maxHeartbeats 800000 in
theorem spec_SplitAny (s t : ByteArray) (hs : s.size ≤ 1048576) (ht : t.size ≤ 1048576) (w : World) :
    Calls Tryz.prog 45 #[.string s, .string t] w (SplitPost s t w.heap.size w) := by
  obtain ⟨i9, hi, hz0, hz1, hz2⟩ := info_parts Tryz.info9
  obtain ⟨B, hB⟩ : ∃ B, B = w.heap.size := ⟨_, rfl⟩
  have HB : Hid (B = w.heap.size) := hB
  rw [← hB]; clear hB
  go_enter Tryz.func45, Tryz.ntmps45
  go_wp2
  go_loopw [5, 6, 7] (fun out fr i wr => ∃ k : Nat, k ≤ s.size ∧ i = .int .i64 k ∧ fr = .int .i64 (cutTo s (hitAt s t) k).2 ∧ Strs wr 9 B out (cutTo s (hitAt s t) k).1 ∧ Below B w wr) (fun _ _ i _ => s.size - (intOf i).toNat)
  case atStart => exact ⟨0, Nat.zero_le _, rfl, rfl, Strs_made HB.out, by rw [HB.out]; exact (Below.refl _ _).alloc (Nat.le_refl _) _⟩
  case round =>
    obtain ⟨k, hk, rfl, rfl, hown, hbel⟩ := hrel
    have hf := (cutTo_le s (hitAt s t) k).1
    obtain ⟨f, hf'⟩ : ∃ f, f = (cutTo s (hitAt s t) k).2 := ⟨_, rfl⟩
    have HF : Hid (f = (cutTo s (hitAt s t) k).2) := hf'
    rw [← hf'] at hf; rw [← hf']; clear hf'
    by_cases hlt : k < s.size
    · go_wp2
      obtain ⟨wo, rfl⟩ : ∃ wo : World, wo = wr := ⟨_, rfl⟩
      go_loopw [5, 6, 8] (fun out fr j wr => ∃ m : Nat, m ≤ t.size ∧ j = .int .i64 m ∧ fr = .int .i64 f ∧ Strs wr 9 B out (cutTo s (hitAt s t) k).1 ∧ Below B w wr ∧ Hid (hitTo t s[k] m = false)) (fun _ _ j _ => t.size - (intOf j).toNat)
      case atStart => exact ⟨0, Nat.zero_le _, rfl, rfl, hown, hbel, hid rfl⟩
      case round =>
        clear hown hbel
        obtain ⟨m, hm, rfl, rfl, hown, hbel, hno⟩ := hrel
        by_cases hmt : m < t.size
        · have a1 : (0 : Int) ≤ k := by omega
          have a2 : (k : Int) < s.size := by omega
          have a3 : (0 : Int) ≤ m := by omega
          have a4 : (m : Int) < t.size := by omega
          by_cases he : s[k] = t[m]
          · have hei : ((s[k].toNat : Int) == (t[m].toNat : Int)) = true := by rw [he]; simp
            have hhit := hid (hitAt_yes (t := t) hlt hmt he)
            clear he
            have hlen := (cutTo_le s (hitAt s t) k).2
            go_wp2
            go_quiet (fail)
            have hown2 := Strs_drewN hown nq
            have hbel2 := below_drewN hbel nq
            clear hown hbel
            generalize wr.drewN nq = wd at hown2 hbel2 ⊢
            go_wp2_with (at_builtin; refine wpList_append_own _ rfl _ _ 30 rfl B 9 i9 (.string ByteArray.empty) 1 16 Tryz.underlying30 hi hz0 hz1 hz2 rfl (by decide) _ _ _ rfl (World.ownsRow.alloc (show wd.ownsRow B 9 1 u5 _ _ from hown2) _) ⟨wd.heap.size, 0, none⟩ 1 1 [.string (s.extract f k)] rfl rfl ?d1 ?d2 ?d3 ?d4 ?d5 ?_)
            case d1 => exact cell_one_new _ _ _
            case d2 => intro u hu; simp at hu; subst hu; rfl
            case d3 => unfold maxLen; omega
            case d4 => omega
            case d5 => have := hbel2.size; have := HB.out; simp; omega
            intro v' w1 hown' hgrow _
            have R := Strs_app hown2 hbel2 (by have := hbel2.size; have := HB.out; omega) hown' hgrow
            clear hown' hgrow hown2 hbel2
            go_wp2
            go_roundw
            case rel =>
              have hc := cut_hit HF.out hhit.out
              exact ⟨k + 1, by omega, by go_num, by rw [hc]; go_num, by rw [hc]; exact R.1, R.2⟩
            case measure => simp [intOf]; omega
          · have hei : ((s[k].toNat : Int) == (t[m].toNat : Int)) = false := by
              simp; intro h; exact he (UInt8.toNat_inj.mp (by omega))
            have hnx := hid (hitTo_no hmt hno.out he)
            clear he
            go_wp2
            go_quiet (fail)
            have hown2 := Strs_drewN hown nq
            have hbel2 := below_drewN hbel nq
            clear hown hbel
            generalize wr.drewN nq = wd at hown2 hbel2 ⊢
            go_wp2
            go_roundw
            case rel => exact ⟨m + 1, by omega, by go_num, rfl, hown2, hbel2, hnx⟩
            case measure => simp [intOf]; omega
        · obtain rfl : m = t.size := by omega
          have hnone := hid (hitAt_no (t := t) hlt hno.out)
          go_wp2
          go_roundw
          case rel =>
            have hc := cutTo_no (s := s) hnone.out
            exact ⟨k + 1, by omega, by go_num, by rw [hc, HF.out], by rw [hc]; exact hown, hbel⟩
          case measure => simp [intOf]; omega
    · have hlen := (cutTo_le s (hitAt s t) k).2
      go_wp2_with (at_builtin; refine wpList_append_own _ rfl _ _ 30 rfl B 9 i9 (.string ByteArray.empty) 1 16 Tryz.underlying30 hi hz0 hz1 hz2 rfl (by decide) _ _ _ rfl (World.ownsRow.alloc (show wr.ownsRow B 9 1 u5 _ _ from hown) _) ⟨wr.heap.size, 0, none⟩ 1 1 [.string (s.extract f s.size)] rfl rfl ?c1 ?c2 ?c3 ?c4 ?c5 ?_)
      case c1 => exact cell_one_new _ _ _
      case c2 => intro u hu; simp at hu; subst hu; rfl
      case c3 => unfold maxLen; omega
      case c4 => omega
      case c5 => have := hbel.size; have := HB.out; simp; omega
      intro v' w1 hown' hgrow _
      go_wp2
      go_ret
      have R := Strs_app hown hbel (by have := hbel.size; have := HB.out; omega) hown' hgrow
      rw [pieces_end HF.out (by omega)] at R
      exact ⟨v', rfl, R.1, R.2⟩
end Go.Proofs.YthkehmnodcmlcaaGreatDoor

/- The functions that the law of Join calls: the size of a slice of strings, its copy, the reference's Join, the program's Join. -/
namespace Go.Proofs.YthkehmnodcmlcaaGreatDoor
open Go.RowKit
open Go.Lib (hid)

def SzPost (L : List ByteArray) (w : World) (e : Ending) (w' : World) : Prop := ∃ r : Int, e = .returned (.int .i64 r) ∧ (0 ≤ r → sumSz L ≤ 1048576 ∧ L.length ≤ 1048576) ∧ w = w'

set_option maxRecDepth 100000 in
set_option maxHeartbeats 800000 in
theorem szStringS_any (a : Option Addr) (n c : Nat) (L : List ByteArray) (w : World) (hr : RowO w a n L) (hn : n ≤ maxLen) (hz : ∀ x ∈ L, x.size ≤ maxLen) :
    Calls Tryz.prog 7 #[.slice a n c, .int .i64 1048576] w (SzPost L w) := by
  obtain ⟨rfl, hr⟩ := hr
  have HR := hid hr
  have HZ := hid hz
  clear hr hz
  unfold maxLen at hn
  by_cases h1 : (1048576 : Int) < L.length
  · go_enter Tryz.func7, Tryz.ntmps7
    go_wp2
    go_ret
    exact ⟨-1, rfl, by omega, rfl⟩
  · go_enter Tryz.func7, Tryz.ntmps7
    go_wp2
    go_loop [1, 5] (fun x i => ∃ (k : Nat) (left : Int), k ≤ L.length ∧ i = .int .i64 k ∧ x = .int .i64 left ∧ 0 ≤ left ∧ left ≤ 1048576 ∧ Hid (left = 1048576 - L.length - sumSz (L.take k))) (fun _ i => L.length - (intOf i).toNat)
    case atStart => exact ⟨0, _, Nat.zero_le _, rfl, rfl, by omega, by omega, hid (by simp [sumSz])⟩
    case round =>
      obtain ⟨k, left, hk, rfl, rfl, h2, h3, h4⟩ := hrel
      by_cases hlt : k < L.length
      · obtain ⟨g, o, rfl, hg, hc⟩ := HR.out (by omega)
        have hck := hc k hlt
        have hzk := HZ.out L[k] (List.getElem_mem hlt)
        have HT := hid (sumSz_take hlt)
        unfold maxLen at hzk
        clear hc
        have a1 : (0 : Int) ≤ k := by omega
        have a2 : (k : Int) < L.length := by omega
        by_cases h5 : left - L[k].size < 0
        · go_wp2
          go_ret
          exact ⟨-1, rfl, by omega, rfl⟩
        · go_wp2
          go_round
          case rel => exact ⟨k + 1, _, by omega, by go_num, rfl, by omega, by omega, hid (by have := h4.out; have := HT.out; omega)⟩
          case measure => simp [intOf]; omega
      · obtain rfl : k = L.length := by omega
        go_wp2
        go_ret
        refine ⟨left, rfl, fun _ => ?_, rfl⟩
        have := h4.out
        rw [List.take_length] at this
        omega

theorem made_list (n : Nat) : (madeCells (Value.string ByteArray.empty).cells (n * 1)).toList = (List.replicate n (ByteArray.mk #[])).map Value.string := by
  rw [Nat.mul_one]
  show (madeCells #[Value.string ByteArray.empty] n).toList = _
  rw [toList_madeCells_one, List.map_replicate]
  rfl

set_option maxRecDepth 100000 in
set_option maxHeartbeats 800000 in
theorem toStringS_any (a : Option Addr) (n c : Nat) (L : List ByteArray) (w : World) (hr : RowO w a n L) (hn : L.length ≤ 1048576) :
    Calls Tryz.prog 10 #[.slice a n c] w (OwnPost L w) := by
  obtain ⟨i9, hi, hz0, hz1, hz2⟩ := info_parts Tryz.info9
  obtain ⟨rfl, hr⟩ := hr
  have HR := hid hr
  clear hr
  go_enter Tryz.func10, Tryz.ntmps10
  go_wp2_with (at_make; refine wpList_make_full _ rfl _ _ 30 rfl w.heap.size 9 i9 (.string ByteArray.empty) 1 Tryz.underlying30 hi hz0 hz1 .i64 .i64 _ _ L.length rfl rfl rfl rfl ?c1 ?c2 (Nat.le_refl _) ?_)
  case c1 => rw [hz2]; omega
  case c2 => unfold maxLen; omega
  intro w1 hown hgrow
  have hS : Strs w1 9 w.heap.size (.slice (some ⟨w.heap.size, 0, none⟩) L.length L.length) (filled L 0) := by
    unfold Strs
    rw [filled_len (Nat.zero_le _)]
    have e : (filled L 0).map Value.string = (madeCells (Value.string ByteArray.empty).cells (L.length * 1)).toList := by
      rw [made_list]; simp [filled]
    rw [e, Nat.mul_one]; exact hown
  have hb : Below w.heap.size w w1 := (Below.refl _ _).grown hgrow (Nat.le_refl _) (fun _ h => by cases h)
  have hz : w.heap.size < w1.heap.size := by
    rcases Strs_cases hS with ⟨h, _⟩ | ⟨g, cap, h, _, h2, _⟩
    · simp at h
    · simp at h; omega
  clear hown hgrow
  go_wp2
  go_loopw [4] (fun i wr => ∃ (k : Nat), k ≤ L.length ∧ i = .int .i64 k ∧ w.heap.size < wr.heap.size ∧ Strs wr 9 w.heap.size (.slice (some ⟨w.heap.size, 0, none⟩) L.length L.length) (filled L k) ∧ Below w.heap.size w wr) (fun i _ => L.length - (intOf i).toNat)
  case atStart => exact ⟨0, Nat.zero_le _, rfl, hz, hS, hb⟩
  case round =>
    clear hS hb hz
    obtain ⟨k, hk, rfl, hz, hS, hb⟩ := hrel
    by_cases hlt : k < L.length
    · obtain ⟨g, o, rfl, hg, hc⟩ := HR.out (by omega)
      have hck := (hb.cell (p := ⟨g, o + k, none⟩) hg).trans (hc k hlt)
      clear hc
      have a1 : (0 : Int) ≤ k := by omega
      have a2 : (k : Int) < L.length := by omega
      have hcell := Strs_cell hS (i := k) (by rw [filled_len hk]; exact hlt)
      have hfree := Strs_free hS k
      have hst := hid (Strs_store hS (i := k) L[k])
      have hb2 := hb.setCell (p := ⟨w.heap.size, k, none⟩) (Nat.le_refl _) (.string L[k])
      clear hS hb
      go_wp2
      go_roundw
      case rel =>
        have hs := hst.out
        rw [filled_set hlt] at hs
        exact ⟨k + 1, by omega, by go_num, by simpa [World.setCell] using hz, hs, hb2⟩
      case measure => simp [intOf]; omega
    · obtain rfl : k = L.length := by omega
      go_wp2
      go_ret
      rw [filled_all] at hS
      exact ⟨w.heap.size, L.length, rfl, Nat.le_refl _, hz, hS, hb⟩

set_option maxRecDepth 100000 in
set_option maxHeartbeats 800000 in
theorem spec_Join (g c : Nat) (L : List ByteArray) (sep : ByteArray) (w : World) (hc : ∀ i (h : i < L.length), w.cell? ⟨g, i, none⟩ = some (.string L[i])) (hn : L.length ≤ 1048576) (hs : sumSz L ≤ 1048576) (hsep : sep.size ≤ 1048576) :
    Calls Tryz.prog 60 #[.slice (some ⟨g, 0, none⟩) L.length c, .string sep] w fun e w' => e = .returned (.string (joinK L sep L.length)) ∧ w = w' := by
  have HC := hid hc
  clear hc
  go_enter Tryz.func60, Tryz.ntmps60
  go_wp2
  go_loop [5, 10] (fun x i => ∃ (k : Nat), k ≤ L.length ∧ i = .int .i64 k ∧ x = .string (joinK L sep k)) (fun _ i => L.length - (intOf i).toNat)
  case atStart => exact ⟨0, Nat.zero_le _, rfl, rfl⟩
  case round =>
    obtain ⟨k, hk, rfl, rfl⟩ := hrel
    by_cases hlt : k < L.length
    · have hck := HC.out k hlt
      have a1 : (0 : Int) ≤ k := by omega
      have a2 : (k : Int) < L.length := by omega
      have hz : (joinK L sep k).size ≤ 1099512676352 := by
        have h1 := joinK_size (L := L) (sep := sep) k hk
        have h2 := sumSz_take_le L k
        have h3 : k * sep.size ≤ 1048576 * 1048576 := Nat.mul_le_mul (by omega) hsep
        omega
      have hx : L[k].size ≤ 1048576 := by
        have h1 := sumSz_take hlt
        have h2 := sumSz_take_le L (k + 1)
        omega
      by_cases h0 : k = 0
      · subst h0
        have hj := hid (joinK_first L sep hlt)
        go_wp2
        go_round
        case rel => exact ⟨1, by omega, by first | rfl | go_num, by rw [hj.out]; rfl⟩
        case measure => simp [intOf]; omega
      · have hj := hid (joinK_next (sep := sep) hlt (by omega))
        have h1 : (0 : Int) < k := by omega
        go_wp2
        go_round
        case rel => exact ⟨k + 1, by omega, by go_num, by rw [hj.out]⟩
        case measure => simp [intOf]; omega
    · obtain rfl : k = L.length := by omega
      go_wp2
      go_ret
      exact ⟨rfl, rfl⟩

set_option maxRecDepth 100000 in
set_option maxHeartbeats 800000 in
theorem impl_Join (g c : Nat) (L : List ByteArray) (sep : ByteArray) (w : World) (hc : ∀ i (h : i < L.length), w.cell? ⟨g, i, none⟩ = some (.string L[i])) (hg : g < w.heap.size) (hcap : L.length ≤ c) (hn : L.length ≤ 1048576) (hs : sumSz L ≤ 1048576) (hsep : sep.size ≤ 1048576) :
    Calls Tryz.prog 68 #[.slice (some ⟨g, 0, none⟩) L.length c, .string sep] w fun e w' => e = .returned (.string (joinK L sep L.length)) ∧ Below w.heap.size w w' := by
  have K := hid (joinParts_any g c L sep w (fun j x hj => by
    obtain ⟨hlt, rfl⟩ := List.getElem?_eq_some_iff.1 hj
    rw [Nat.zero_add]; exact hc j hlt) hg hcap (by omega) (by
    have h1 := joinL_len L sep
    have h3 : L.length * sep.size ≤ 1048576 * 1048576 := Nat.mul_le_mul hn hsep
    omega))
  have HJ := hid (joinK_all L sep)
  clear hc
  go_enter Tryz.func68, Tryz.ntmps68
  go_wp2_with fail
  refine K.out.mono ?_
  rintro e w1 ⟨rfl, hb⟩
  go_wp2_with fail
  go_ret
  rw [HJ.out]
  exact ⟨rfl, hb⟩

end Go.Proofs.YthkehmnodcmlcaaGreatDoor

/- FormatInt of the reference returns the decimal numeral. -/
namespace Go.Proofs.YthkehmnodcmlcaaGreatDoor
open Go.RowKit
open Go.Lib (hid)

def bts (l : List UInt8) : ByteArray := ⟨l.toArray⟩
def dig1 (z : Int) : UInt8 := UInt8.ofNat z.toNat
theorem bts_app (x y : List UInt8) : bts x ++ bts y = bts (x ++ y) := ByteArray.mk_append_mk x y
theorem bts_size (x : List UInt8) : (bts x).size = x.length := rfl

theorem convB (W : World) (a : Addr) (z : Int) (h0 : 0 ≤ z) (h1 : z < 256) (hc : W.cell? a = some (.int .u8 z)) : (convert 102 9 (.slice (some a) 1 1)).run Tryz.prog W = .ok (.string (bts [dig1 z])) W := by
  have e : (dig1 z).toNat = z.toNat := by simp [dig1]; omega
  refine run_convert_bytes_back (P := Tryz.prog) W 102 9 5 a 1 [dig1 z] Tryz.underlying102 Tryz.underlying5 Tryz.underlying9 (fun j hj => ?_)
  obtain rfl : j = 0 := by simp at hj; omega
  have ha : a.add 0 = a := by simp [Addr.add]
  rw [ha, hc]
  simp only [List.getElem_cons_zero, e]
  rw [Int.toNat_of_nonneg h0]

theorem dec_small {u : Nat} (h : u < 10) : Lib.decDigits u = [dig1 (48 + u)] := by
  rw [Lib.decDigits, dif_pos h]
  simp only [dig1]
  congr 2
theorem dec_big {u : Nat} (h : ¬ u < 10) : Lib.decDigits u = Lib.decDigits (u / 10) ++ [dig1 (48 + (u % 10 : Nat))] := by
  rw [Lib.decDigits, dif_neg h]
  simp only [dig1]
  congr 2
theorem ret_bts {a b : ByteArray} (h : a = b) : Ending.returned (.string a) = .returned (.string b) := by rw [h]
theorem dec_len (u : Nat) (h : u ≤ 9223372036854775808) : (Lib.decDigits u).length ≤ 20 := by
  rw [Lib.decDigits_length]
  rcases Nat.lt_or_ge (Lib.nDigits u) 21 with h1 | h1
  · omega
  · have h2 : ∀ k u, k + 1 ≤ Lib.nDigits u → 10 ^ k ≤ u ∨ k = 0 := by
      intro k
      induction k with
      | zero => intro u _; exact .inr rfl
      | succ k ih =>
        intro u hu
        left
        by_cases hb : u < 10
        · rw [Lib.nDigits_small hb] at hu; omega
        · rw [Lib.nDigits_big hb] at hu
          rcases ih (u / 10) (by omega) with h3 | h3
          · rw [Nat.pow_succ]; omega
          · subst h3; omega
    rcases h2 20 u (by omega) with h3 | h3
    · omega
    · omega

set_option maxRecDepth 100000 in
set_option maxHeartbeats 800000 in
theorem spec_FormatInt_pos (n : Nat) (hn : n ≤ 9223372036854775807) (w : World) :
    Calls Tryz.prog 90 #[.int .i64 n] w fun e w' => e = .returned (.string (bts (Lib.decDigits n))) ∧ Below w.heap.size w w' := by
  have hlen := dec_len n (by omega)
  go_enter Tryz.func90, Tryz.ntmps90
  go_wp2_with fail
  go_loopw [0, 3] (fun i x wr => ∃ (m : Nat) (l : List UInt8), m ≤ n ∧ i = .int .i64 m ∧ x = .string (bts l) ∧ l.length ≤ 20 ∧ Hid (Lib.decDigits m ++ l = Lib.decDigits n) ∧ Below w.heap.size w wr) (fun i _ _ => (intOf i).toNat)
  case atStart => exact ⟨n, [], Nat.le_refl _, rfl, rfl, by simp, hid (by simp), Below.refl _ _⟩
  case round =>
    obtain ⟨m, l, hm, rfl, rfl, hl, hd, hbel⟩ := hrel
    have hsz := bts_size l
    have hbs := hbel.size
    by_cases h9 : (9 : Int) < m
    · have hcv := convB (wr.alloc (.cells #[.int .u8 (48 + (m : Int) % 10)] 5)) ⟨wr.heap.size, 0, none⟩ (48 + (m : Int) % 10) (by omega) (by omega) (cell_one_new wr _ 5 0 _ rfl)
      have HD := hid (dec_big (u := m) (by omega))
      have hs1 : (bts [dig1 (48 + (m : Int) % 10)]).size = 1 := rfl
      go_wp2_with fail
      go_roundw
      case rel =>
        refine ⟨m / 10, dig1 (48 + ((m % 10 : Nat) : Int)) :: l, by omega, by go_num, by rw [bts_app]; rfl, ?_, hid ?_, hbel.alloc hbs _⟩
        · have h1 := hd.out
          rw [HD.out, List.append_assoc] at h1
          have h2 := congrArg List.length h1
          have h3 : 1 ≤ (Lib.decDigits (m / 10)).length := by rw [Lib.decDigits_length]; exact Lib.nDigits_pos _
          simp at h2
          simp; omega
        · have h1 := hd.out
          rw [HD.out, List.append_assoc] at h1
          exact h1
      case measure => simp [intOf]; omega
    · have hcv := convB (wr.alloc (.cells #[.int .u8 (48 + (m : Int))] 5)) ⟨wr.heap.size, 0, none⟩ (48 + (m : Int)) (by omega) (by omega) (cell_one_new wr _ 5 0 _ rfl)
      have HD := hid (dec_small (u := m) (by omega))
      have hs1 : (bts [dig1 (48 + (m : Int))]).size = 1 := rfl
      go_wp2_with fail
      go_ret
      have h1 := hd.out
      rw [HD.out] at h1
      exact ⟨ret_bts (by rw [← h1]; exact bts_app _ _), hbel.alloc hbs _⟩

theorem tdiv10 {z : Int} (h : z < 0) : z.tdiv 10 = -((-z) / 10) := by
  have e : z.tdiv 10 = -((-z).tdiv 10) := by rw [Int.neg_tdiv]; omega
  rw [e, Int.tdiv_eq_ediv_of_nonneg (by omega)]
theorem tmod10 {z : Int} (h : z < 0) : z.tmod 10 = -((-z) % 10) := by
  have e : z.tmod 10 = -((-z).tmod 10) := by rw [Int.neg_tmod]; omega
  rw [e, Int.tmod_eq_emod_of_nonneg (by omega)]
theorem bcell {W w1 : World} (hb : Below W.heap.size W w1) : (∀ b o, b < W.heap.size → w1.cell? ⟨b, o, none⟩ = W.cell? ⟨b, o, none⟩) ∧ W.heap.size ≤ w1.heap.size :=
  ⟨fun b o h => hb.cell (p := ⟨b, o, none⟩) h, hb.size⟩

set_option maxRecDepth 100000 in
set_option maxHeartbeats 800000 in
theorem spec_FormatInt_neg (k : Nat) : ∀ (z : Int) (w : World), z < 0 → -9223372036854775808 ≤ z → z.natAbs ≤ k →
    Calls Tryz.prog 90 #[.int .i64 z] w fun e w' => e = .returned (.string (bts (45 :: Lib.decDigits z.natAbs))) ∧ Below w.heap.size w w' := by
  induction k with
  | zero => intro z w h0 h1 h2; omega
  | succ k ih =>
    intro z w h0 h1 h2
    have hq := tdiv10 h0
    have hr := tmod10 h0
    by_cases h9 : -10 < z
    · have e0 : (z.tdiv 10 == 0) = true := by rw [hq]; simp; omega
      have HD := hid (dec_small (u := z.natAbs) (by omega))
      have hcv := convB (w.alloc (.cells #[.int .u8 (48 - z)] 5)) ⟨w.heap.size, 0, none⟩ (48 - z) (by omega) (by omega) (cell_one_new w _ 5 0 _ rfl)
      have hs1 : (bts [dig1 (48 - z)]).size = 1 := rfl
      have HZ : Hid (48 - z = 48 + (z.natAbs : Int)) := by show 48 - z = _; omega
      clear hq hr ih
      go_enter Tryz.func90, Tryz.ntmps90
      go_wp2_with fail
      go_ret
      refine ⟨ret_bts ?_, (Below.refl _ _).alloc (Nat.le_refl _) _⟩
      rw [HD.out, HZ.out]
      exact bts_app [45] _
    · have e0 : (z.tdiv 10 == 0) = false := by rw [hq]; simp; omega
      have hq0 : z.tdiv 10 < 0 := by omega
      have hq1 : -9223372036854775808 ≤ z.tdiv 10 := by omega
      have hq2 : (z.tdiv 10).natAbs ≤ k := by omega
      have hr0 : -9 ≤ z.tmod 10 := by omega
      have hr1 : z.tmod 10 ≤ 0 := by omega
      have HQ := hid (show (z.tdiv 10).natAbs = z.natAbs / 10 by omega)
      have HR := hid (show (48 - z.tmod 10) = 48 + ((z.natAbs % 10 : Nat) : Int) by omega)
      have HD := hid (dec_big (u := z.natAbs) (by omega))
      have hlen := dec_len ((z.tdiv 10).natAbs) (by omega)
      have hcv := fun (W : World) (a : Addr) (h : W.cell? a = some (.int .u8 (48 - z.tmod 10))) => convB W a (48 - z.tmod 10) (by omega) (by omega) h
      obtain ⟨D, hD⟩ : ∃ D, D = 45 :: Lib.decDigits (z.tdiv 10).natAbs := ⟨_, rfl⟩
      have hsum : ¬ 9223372036854775807 < (bts D).size + (bts [dig1 (48 - z.tmod 10)]).size := by
        rw [hD]
        show ¬ 9223372036854775807 < ((Lib.decDigits (z.tdiv 10).natAbs).length + 1) + 1
        omega
      have HDD := hid hD
      have IH : ∀ w : World, Hid (Calls Tryz.prog 90 #[.int .i64 (z.tdiv 10)] w fun e w' => e = .returned (.string (bts D)) ∧ Below w.heap.size w w') := fun w => by
        rw [hD]; exact hid (ih (z.tdiv 10) w hq0 hq1 hq2)
      clear hD hlen
      have wq := IntWalk.i64_in (z.tdiv 10) (by omega)
      have wr := IntWalk.i64_in (z.tmod 10) (by omega)
      have wd := IntWalk.i64_in (48 - z.tmod 10) (by omega)
      have wb := IntWalk.u8_in (48 - z.tmod 10) (by omega)
      clear hq hr ih
      go_enter Tryz.func90, Tryz.ntmps90
      go_wp2_with fail
      go_region_with ((go_at_call 90; (with_reducible refine (Hid.out (IH _)).mono ?_); rintro e w1 ⟨rfl, hb⟩; obtain ⟨hc, hz⟩ := bcell hb))
      all_goals clear wq wr wd wb hsum hcv hc
      all_goals go_wp2_with fail
      all_goals go_ret
      all_goals (refine ⟨ret_bts (by rw [bts_app, HDD.out, HQ.out, HR.out, HD.out]; rfl), ?_⟩)
      all_goals first | exact (((Below.refl _ _).drew).trans hb).alloc hz _ | exact (((Below.refl _ _).alloc (Nat.le_refl _) _).drew).trans (hb.mono (by simp))
end Go.Proofs.YthkehmnodcmlcaaGreatDoor

/- FormatInt of the program returns the decimal numeral, as the reference's does: the law's walk. -/
namespace Go.Proofs.YthkehmnodcmlcaaGreatDoor
open Go.RowKit
open Go.Lib (hid)

def Pow10 (w : World) : Prop := Lib.TabIs Tryz.prog w "internal/strconv.uint64pow10" .u64 Lib.pow10Tab
theorem gPow : Tryz.prog.globalNamed "internal/strconv.uint64pow10" = some 5 := by kernel_rfl

theorem below_grow (w : World) (k : Nat) (os : Array Obj) : Below w.heap.size w (Go.Sort.grow (w.drewN k) os) :=
  ⟨rfl, rfl, rfl, by simp [Go.Sort.grow, World.drewN], fun i hi => by
    show (w.heap ++ os)[i]? = _
    rw [Array.getElem?_append_left hi]⟩

theorem spec_FormatInt (n : Int) (h0 : -9223372036854775808 ≤ n) (h1 : n ≤ 9223372036854775807) (w : World) :
    Calls Tryz.prog 90 #[.int .i64 n] w fun e w' => e = .returned (.string (bts (Lib.itoa n))) ∧ Below w.heap.size w w' := by
  by_cases hn : n < 0
  · have h := spec_FormatInt_neg n.natAbs n w hn h0 (Nat.le_refl _)
    rw [Lib.itoa, if_pos hn]; exact h
  · have h := spec_FormatInt_pos n.toNat (by omega) w
    rw [Lib.itoa, if_neg hn]
    rw [Int.toNat_of_nonneg (by omega)] at h
    exact h

set_option maxRecDepth 100000 in
theorem impl_FormatInt (n : Int) (h0 : -9223372036854775808 ≤ n) (h1 : n ≤ 9223372036854775807) (w : World) (ht : Pow10 w) :
    Calls Tryz.prog 97 #[.int .i64 n] w fun e w' => e = .returned (.string (bts (Lib.itoa n))) ∧ Below w.heap.size w w' := by
  have K := hid (Tryz.strconv_Itoa n h0 h1 w ht)
  clear ht h0 h1
  go_enter Tryz.func97, Tryz.ntmps97
  go_wp2_with fail
  refine K.out.mono ?_
  rintro e w1 ⟨rfl, k, os, rfl⟩
  have hb := below_grow w k os
  generalize Go.Sort.grow (w.drewN k) os = w1 at hb ⊢
  go_wp2_with fail
  go_ret
  exact ⟨rfl, hb⟩

end Go.Proofs.YthkehmnodcmlcaaGreatDoor
