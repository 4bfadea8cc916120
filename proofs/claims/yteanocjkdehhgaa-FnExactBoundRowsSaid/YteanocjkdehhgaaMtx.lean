/- The laws' helpers over strings: a mark's text; slices of strings that hold the same, that are marked and held. -/
import Derived.Test.YteanocjkdehhgaaProg
import Derived.WalkKit
import Derived.Lib.Hide
import Derived.Deep.Quiet
import Derived.WalkSmall
import Derived.Laws.IdiomStrings
import Derived.Maps.AppendAt
import Derived.Deep.QuietTactic
import Derived.BigQuiet
import Derived.Deep.RegionHeld3
namespace Go.Proofs.Yteanocjkdehhgaa
open Go.RowKit
open Go.Lib (hid)

/-- Does the byte c occur among the first k bytes of t? -/
def hitTo (t : ByteArray) (c : UInt8) : Nat → Bool
  | 0 => false
  | k + 1 => hitTo t c k || (if h : k < t.size then t[k] == c else false)
def hitAt (s t : ByteArray) (i : Nat) : Bool := if h : i < s.size then hitTo t s[i] t.size else false

/-- After k bytes: the pieces, and where the next one begins. -/
def cutTo (s : ByteArray) (p : Nat → Bool) : Nat → List ByteArray × Nat
  | 0 => ([], 0)
  | k + 1 => if p k then ((cutTo s p k).1 ++ [s.extract (cutTo s p k).2 k], k + 1) else cutTo s p k

theorem cutTo_yes {s : ByteArray} {p : Nat → Bool} {k : Nat} (h : p k = true) : cutTo s p (k + 1) = ((cutTo s p k).1 ++ [s.extract (cutTo s p k).2 k], k + 1) := by
  simp [cutTo, h]
theorem cutTo_no {s : ByteArray} {p : Nat → Bool} {k : Nat} (h : p k = false) : cutTo s p (k + 1) = cutTo s p k := by
  simp [cutTo, h]
theorem cutTo_le (s : ByteArray) (p : Nat → Bool) : ∀ k, (cutTo s p k).2 ≤ k ∧ (cutTo s p k).1.length ≤ k
  | 0 => by simp [cutTo]
  | k + 1 => by
    have := cutTo_le s p k
    by_cases h : p k = true
    · rw [cutTo_yes h]; simp; omega
    · rw [cutTo_no (by simpa using h)]; omega
def pieces (s t : ByteArray) : List ByteArray := (cutTo s (hitAt s t) s.size).1 ++ [s.extract (cutTo s (hitAt s t) s.size).2 s.size]
theorem pieces_len (s t : ByteArray) : 1 ≤ (pieces s t).length ∧ (pieces s t).length ≤ s.size + 1 := by
  have := cutTo_le s (hitAt s t) s.size
  unfold pieces; simp; omega

/-- A slice of strings that owns its cells, from block number B on. -/
def Strs (w : World) (E B : Nat) (v : Value) (L : List ByteArray) : Prop := w.ownsRow B E 1 v L.length (L.map Value.string)

theorem Strs_nil (w : World) (E B : Nat) : Strs w E B (.slice none 0 0) [] := World.ownsRow_nil _ _ _ _
theorem Strs_snoc {w : World} {E B : Nat} {v : Value} {L : List ByteArray} {x : ByteArray} {n : Nat} {xs : List Value} (hn : n = L.length + 1) (hx : xs = L.map Value.string ++ [.string x])
    (h : w.ownsRow B E 1 v n xs) : Strs w E B v (L ++ [x]) := by
  subst hn; subst hx
  unfold Strs
  simpa using h
theorem Strs_drewN {w : World} {E B : Nat} {v : Value} {L : List ByteArray} (h : Strs w E B v L) (n : Nat) : Strs (w.drewN n) E B v L := h
theorem Strs_own {w : World} {E B : Nat} {v : Value} {L : List ByteArray} (h : Strs w E B v L) : ∀ k, v.ownBlock = some k → B ≤ k := fun k hk => (World.ownsRow.lt h k hk).1
theorem hitTo_no {t : ByteArray} {c : UInt8} {m : Nat} (hm : m < t.size) (h : hitTo t c m = false) (hne : ¬ c = t[m]) : hitTo t c (m + 1) = false := by
  have : ¬ t[m] = c := fun e => hne e.symm
  simp [hitTo, h, hm, this]
theorem hitTo_yes {t : ByteArray} {c : UInt8} {m : Nat} (hm : m < t.size) (he : c = t[m]) : hitTo t c (m + 1) = true := by
  simp [hitTo, hm, he]
theorem hitTo_mono {t : ByteArray} {c : UInt8} {m : Nat} (h : hitTo t c m = true) : ∀ n, m ≤ n → hitTo t c n = true := by
  intro n hn
  induction n with
  | zero => obtain rfl : m = 0 := by omega
            exact h
  | succ n ih =>
    by_cases e : m = n + 1
    · rw [← e]; exact h
    · simp [hitTo, ih (by omega)]
theorem hitAt_yes {s t : ByteArray} {k m : Nat} (hk : k < s.size) (hm : m < t.size) (he : s[k] = t[m]) : hitAt s t k = true := by
  simp only [hitAt, hk, dif_pos]
  exact hitTo_mono (hitTo_yes hm he) _ (by omega)
theorem hitAt_no {s t : ByteArray} {k : Nat} (hk : k < s.size) (h : hitTo t s[k] t.size = false) : hitAt s t k = false := by
  simp only [hitAt, hk, dif_pos, h]
theorem Strs_app {w0 w w1 : World} {E B : Nat} {v v' : Value} {L : List ByteArray} {x : ByteArray} {o : Obj} (h : Strs w E B v L) (hbel : Below B w0 w) (hB : B ≤ w.heap.size)
    (h' : w1.ownsRow B E 1 v' (L.length + 1) (L.map Value.string ++ [.string x])) (hg : (w.alloc o).grownBy w1 v.ownBlock) : Strs w1 E B v' (L ++ [x]) ∧ Below B w0 w1 :=
  ⟨Strs_snoc rfl rfl h', (hbel.alloc hB o).grown hg (by simp; omega) (Strs_own h)⟩
theorem cut_hit {s : ByteArray} {p : Nat → Bool} {k f : Nat} (hf : f = (cutTo s p k).2) (h : p k = true) : cutTo s p (k + 1) = ((cutTo s p k).1 ++ [s.extract f k], k + 1) := by
  rw [cutTo_yes h, hf]
theorem pieces_end {s t : ByteArray} {k f : Nat} (hf : f = (cutTo s (hitAt s t) k).2) (hk : k = s.size) : (cutTo s (hitAt s t) k).1 ++ [s.extract f s.size] = pieces s t := by
  subst hk; rw [hf]; rfl
/-- Block number B is a row of 256 bools: number c says whether the byte c is among the first k bytes of t. -/
def Tab (t : ByteArray) (T B : Nat) (w : World) (k : Nat) : Prop := ∃ cs : Array Value, w.heap[B]? = some (.cells cs T (0, 0)) ∧ cs.size = 256 ∧ ∀ c : UInt8, cs[c.toNat]? = some (.bool (hitTo t c k))
theorem Tab_start (t : ByteArray) (T : Nat) (w : World) : Tab t T w.heap.size (w.alloc (.cells (Array.replicate 256 (.bool false)) T)) 0 := by
  refine ⟨_, heap_alloc_new w _, by simp, fun c => ?_⟩
  have := c.toNat_lt
  simp [hitTo, Array.getElem?_replicate]; omega
theorem Tab_cell {t : ByteArray} {T B k : Nat} {w : World} (h : Tab t T B w k) (c : UInt8) : w.cell? ⟨B, c.toNat, none⟩ = some (.bool (hitTo t c k)) := by
  obtain ⟨cs, hb, _, hc⟩ := h
  simp [World.cell?, hb, hc c]
theorem Tab_free {t : ByteArray} {T B k : Nat} {w : World} (h : Tab t T B w k) (j : Nat) : w.frozen? ⟨B, j, none⟩ = false := by
  obtain ⟨cs, hb, _, hc⟩ := h
  simp [World.frozen?, hb]
theorem Tab_store {t : ByteArray} {T B k : Nat} {w : World} (h : Tab t T B w k) (hk : k < t.size) : Tab t T B (w.setCell ⟨B, t[k].toNat, none⟩ (.bool true)) (k + 1) := by
  obtain ⟨cs, hb, hz, hc⟩ := h
  refine ⟨cs.setIfInBounds t[k].toNat (.bool true), ?_, by simpa using hz, fun c => ?_⟩
  · simp [World.setCell, Array.getElem?_modify, hb]
  · by_cases e : c = t[k]
    · have hlt : t[k].toNat < cs.size := by rw [hz]; exact t[k].toNat_lt
      subst e
      simp [hlt, hitTo, hk]
    · have hne : ¬ t[k].toNat = c.toNat := fun g => e (UInt8.toNat_inj.mp g.symm)
      rw [Array.getElem?_setIfInBounds, if_neg hne, hc c]
      have hb : (t[k] == c) = false := by simpa using fun g : t[k] = c => e g.symm
      simp only [hitTo, hk, dif_pos, hb, Bool.or_false]
theorem Tab_below {t : ByteArray} {T B B' k : Nat} {w w' : World} (h : Tab t T B w k) (hb : Below B' w w') (hlt : B < B') : Tab t T B w' k := by
  obtain ⟨cs, h1, h2⟩ := h
  exact ⟨cs, (hb.block B hlt).trans h1, h2⟩
theorem Tab_lt {t : ByteArray} {T B k : Nat} {w : World} (h : Tab t T B w k) : B < w.heap.size := by
  obtain ⟨cs, h1, _⟩ := h
  exact (Array.getElem?_eq_some_iff.1 h1).1
theorem hitAt_is {s t : ByteArray} {k : Nat} (hk : k < s.size) : hitTo t s[k] t.size = hitAt s t k := by
  simp [hitAt, hk]
/-- What is owned above block B stays owned, what lies below stays as it was: an append's step for a row above the table. -/
theorem Strs_app_tab {w0 w w1 : World} {E T B : Nat} {v v' : Value} {L : List ByteArray} {x : ByteArray} {o : Obj} {t : ByteArray} {k : Nat} (h : Strs w E (B + 1) v L) (hbel : Below B w0 w) (ht : Tab t T B w k)
    (h' : w1.ownsRow (B + 1) E 1 v' (L.length + 1) (L.map Value.string ++ [.string x])) (hg : (w.alloc o).grownBy w1 v.ownBlock) : Strs w1 E (B + 1) v' (L ++ [x]) ∧ Below B w0 w1 ∧ Tab t T B w1 k := by
  have hlt := Tab_lt ht
  have R := Strs_app (w0 := w) h (Below.refl _ _) (by omega) h' hg
  exact ⟨R.1, hbel.trans (R.2.mono (by omega)), Tab_below ht R.2 (by omega)⟩
theorem Strs_base {w : World} {E B B' : Nat} {v : Value} {L : List ByteArray} (h : Strs w E B v L) (hB : B' ≤ B) : Strs w E B' v L := by
  refine ⟨h.1, ?_⟩
  rcases h.2 with g | ⟨b, cap, cur, h1, h2, h3⟩
  · exact .inl g
  · exact .inr ⟨b, cap, cur, h1, Nat.le_trans hB h2, h3⟩
/-- What a slice of strings of the call's own looks like: nil, or the head of a block. -/
theorem Strs_cases {w : World} {E B : Nat} {v : Value} {L : List ByteArray} (h : Strs w E B v L) :
    (v = .slice none 0 0 ∧ L = []) ∨ ∃ g cap, v = .slice (some ⟨g, 0, none⟩) L.length cap ∧ B ≤ g ∧ g < w.heap.size ∧ L.length ≤ cap := by
  rcases h.2 with ⟨h1, h2⟩ | ⟨g, cap, cur, h1, h2, h3, h4, _⟩
  · exact .inl ⟨h1, List.length_eq_zero_iff.mp h2⟩
  · exact .inr ⟨g, cap, h1, h2, (Array.getElem?_eq_some_iff.1 h3).1, h4⟩
theorem Strs_cell {w : World} {E B g n cap : Nat} {L : List ByteArray} (h : Strs w E B (.slice (some ⟨g, 0, none⟩) n cap) L) {i : Nat} (hi : i < L.length) : w.cell? ⟨g, i, none⟩ = some (.string L[i]) := by
  have hn : n = L.length := by
    rcases h.2 with ⟨h1, _⟩ | ⟨g', cap', cur, h1, _⟩
    · simp at h1
    · simp at h1; exact h1.2.1
  subst hn
  rw [World.ownsRow.cellAt h i (by omega)]
  simp [hi]
theorem Strs_free {w : World} {E B g n cap : Nat} {L : List ByteArray} (h : Strs w E B (.slice (some ⟨g, 0, none⟩) n cap) L) (i : Nat) : w.frozen? ⟨g, i, none⟩ = false := by
  have hn : n = L.length := by
    rcases h.2 with ⟨h1, _⟩ | ⟨g', cap', cur, h1, _⟩
    · simp at h1
    · simp at h1; exact h1.2.1
  subst hn
  exact World.ownsRow.frozenAt h i
theorem Strs_store {w : World} {E B g n cap : Nat} {L : List ByteArray} (h : Strs w E B (.slice (some ⟨g, 0, none⟩) n cap) L) {i : Nat} (x : ByteArray) :
    Strs (w.setCell ⟨g, i, none⟩ (.string x)) E B (.slice (some ⟨g, 0, none⟩) n cap) (L.set i x) := by
  have hn : n = L.length := by
    rcases h.2 with ⟨h1, _⟩ | ⟨g', cap', cur, h1, _⟩
    · simp at h1
    · simp at h1; exact h1.2.1
  subst hn
  have := World.ownsRow.stored h i (.string x)
  unfold Strs
  rw [List.length_set, List.map_set]
  exact this.1
theorem Strs_below {w w' : World} {E B B' : Nat} {v : Value} {L : List ByteArray} (h : Strs w E B v L) (hb : Below B' w w') (hg : ∀ k, v.ownBlock = some k → k < B') : Strs w' E B v L := by
  refine ⟨h.1, ?_⟩
  rcases h.2 with g | ⟨b, cap, cur, h1, h2, h3, h4⟩
  · exact .inl g
  · exact .inr ⟨b, cap, cur, h1, h2, (hb.block b (hg b (by rw [h1]; rfl))).trans h3, h4⟩


def mkF : Nat → Int → ByteArray → ByteArray
  | 0, _, acc => acc
  | f + 1, m, acc => if 0 < m then mkF f (m / 10) (ByteArray.mk [UInt8.ofNat (48 + m % 10).toNat].toArray ++ acc) else acc
/-- The text of the mark of number n (positive). -/
def mkTs (n : Int) : ByteArray := ByteArray.mk #[109] ++ mkF n.toNat n (ByteArray.mk #[])
theorem mkF_zero (f : Nat) (acc : ByteArray) : mkF f 0 acc = acc := by cases f <;> rfl
theorem mkF_step {f : Nat} {m : Int} {acc T : ByteArray} (h : mkF f m acc = T) (hf : m.toNat ≤ f) (hm : 0 < m) : ∃ g, (m / 10).toNat ≤ g ∧ mkF g (m / 10) (ByteArray.mk [UInt8.ofNat (48 + m % 10).toNat].toArray ++ acc) = T := by
  cases f with
  | zero => omega
  | succ g =>
    refine ⟨g, by omega, ?_⟩
    rw [← h]; simp [mkF, hm]

theorem conv1 (w : World) (z : Int) (h0 : 0 ≤ z) (h1 : z < 256) : (convert 136 9 (.slice (some ⟨w.heap.size, 0, none⟩) 1 1)).run Try.prog (w.alloc (.cells #[.int .u8 z] 5)) = .ok (.string ⟨[UInt8.ofNat z.toNat].toArray⟩) (w.alloc (.cells #[.int .u8 z] 5)) := by
  have e : (UInt8.ofNat z.toNat).toNat = z.toNat := by simp; omega
  refine run_convert_bytes_back (P := Try.prog) (w.alloc (.cells #[.int .u8 z] 5)) 136 9 5 ⟨w.heap.size, 0, none⟩ 1 [UInt8.ofNat z.toNat] Try.underlying136 Try.underlying5 Try.underlying9 (fun j hj => ?_)
  obtain rfl : j = 0 := by simp at hj; omega
  rw [cell_one_new w (.int .u8 z) 5 0 (.int .u8 z) rfl]
  simp only [List.getElem_cons_zero, e]
  rw [Int.toNat_of_nonneg h0]

theorem ret_str {a b : ByteArray} (h : a = b) : Ending.returned (.string a) = .returned (.string b) := by rw [h]

set_option maxRecDepth 100000 in
set_option maxHeartbeats 800000 in
theorem markText_any (n : Int) (h1 : 0 < n) (h2 : n ≤ 1073741824) (w : World) :
    Calls Try.prog 55 #[.int .i64 n] w fun e w' => e = .returned (.string (mkTs n)) ∧ Below w.heap.size w w' := by
  have h0 : decide (n ≤ 0) = false := decide_eq_false (by omega)
  go_enter Try.func55, Try.ntmps55
  go_wp2
  go_loopw [0, 3] (fun i x wr => ∃ (m : Int) (acc : ByteArray) (f : Nat), 0 ≤ m ∧ m ≤ n ∧ i = .int .i64 m ∧ x = .string acc ∧ acc.size + m.toNat ≤ n.toNat ∧ m.toNat ≤ f ∧ Hid (mkF f m acc = mkF n.toNat n (ByteArray.mk #[])) ∧ Below w.heap.size w wr) (fun i _ _ => (intOf i).toNat)
  case atStart => exact ⟨n, _, n.toNat, by omega, by omega, rfl, rfl, by show 0 + n.toNat ≤ _; omega, by omega, hid rfl, Below.refl _ _⟩
  case round =>
    obtain ⟨m, acc, f, hm, hm2, rfl, rfl, hz, hf, hmk, hbel⟩ := hrel
    by_cases hc : 0 < m
    · have hcv := conv1 wr (48 + m % 10) (by omega) (by omega)
      have HS := hid (mkF_step hmk.out hf hc)
      have hbs := hbel.size
      go_wp2
      go_roundw
      case rel =>
        obtain ⟨g, hg, hG⟩ := HS.out
        exact ⟨m / 10, _, g, by omega, by omega, rfl, rfl, by rw [ByteArray.size_append']; show 1 + acc.size + _ ≤ _; omega, hg, hid hG, hbel.alloc hbs _⟩
      case measure => simp [intOf]; omega
    · obtain rfl : m = 0 := by omega
      go_wp2
      go_ret
      have hT := hmk.out
      rw [mkF_zero] at hT
      exact ⟨ret_str (by rw [hT]; rfl), hbel⟩


/-- A slice value that reads as the strings L. -/
def Row (w : World) (a : Option Addr) (n : Nat) (L : List ByteArray) : Prop := n = L.length ∧ (0 < L.length → ∃ g, a = some ⟨g, 0, none⟩ ∧ ∀ i (h : i < L.length), w.cell? ⟨g, i, none⟩ = some (.string L[i]))

def DrawnS (r : Value) (w : World) (e : Ending) (w' : World) : Prop := e = .returned r ∧ ∃ d, w' = w.drewN d

set_option maxRecDepth 100000 in
set_option maxHeartbeats 800000 in
theorem eqStringS_same (a1 a2 : Option Addr) (n1 n2 c1 c2 : Nat) (L : List ByteArray) (hL : L.length ≤ 1073741824) (w : World) (h1 : Row w a1 n1 L) (h2 : Row w a2 n2 L) :
    Calls Try.prog 19 #[.slice a1 n1 c1, .slice a2 n2 c2] w (DrawnS (.bool true) w) := by
  obtain ⟨rfl, H1⟩ := h1
  obtain ⟨rfl, H2⟩ := h2
  have G1 := hid H1
  have G2 := hid H2
  clear H1 H2
  go_enter Try.func19, Try.ntmps19
  go_wp2
  go_loopw [5] (fun i wr => ∃ (k d : Nat), k ≤ L.length ∧ i = .int .i64 k ∧ wr = w.drewN d) (fun i _ => L.length - (intOf i).toNat)
  case atStart => exact ⟨0, 0, Nat.zero_le _, rfl, rfl⟩
  case round =>
    obtain ⟨k, d, hk, rfl, rfl⟩ := hrel
    by_cases hlt : k < L.length
    · obtain ⟨g1, rfl, hc1⟩ := G1.out (by omega)
      obtain ⟨g2, rfl, hc2⟩ := G2.out (by omega)
      clear G1 G2
      have q1 := hc1 k hlt
      have q2 := hc2 k hlt
      clear hc1 hc2
      have a1 : (0 : Int) ≤ k := by omega
      have a2 : (k : Int) < L.length := by omega
      go_wp2
      go_quiet (fail)
      go_wp2
      go_roundw
      case rel => exact ⟨k + 1, d + nq, by omega, by go_num, by first | rfl | exact World.drewN_drewN _ _ _⟩
      case measure => simp [intOf]; omega
    · go_wp2
      go_ret
      exact ⟨rfl, d, rfl⟩

def marksS (n : Nat) : List ByteArray := (List.range n).map fun i : Nat => mkTs (1 + (i : Int))
theorem marks_lenS (n : Nat) : (marksS n).length = n := by simp [marksS]
theorem marks_atS {n i : Nat} (h : i < (marksS n).length) : (marksS n)[i] = mkTs (1 + (i : Int)) := by simp [marksS]
/-- The list L with its first k places markedS. -/
def markedS (L : List ByteArray) (k : Nat) : List ByteArray := marksS k ++ L.drop k
theorem marked_zeroS (L : List ByteArray) : markedS L 0 = L := by simp [markedS, marksS]
theorem marked_lenS {L : List ByteArray} {k : Nat} (h : k ≤ L.length) : (markedS L k).length = L.length := by simp [markedS, marks_lenS]; omega
theorem marked_allS (L : List ByteArray) : markedS L L.length = marksS L.length := by simp [markedS]
theorem marked_setS {L : List ByteArray} {k : Nat} (h : k < L.length) : (markedS L k).set k (mkTs (1 + (k : Int))) = markedS L (k + 1) := by
  apply List.ext_getElem
  · simp [markedS, marks_lenS]; omega
  · intro i h1 h2
    by_cases e : i = k
    · subst e
      simp [markedS, marksS]
    · rw [List.getElem_set_ne (Ne.symm e)]
      simp only [markedS, List.getElem_append, marks_lenS]
      by_cases h3 : i < k
      · have h4 : i < k + 1 := by omega
        simp [marksS, h3, h4]
      · have h4 : ¬ i < k + 1 := by omega
        simp only [h3, h4, dif_neg, not_false_eq_true, List.getElem_drop]
        congr 1; omega

def MarkPost (B : Nat) (v : Value) (n : Nat) (w : World) (e : Ending) (w' : World) : Prop := e = .returned (.int .i64 (1 + n)) ∧ Strs w' 9 B v (marksS n) ∧ Below B w w'

set_option maxRecDepth 100000 in
set_option maxHeartbeats 800000 in
theorem markStringS_any (B g c : Nat) (L : List ByteArray) (hL : L.length ≤ 1073741000) (w : World) (hw : Strs w 9 B (.slice (some ⟨g, 0, none⟩) L.length c) L) (hB : B ≤ g) (hg : g < w.heap.size) :
    Calls Try.prog 22 #[.slice (some ⟨g, 0, none⟩) L.length c, .int .i64 1] w (MarkPost B (.slice (some ⟨g, 0, none⟩) L.length c) L.length w) := by
  go_enter Try.func22, Try.ntmps22
  go_wp2
  go_loopw [1, 5] (fun x i wr => ∃ (k : Nat), k ≤ L.length ∧ i = .int .i64 k ∧ x = .int .i64 (1 + k) ∧ Strs wr 9 B (.slice (some ⟨g, 0, none⟩) L.length c) (markedS L k) ∧ Below B w wr) (fun _ i _ => L.length - (intOf i).toNat)
  case atStart => exact ⟨0, Nat.zero_le _, rfl, rfl, by rw [marked_zeroS]; exact hw, Below.refl _ _⟩
  case round =>
    obtain ⟨k, hk, rfl, rfl, hown, hbel⟩ := hrel
    have hsz := hbel.size
    by_cases hlt : k < L.length
    · have a1 : (0 : Int) ≤ k := by omega
      have a2 : (k : Int) < L.length := by omega
      have hl := marked_lenS (L := L) (k := k) (by omega)
      go_wp2_with (go_at_call 55; refine (markText_any _ (by omega) (by omega) _).mono ?_; rintro e w1 ⟨rfl, hb1⟩; have hown1 := Strs_below hown hb1 (by intro q hq; simp [Value.ownBlock] at hq; omega); have hbel1 := hbel.trans (hb1.mono (by omega)); have hcell := Strs_cell hown1 (show k < _ by omega); have hfree := Strs_free hown1 k; have hst := hid (Strs_store hown1 (i := k) (mkTs (1 + (k : Int)))); clear hown1 hown hbel hb1)
      go_roundw
      case rel =>
        have hs := hst.out
        rw [marked_setS hlt] at hs
        exact ⟨k + 1, by omega, by go_num, by rw [show ((k + 1 : Nat) : Int) = (k : Int) + 1 by omega, Int.add_assoc], hs, hbel1.setCell hB _⟩
      case measure => simp [intOf]; omega
    · obtain rfl : k = L.length := by omega
      go_wp2
      go_ret
      rw [marked_allS] at hown
      exact ⟨rfl, hown, hbel⟩

def HeldPost (n : Nat) (w : World) (e : Ending) (w' : World) : Prop := e = .returned (.int .i64 (1 + n)) ∧ Below w.heap.size w w'

set_option maxRecDepth 100000 in
set_option maxHeartbeats 800000 in
theorem heldStringS_any (B g c n : Nat) (hn : n ≤ 1073741000) (w : World) (hw : Strs w 9 B (.slice (some ⟨g, 0, none⟩) n c) (marksS n)) (hg : g < w.heap.size) :
    Calls Try.prog 23 #[.slice (some ⟨g, 0, none⟩) n c, .int .i64 1] w (HeldPost n w) := by
  go_enter Try.func23, Try.ntmps23
  go_wp2
  go_loopw [1, 5] (fun x i wr => ∃ (k : Nat), k ≤ n ∧ i = .int .i64 k ∧ x = .int .i64 (1 + k) ∧ Below w.heap.size w wr) (fun _ i _ => n - (intOf i).toNat)
  case atStart => exact ⟨0, Nat.zero_le _, rfl, rfl, Below.refl _ _⟩
  case round =>
    obtain ⟨k, hk, rfl, rfl, hbel⟩ := hrel
    have hsz := hbel.size
    by_cases hlt : k < n
    · have a1 : (0 : Int) ≤ k := by omega
      have a2 : (k : Int) < n := by omega
      have hcell : wr.cell? ⟨g, k, none⟩ = some (.string (mkTs (1 + (k : Int)))) := by
        rw [hbel.cell (p := ⟨g, k, none⟩) hg, Strs_cell hw (i := k) (by rw [marks_lenS]; exact hlt), marks_atS]
      go_wp2_with fail
      go_region_held3 (fun w' => w'.cell? ⟨g, k, none⟩ = some (.string (mkTs (1 + (k : Int))))) (first | go_keep | (rw [hb1.cell (p := ⟨g, k, none⟩) (by simp; omega)]; simp [*])) (first | (go_at_call 55; refine (markText_any _ (by omega) (by omega) _).mono ?_; rintro e w1 ⟨rfl, hb1⟩))
      go_wp2
      go_roundw
      case rel =>
        exact ⟨k + 1, by omega, by go_num, by rw [show ((k + 1 : Nat) : Int) = (k : Int) + 1 by omega, Int.add_assoc], hbel.drew.trans (hb1.mono hsz)⟩
      case measure => simp [intOf]; omega
    · obtain rfl : k = n := by omega
      go_wp2
      go_ret
      exact ⟨rfl, hbel⟩

/-- A function's own slice of strings, not nil. -/
def OwnPost (L : List ByteArray) (w : World) (e : Ending) (w' : World) : Prop :=
  ∃ g cap, e = .returned (.slice (some ⟨g, 0, none⟩) L.length cap) ∧ w.heap.size ≤ g ∧ g < w'.heap.size ∧ Strs w' 9 w.heap.size (.slice (some ⟨g, 0, none⟩) L.length cap) L ∧ Below w.heap.size w w'
theorem OwnPost_of {L : List ByteArray} {w w' : World} {e : Ending} (hL : 0 < L.length) (h : ∃ v, e = .returned v ∧ Strs w' 9 w.heap.size v L ∧ Below w.heap.size w w') : OwnPost L w e w' := by
  obtain ⟨v, rfl, hs, hb⟩ := h
  rcases Strs_cases hs with ⟨_, h0⟩ | ⟨g, cap, rfl, h1, h2, _⟩
  · rw [h0] at hL; cases hL
  · exact ⟨g, cap, rfl, h1, h2, hs, hb⟩
theorem Row_of {w : World} {B g cap : Nat} {L : List ByteArray} (h : Strs w 9 B (.slice (some ⟨g, 0, none⟩) L.length cap) L) : Row w (some ⟨g, 0, none⟩) L.length L :=
  ⟨rfl, fun _ => ⟨g, rfl, fun _ hi => Strs_cell h hi⟩⟩
theorem Row_below {w w' : World} {B B' g cap : Nat} {L : List ByteArray} (h : Strs w 9 B (.slice (some ⟨g, 0, none⟩) L.length cap) L) (hb : Below B' w w') (hg : g < B') : Row w' (some ⟨g, 0, none⟩) L.length L :=
  Row_of (Strs_below h hb (by intro k hk; simp [Value.ownBlock] at hk; omega))
theorem Strs_keep {w w' : World} {B B' g n cap : Nat} {L : List ByteArray} (h : Strs w 9 B (.slice (some ⟨g, 0, none⟩) n cap) L) (hb : Below B' w w') (hg : g < B') : Strs w' 9 B (.slice (some ⟨g, 0, none⟩) n cap) L :=
  Strs_below h hb (by intro k hk; simp [Value.ownBlock] at hk; omega)
theorem Strs_init {w : World} {E B g m cap : Nat} {L : List ByteArray} (hm : L.length = m + 1) (h : Strs w E B (.slice (some ⟨g, 0, none⟩) (m + 1) cap) L) : Strs w E B (.slice (some ⟨g, 0, none⟩) m cap) L.dropLast := by
  obtain ⟨h1, h2⟩ := h
  rcases h2 with ⟨h2, _⟩ | ⟨g', cap', cur, h2, h3, h4, h5, h6, h7, h8⟩
  · simp at h2
  · simp at h2
    obtain ⟨rfl, _, rfl⟩ := h2
    have hl : L.dropLast.length = m := by simp; omega
    refine ⟨by simp, .inr ⟨g, cap, cur, by rw [hl], h3, h4, by rw [hl]; omega, h6, h7, ?_⟩⟩
    have e : L.dropLast.map Value.string = (L.map Value.string).take (L.dropLast.length * 1) := by
      rw [List.dropLast_eq_take, List.map_take, ← List.dropLast_eq_take]
      congr 1
      simp
    rw [e, ← h8, List.take_take]
    congr 1; rw [hl]; omega
theorem Strs_old {w w' : World} {E B : Nat} {v : Value} {L : List ByteArray} (h : Strs w E B v L) (hb : Below w.heap.size w w') : Strs w' E B v L := Strs_below h hb fun k hk => (World.ownsRow.lt h k hk).2
theorem Strs_sh {w : World} {E B n c : Nat} {a : Option Addr} {L : List ByteArray} (h : Strs w E B (.slice a n c) L) : n = L.length ∧ (0 < L.length → ∃ g, a = some ⟨g, 0, none⟩ ∧ g < w.heap.size) ∧ L.length ≤ c := by
  rcases h.2 with ⟨h1, h2⟩ | ⟨g, cap, cur, h1, h2, h3, h4, -⟩
  · simp only [Value.slice.injEq] at h1
    exact ⟨by omega, fun h0 => by omega, by omega⟩
  · simp only [Value.slice.injEq] at h1
    exact ⟨h1.2.1, fun _ => ⟨g, h1.1, (Array.getElem?_eq_some_iff.1 h3).1⟩, by rw [h1.2.2]; exact h4⟩
theorem infoStr : (Try.prog.info? 9).map (fun i => (i.zero, i.size, i.bytes)) = some (some (.string ByteArray.empty), 1, 16) := by kernel_rfl
end Go.Proofs.Yteanocjkdehhgaa
