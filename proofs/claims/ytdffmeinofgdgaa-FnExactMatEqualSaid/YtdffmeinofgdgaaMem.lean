/- Slices of ints: a slice that reads as a list; a row of the call's own; what a call leaves as it was. -/
import Derived.Test.YtdffmeinofgdgaaProg
import Derived.Test.YtdffmeinofgdgaaVal
import Derived.WalkKit
import Derived.Lib.Hide
import Derived.Below
import Derived.Maps.AppendAt
import Derived.Deep.QuietTactic
import Derived.BigQuiet
import Derived.Deep.RegionHeld3
import Derived.WalkSmall
import Derived.IntWalk
import Derived.Deep.OwnRows
import Derived.OpenShut
import Derived.Laws.OwnMore
namespace Go.Proofs.Ytdffmeinofgdgaa
open Go.RowKit
open Go.Lib (hid)

theorem Try.info3 : (Try.prog.info? 3).map (fun i => (i.zero, i.size, i.bytes)) = some (some (.int .i64 0), 1, 8) := by kernel_rfl

/-- A slice value that reads as the ints L, from place o of block g on. -/
def RowI (w : World) (a : Option Addr) (n : Nat) (L : List Int) : Prop :=
  n = L.length ∧ (0 < L.length → ∃ g o, a = some ⟨g, o, none⟩ ∧ g < w.heap.size ∧ ∀ i (h : i < L.length), w.cell? ⟨g, o + i, none⟩ = some (.int .i64 L[i]))
/-- The slice does not lie in the blocks S. -/
def Apart (S : Nat → Prop) (a : Option Addr) : Prop := ∀ x, a = some x → ¬ S x.block
/-- Nothing has changed but the blocks S. -/
structure Only (S : Nat → Prop) (w w' : World) : Prop where
  os : w'.os = w.os
  tape : w'.tape = w.tape
  output : w'.output = w.output
  size : w.heap.size ≤ w'.heap.size
  block : ∀ k, ¬ S k → w'.heap[k]? = w.heap[k]?
theorem Only.refl (S : Nat → Prop) (w : World) : Only S w w := ⟨rfl, rfl, rfl, Nat.le_refl _, fun _ _ => rfl⟩
theorem Only.trans {S : Nat → Prop} {a b c : World} (h : Only S a b) (k : Only S b c) : Only S a c :=
  ⟨k.os.trans h.os, k.tape.trans h.tape, k.output.trans h.output, Nat.le_trans h.size k.size, fun i hi => (k.block i hi).trans (h.block i hi)⟩
theorem Only.drewN {S : Nat → Prop} {a w : World} (h : Only S a w) (n : Nat) : Only S a (w.drewN n) := ⟨h.os, h.tape, h.output, h.size, h.block⟩
theorem Only.below {S : Nat → Prop} {w w' : World} {B : Nat} (h : Only S w w') (hB : ∀ k, k < B → ¬ S k) : Below B w w' := ⟨h.os, h.tape, h.output, h.size, fun k hk => h.block k (hB k hk)⟩
theorem Only.of_below {S : Nat → Prop} {w w' : World} {B : Nat} (h : Below B w w') (hB : ∀ k, B ≤ k → S k) : Only S w w' :=
  ⟨h.os, h.tape, h.output, h.size, fun k hk => h.block k (Nat.lt_of_not_le fun hb => hk (hB k hb))⟩
theorem Only.alloc {S : Nat → Prop} {a w : World} (h : Only S a w) (hS : S w.heap.size) (o : Obj) : Only S a (w.alloc o) :=
  h.trans ⟨rfl, rfl, rfl, by simp, fun k hk => by
    have hne : k ≠ w.heap.size := fun e => hk (by rw [e]; exact hS)
    show (w.heap.push o)[k]? = _
    rw [Array.getElem?_push, if_neg hne]⟩
theorem Only.setCell {S : Nat → Prop} {a w : World} (h : Only S a w) {p : Addr} (hp : S p.block) (u : Value) : Only S a (w.setCell p u) :=
  h.trans ⟨rfl, rfl, rfl, by simp [World.setCell], fun k hk => Below.heap_setCell _ _ _ _ (fun e => hk (by rw [e]; exact hp))⟩
theorem Only.grown {S : Nat → Prop} {a w w' : World} {row : Option Nat} (h : Only S a w) (hg : w.grownBy w' row) (hS : ∀ k, w.heap.size ≤ k → S k) (hr : ∀ k, row = some k → S k) : Only S a w' :=
  h.trans ⟨hg.os, hg.tape, hg.output, hg.size, fun k hk => hg.block k (Nat.lt_of_not_le fun hb => hk (hS k hb)) (fun e => hk (hr k e.symm))⟩
theorem Only.mono {S S' : Nat → Prop} {w w' : World} (h : Only S w w') (hS : ∀ k, S k → S' k) : Only S' w w' :=
  ⟨h.os, h.tape, h.output, h.size, fun k hk => h.block k (fun hs => hk (hS k hs))⟩
theorem Only.cell {S : Nat → Prop} {w w' : World} (h : Only S w w') {p : Addr} (hp : ¬ S p.block) : w'.cell? p = w.cell? p := World.cell?_of_block (w := w) (h.block p.block hp)

theorem RowI_nil (w : World) (a : Option Addr) : RowI w a 0 [] := ⟨rfl, fun h => by cases h⟩
theorem RowI_only {S : Nat → Prop} {w w' : World} {a : Option Addr} {n : Nat} {L : List Int} (h : RowI w a n L) (ho : Only S w w') (ha : Apart S a) : RowI w' a n L := by
  refine ⟨h.1, fun h0 => ?_⟩
  obtain ⟨g, o, rfl, hg, hc⟩ := h.2 h0
  exact ⟨g, o, rfl, Nat.lt_of_lt_of_le hg ho.size, fun i hi => (ho.cell (p := ⟨g, o + i, none⟩) (ha ⟨g, o, none⟩ rfl)).trans (hc i hi)⟩
theorem RowI_below {B : Nat} {w w' : World} {a : Option Addr} {n : Nat} {L : List Int} (h : RowI w a n L) (ho : Below B w w') (ha : ∀ x, a = some x → x.block < B) : RowI w' a n L := by
  refine ⟨h.1, fun h0 => ?_⟩
  obtain ⟨g, o, rfl, hg, hc⟩ := h.2 h0
  exact ⟨g, o, rfl, Nat.lt_of_lt_of_le hg ho.size, fun i hi => (ho.cell (p := ⟨g, o + i, none⟩) (ha ⟨g, o, none⟩ rfl)).trans (hc i hi)⟩
theorem RowI_drewN {w : World} {a : Option Addr} {n : Nat} {L : List Int} (h : RowI w a n L) (d : Nat) : RowI (w.drewN d) a n L := h
/-- What came in stays as it was. -/
theorem RowI_old {w w' : World} {a : Option Addr} {n : Nat} {L : List Int} (h : RowI w a n L) (ho : Below w.heap.size w w') : RowI w' a n L := by
  refine ⟨h.1, fun h0 => ?_⟩
  obtain ⟨g, o, rfl, hg, hc⟩ := h.2 h0
  exact ⟨g, o, rfl, Nat.lt_of_lt_of_le hg ho.size, fun i hi => (ho.cell (p := ⟨g, o + i, none⟩) hg).trans (hc i hi)⟩

/-- The slice v is a row of the call's own, from block B on, and holds the ints L. -/
def Ints (w : World) (B : Nat) (v : Value) (L : List Int) : Prop := w.ownsRow B 3 1 v L.length (L.map (Value.int .i64))
theorem Ints_nil (w : World) (B : Nat) : Ints w B (.slice none 0 0) [] := World.ownsRow_nil _ _ _ _
theorem Ints_base {w : World} {B B' : Nat} {v : Value} {L : List Int} (h : Ints w B v L) (hB : B' ≤ B) : Ints w B' v L := by
  refine ⟨h.1, ?_⟩
  rcases h.2 with g | ⟨b, cap, cur, h1, h2, h3⟩
  · exact .inl g
  · exact .inr ⟨b, cap, cur, h1, Nat.le_trans hB h2, h3⟩
theorem Ints_cases {w : World} {B : Nat} {v : Value} {L : List Int} (h : Ints w B v L) :
    (v = .slice none 0 0 ∧ L = []) ∨ ∃ g cap, v = .slice (some ⟨g, 0, none⟩) L.length cap ∧ B ≤ g ∧ g < w.heap.size ∧ L.length ≤ cap := by
  rcases h.2 with ⟨h1, h2⟩ | ⟨g, cap, cur, h1, h2, h3, h4, _⟩
  · exact .inl ⟨h1, List.length_eq_zero_iff.mp h2⟩
  · exact .inr ⟨g, cap, h1, h2, (Array.getElem?_eq_some_iff.1 h3).1, h4⟩
theorem Ints_num {w : World} {B g n cap : Nat} {L : List Int} (h : Ints w B (.slice (some ⟨g, 0, none⟩) n cap) L) : n = L.length := by
  rcases h.2 with ⟨h1, _⟩ | ⟨g', cap', cur, h1, _⟩
  · simp at h1
  · simp at h1; exact h1.2.1
theorem Ints_cell {w : World} {B g n cap : Nat} {L : List Int} (h : Ints w B (.slice (some ⟨g, 0, none⟩) n cap) L) {i : Nat} (hi : i < L.length) : w.cell? ⟨g, i, none⟩ = some (.int .i64 L[i]) := by
  have hn := Ints_num h
  subst hn
  rw [World.ownsRow.cellAt h i (by omega)]
  simp [hi]
theorem Ints_free {w : World} {B g n cap : Nat} {L : List Int} (h : Ints w B (.slice (some ⟨g, 0, none⟩) n cap) L) (i : Nat) : w.frozen? ⟨g, i, none⟩ = false := by
  have hn := Ints_num h
  subst hn
  exact World.ownsRow.frozenAt h i
theorem Ints_store {w : World} {B g n cap : Nat} {L : List Int} (h : Ints w B (.slice (some ⟨g, 0, none⟩) n cap) L) {i : Nat} (x : Int) :
    Ints (w.setCell ⟨g, i, none⟩ (.int .i64 x)) B (.slice (some ⟨g, 0, none⟩) n cap) (L.set i x) := by
  have hn := Ints_num h
  subst hn
  have := World.ownsRow.stored h i (.int .i64 x)
  unfold Ints
  rw [List.length_set, List.map_set]
  exact this.1
theorem Ints_block {w w' : World} {B : Nat} {v : Value} {L : List Int} (h : Ints w B v L) (hb : ∀ k, v.ownBlock = some k → w'.heap[k]? = w.heap[k]?) : Ints w' B v L := by
  refine ⟨h.1, ?_⟩
  rcases h.2 with g | ⟨b, cap, cur, h1, h2, h3, h4⟩
  · exact .inl g
  · exact .inr ⟨b, cap, cur, h1, h2, (hb b (by rw [h1]; rfl)).trans h3, h4⟩
theorem Ints_below {w w' : World} {B B' : Nat} {v : Value} {L : List Int} (h : Ints w B v L) (hb : Below B' w w') (hg : ∀ k, v.ownBlock = some k → k < B') : Ints w' B v L := Ints_block h fun k hk => hb.block k (hg k hk)
theorem Ints_only {S : Nat → Prop} {w w' : World} {B : Nat} {v : Value} {L : List Int} (h : Ints w B v L) (hb : Only S w w') (hg : ∀ k, v.ownBlock = some k → ¬ S k) : Ints w' B v L := Ints_block h fun k hk => hb.block k (hg k hk)
theorem Ints_lt {w : World} {B : Nat} {v : Value} {L : List Int} (h : Ints w B v L) : ∀ k, v.ownBlock = some k → B ≤ k ∧ k < w.heap.size := by
  intro k hk
  rcases Ints_cases h with ⟨rfl, _⟩ | ⟨g, cap, rfl, h1, h2, _⟩
  · simp [Value.ownBlock] at hk
  · simp [Value.ownBlock] at hk; omega
theorem Ints_len {w : World} {B : Nat} {v : Value} {L : List Int} (h : Ints w B v L) : L.length ≤ maxLen := by
  rcases h.2 with ⟨_, h2⟩ | ⟨b, cap, cur, h1, h2, h3, h4, h5, _⟩ <;> omega
/-- A row of one's own is a slice that reads as its list. -/
theorem Ints_form {w : World} {B : Nat} {v : Value} {L : List Int} (h : Ints w B v L) : ∃ a c, v = .slice a L.length c ∧ L.length ≤ c ∧ RowI w a L.length L ∧ (∀ x, a = some x → B ≤ x.block ∧ x.block < w.heap.size) := by
  rcases Ints_cases h with ⟨rfl, rfl⟩ | ⟨g, cap, rfl, h1, h2, h3⟩
  · exact ⟨none, 0, rfl, Nat.le_refl _, RowI_nil _ _, fun x hx => by cases hx⟩
  · exact ⟨_, cap, rfl, h3, ⟨rfl, fun _ => ⟨g, 0, rfl, h2, fun i hi => by rw [Nat.zero_add]; exact Ints_cell h hi⟩⟩, fun x hx => by cases hx; exact ⟨h1, h2⟩⟩
theorem Ints_made {w : World} {B : Nat} (h : B ≤ w.heap.size) (n : Nat) (hn : n ≤ maxLen) : Ints (w.alloc (.cells (madeCells #[.int .i64 0] n) 3)) B (.slice (some ⟨w.heap.size, 0, none⟩) n n) (List.replicate n 0) := by
  refine ⟨by simp, .inr ⟨w.heap.size, n, _, by simp, h, heap_alloc_new w _, by simp, hn, by simp [madeCells], ?_⟩⟩
  rw [toList_madeCells_one]
  simp
theorem Ints_snoc {w : World} {B : Nat} {v : Value} {L : List Int} {x : Int} (h : w.ownsRow B 3 1 v (L.length + 1) (L.map (Value.int .i64) ++ [.int .i64 x])) : Ints w B v (L ++ [x]) := by
  unfold Ints
  simpa using h
/-- What the function returns: a slice of its own that reads as L, nothing old has changed. -/
def OwnP (L : List Int) (w : World) (e : Ending) (w' : World) : Prop := ∃ v, e = .returned v ∧ Ints w' w.heap.size v L ∧ Below w.heap.size w w'
theorem OwnP_mk {L : List Int} {w w' : World} {e : Ending} {v : Value} {B : Nat} (hB : B = w.heap.size) (he : e = .returned v) (h : Ints w' B v L) (hb : Below B w w') : OwnP L w e w' := by
  subst hB; exact ⟨v, he, h, hb⟩
end Go.Proofs.Ytdffmeinofgdgaa
