/- What the laws hold while they call: slices of their own, each between two heights of the heap; the helpers' contracts in these words. -/
import Derived.Test.YtdffmeinofgdgaaHlp
import Derived.Test.YtdffmeinofgdgaaOf
namespace Go.Proofs.Ytdffmeinofgdgaa
open Go.RowKit
open Go.Lib (hid)
set_option linter.unusedVariables false

/-- A call that changes nothing old, and returns r. -/
def RetB (r : Value) (w : World) (e : Ending) (w' : World) : Prop := e = .returned r ∧ Below w.heap.size w w'
theorem RetB_of_drew {P : Program} {f : FuncId} {args : Array Value} {w : World} {r : Value} (h : Calls P f args w (Drew r w)) : Calls P f args w (RetB r w) :=
  h.mono fun e w' ⟨he, d, hw⟩ => ⟨he, by subst hw; exact ⟨rfl, rfl, rfl, Nat.le_refl _, fun _ _ => rfl⟩⟩
theorem RetB_of_drawn {P : Program} {f : FuncId} {args : Array Value} {w : World} {r : Value} (h : Calls P f args w (Drawn r w)) : Calls P f args w (RetB r w) :=
  h.mono fun e w' ⟨he, d, hw⟩ => ⟨he, by subst hw; exact ⟨rfl, rfl, rfl, Nat.le_refl _, fun _ _ => rfl⟩⟩
theorem RetB_of_same {P : Program} {f : FuncId} {args : Array Value} {w : World} {r : Value} (h : Calls P f args w fun e w' => e = .returned r ∧ w = w') : Calls P f args w (RetB r w) :=
  h.mono fun e w' ⟨he, hw⟩ => ⟨he, by subst hw; exact Below.refl _ _⟩

/-- A slice of ints of the law's own: it holds L and lies from lo on, below hi. -/
structure Obj (w : World) (v : Value) (L : List Int) (lo hi : Nat) : Prop where
  ints : Ints w lo v L
  high : ∀ k, v.ownBlock = some k → k < hi
theorem Obj.old {w w' : World} {v : Value} {L : List Int} {lo hi : Nat} (h : Obj w v L lo hi) (hb : Below w.heap.size w w') : Obj w' v L lo hi :=
  ⟨Ints_below h.ints hb fun k hk => (Ints_lt h.ints k hk).2, h.high⟩
def InS (lo hi : Nat) (k : Nat) : Prop := lo ≤ k ∧ k < hi
theorem Obj.only {w w' : World} {v : Value} {L : List Int} {lo hi a b : Nat} (h : Obj w v L lo hi) (hb : Only (InS a b) w w') (hd : hi ≤ a ∨ b ≤ lo) : Obj w' v L lo hi :=
  ⟨Ints_only h.ints hb fun k hk hs => by
    have := h.high k hk
    have := (Ints_lt h.ints k hk).1
    have := hs.1
    have := hs.2
    omega, h.high⟩
theorem Obj.of {w w' : World} {v : Value} {L : List Int} (h : Ints w' w.heap.size v L) : Obj w' v L w.heap.size w'.heap.size := ⟨h, fun k hk => (Ints_lt h k hk).2⟩
theorem RowI_in_only {w w' : World} {a : Option Addr} {n lo hi : Nat} {L : List Int} (h : RowI w a n L) (hb : Only (InS lo hi) w w') (hlo : w.heap.size ≤ lo) : RowI w' a n L := by
  refine ⟨h.1, fun h0 => ?_⟩
  obtain ⟨g, o, rfl, hg, hc⟩ := h.2 h0
  exact ⟨g, o, rfl, Nat.lt_of_lt_of_le hg hb.size, fun i hi' => (hb.cell (p := ⟨g, o + i, none⟩) (fun hs => by have := hs.1; simp at this; omega)).trans (hc i hi')⟩
/-- What came in: it reads as L and lies below the height h. -/
def Came (w : World) (h : Nat) (a : Option Addr) (n : Nat) (L : List Int) : Prop :=
  n = L.length ∧ (0 < L.length → ∃ g o, a = some ⟨g, o, none⟩ ∧ g < h ∧ g < w.heap.size ∧ ∀ i (hi : i < L.length), w.cell? ⟨g, o + i, none⟩ = some (.int .i64 L[i]))
theorem Came.row {w : World} {h n : Nat} {a : Option Addr} {L : List Int} (c : Came w h a n L) : RowI w a n L :=
  ⟨c.1, fun h0 => by obtain ⟨g, o, e, _, hg, hc⟩ := c.2 h0; exact ⟨g, o, e, hg, hc⟩⟩
theorem Came.of {w : World} {n : Nat} {a : Option Addr} {L : List Int} (c : RowI w a n L) : Came w w.heap.size a n L :=
  ⟨c.1, fun h0 => by obtain ⟨g, o, e, hg, hc⟩ := c.2 h0; exact ⟨g, o, e, hg, hg, hc⟩⟩
theorem Came.old {w w' : World} {h n : Nat} {a : Option Addr} {L : List Int} (c : Came w h a n L) (hb : Below w.heap.size w w') : Came w' h a n L :=
  ⟨c.1, fun h0 => by
    obtain ⟨g, o, e, hh, hg, hc⟩ := c.2 h0
    exact ⟨g, o, e, hh, Nat.lt_of_lt_of_le hg hb.size, fun i hi => (hb.cell (p := ⟨g, o + i, none⟩) hg).trans (hc i hi)⟩⟩
theorem Came.only {w w' : World} {h n lo hi : Nat} {a : Option Addr} {L : List Int} (c : Came w h a n L) (hb : Only (InS lo hi) w w') (hlo : h ≤ lo) : Came w' h a n L :=
  ⟨c.1, fun h0 => by
    obtain ⟨g, o, e, hh, hg, hc⟩ := c.2 h0
    exact ⟨g, o, e, hh, Nat.lt_of_lt_of_le hg hb.size, fun i hi' => (hb.cell (p := ⟨g, o + i, none⟩) (fun hs => by have := hs.1; simp at this; omega)).trans (hc i hi')⟩⟩
theorem in_only {w w' w0 : World} {lo hi : Nat} (h : Below w0.heap.size w0 w) (hb : Only (InS lo hi) w w') (hlo : w0.heap.size ≤ lo) : Below w0.heap.size w0 w' :=
  h.trans (hb.below fun k hk hs => by have := hs.1; omega)

theorem toIntS_came (a : Option Addr) (n c h : Nat) (L : List Int) (hL : L.length ≤ 1073741824) (w : World) (h1 : Came w h a n L) :
    Calls Try.prog 23 #[.slice a n c] w (OwnP L w) := toIntS_any a n c L hL w h1.row
theorem eqIntS_obj (v1 v2 : Value) (L : List Int) (l1 u1 l2 u2 : Nat) (hL : L.length ≤ 1073741824) (w : World) (h1 : Obj w v1 L l1 u1) (h2 : Obj w v2 L l2 u2) :
    Calls Try.prog 25 #[v1, v2] w (RetB (.bool true) w) := by
  obtain ⟨a1, c1, rfl, -, r1, -⟩ := Ints_form h1.ints
  obtain ⟨a2, c2, rfl, -, r2, -⟩ := Ints_form h2.ints
  exact RetB_of_drawn (eqIntS_same a1 a2 _ _ c1 c2 L hL w r1 r2)
def MarkO (v : Value) (n : Nat) (m : Int) (lo hi : Nat) (w : World) (e : Ending) (w' : World) : Prop := e = .returned (.int .i64 (m + n)) ∧ Obj w' v (marks n m) lo hi ∧ Only (InS lo hi) w w'
theorem markIntS_obj (v : Value) (L : List Int) (m : Int) (lo hi : Nat) (hL : L.length ≤ 1073741000) (m0 : 0 ≤ m) (m1 : m ≤ 1073741000) (w : World) (h : Obj w v L lo hi) :
    Calls Try.prog 26 #[v, .int .i64 m] w (MarkO v L.length m lo hi w) :=
  (markIntS_any lo v L m hL m0 m1 (InS lo hi) w h.ints (fun k hk => ⟨(Ints_lt h.ints k hk).1, h.high k hk⟩)).mono fun _ _ ⟨he, hi, ho⟩ => ⟨he, ⟨hi, h.high⟩, ho⟩
theorem heldIntS_obj (v : Value) (n : Nat) (m : Int) (lo hi : Nat) (hn : n ≤ 1073741000) (m0 : 0 ≤ m) (m1 : m ≤ 1073741000) (w : World) (h : Obj w v (marks n m) lo hi) :
    Calls Try.prog 60 #[v, .int .i64 m] w (RetB (.int .i64 (m + n)) w) := by
  obtain ⟨a1, c1, rfl, -, r1, -⟩ := Ints_form h.ints
  rw [marks_len] at r1 ⊢
  exact RetB_of_drawn (heldIntS_any a1 c1 n m hn m0 m1 w r1)
/-- A function of a slice that reads it only. -/
theorem obj1 {P : Program} {f : FuncId} {R : World → Ending → World → Prop} {w : World} {v : Value} {A : List Int} {lo hi : Nat}
    (C : ∀ (a : Option Addr) (n c : Nat), RowI w a n A → Calls P f #[.slice a n c] w (R w)) (h : Obj w v A lo hi) : Calls P f #[v] w (R w) := by
  obtain ⟨a1, c1, rfl, -, r1, -⟩ := Ints_form h.ints
  exact C _ _ _ r1
theorem obj2 {P : Program} {f : FuncId} {R : World → Ending → World → Prop} {w : World} {v u : Value} {A B : List Int} {lo hi lo' hi' : Nat}
    (C : ∀ (a b : Option Addr) (n m c d : Nat), RowI w a n A → RowI w b m B → Calls P f #[.slice a n c, .slice b m d] w (R w)) (h : Obj w v A lo hi) (h' : Obj w u B lo' hi') : Calls P f #[v, u] w (R w) := by
  obtain ⟨a1, c1, rfl, -, r1, -⟩ := Ints_form h.ints
  obtain ⟨a2, c2, rfl, -, r2, -⟩ := Ints_form h'.ints
  exact C _ _ _ _ _ _ r1 r2
theorem RowI_came {w : World} {a : Option Addr} {len cap : Nat} {zs : List Int}
    (h : (a = none ∧ len = 0 ∧ cap = 0 ∧ zs = []) ∨ ∃ x, a = some x ∧ len ≤ cap ∧ cap ≤ maxLen ∧ zs.length = cap ∧ (∀ i, i < zs.length → w.cell? (x.add i) = some (.int .i64 (zs.getD i 0))) ∧ ∀ n ∈ zs, (Lit.int .i64 n).wf = true) :
    ∃ L, RowI w a len L ∧ len ≤ maxLen ∧ ∀ n ∈ L, (Lit.int .i64 n).wf = true := by
  rcases h with ⟨rfl, rfl, rfl, rfl⟩ | ⟨x, rfl, hl, hm, hz, hc, hw⟩
  · exact ⟨[], RowI_nil _ _, by unfold maxLen; omega, fun n h => by cases h⟩
  · have hlen : (zs.take len).length = len := by simp; omega
    refine ⟨zs.take len, ⟨hlen.symm, fun h0 => ?_⟩, by omega, fun n hn => hw n (List.mem_of_mem_take hn)⟩
    obtain ⟨g, o, spot⟩ := x
    have hs : spot = none := by
      have := hc 0 (by omega)
      simpa [Addr.add] using World.cell?_spot this
    subst hs
    have hat : ∀ i, i < zs.length → w.cell? ⟨g, o + i, none⟩ = some (.int .i64 (zs.getD i 0)) := fun i hi => by rw [← Go.WideShapes.add_plain]; exact hc i hi
    refine ⟨g, o, rfl, World.block_lt_of_cell? w ⟨g, o + 0, none⟩ (hat 0 (by omega)), fun i hi => ?_⟩
    have hi' : i < zs.length := by omega
    rw [hat i hi', List.getElem_take]
    simp [hi']
end Go.Proofs.Ytdffmeinofgdgaa
