/- The laws' helpers on the struct of a sign and limbs. -/
import Derived.Test.YteanocjkdehhgaaBas
namespace Go.Proofs.Yteanocjkdehhgaa
open Go.RowKit
open Go.Lib (hid)
set_option linter.unusedVariables false

theorem ret_i {a b : Int} (h : a = b) : Ending.returned (.int .i64 a) = .returned (.int .i64 b) := by rw [h]
theorem szIntS_yes (a : Option Addr) (n c : Nat) (z : Int) (h0 : (n : Int) ≤ z) (h1 : z ≤ 1048576) (w : World) :
    Calls Try.prog 91 #[.slice a n c, .int .i64 z] w fun e w' => e = .returned (.int .i64 (z - n)) ∧ w = w' := by
  have h2 : ¬ z - (n : Int) < 0 := by omega
  go_enter Try.func91, Try.ntmps91
  go_wp2
  go_ret
  exact ⟨rfl, rfl⟩
theorem szIntS_no (a : Option Addr) (n c : Nat) (z : Int) (hn : n ≤ maxLen) (h0 : z < (n : Int)) (hz : 0 ≤ z) (h1 : z ≤ 1048576) (w : World) :
    Calls Try.prog 91 #[.slice a n c, .int .i64 z] w fun e w' => e = .returned (.int .i64 (-1)) ∧ w = w' := by
  unfold maxLen at hn
  have h2 : z - (n : Int) < 0 := by omega
  go_enter Try.func91, Try.ntmps91
  go_wp2
  go_ret
  exact ⟨rfl, rfl⟩
theorem szBigInt_yes (s : Bool) (a : Option Addr) (n c : Nat) (z : Int) (h0 : (n : Int) ≤ z) (h1 : z ≤ 1048576) (w : World) :
    Calls Try.prog 90 #[.agg #[.bool s, .slice a n c], .int .i64 z] w (RetB (.int .i64 (z - n)) w) := by
  have K := hid (szIntS_yes a n c z h0 h1)
  have h2 : ¬ z - (n : Int) < 0 := by omega
  go_enter Try.func90, Try.ntmps90
  go_wp2_with fail
  refine (K.out _).mono ?_
  rintro e w1 ⟨rfl, rfl⟩
  go_wp2
  go_ret
  exact ⟨rfl, (Below.refl _ _).alloc (Nat.le_refl _) _⟩
theorem szBigInt_no (s : Bool) (a : Option Addr) (n c : Nat) (z : Int) (hn : n ≤ maxLen) (h0 : z < (n : Int)) (hz : 0 ≤ z) (h1 : z ≤ 1048576) (w : World) :
    Calls Try.prog 90 #[.agg #[.bool s, .slice a n c], .int .i64 z] w (RetB (.int .i64 (-1)) w) := by
  have K := hid (szIntS_no a n c z hn h0 hz h1)
  go_enter Try.func90, Try.ntmps90
  go_wp2_with fail
  refine (K.out _).mono ?_
  rintro e w1 ⟨rfl, rfl⟩
  go_wp2
  go_ret
  exact ⟨rfl, (Below.refl _ _).alloc (Nat.le_refl _) _⟩

/-- A struct of its own: the sign s and a slice of its own that reads as L. -/
def OwnG (s : Bool) (L : List Int) (w : World) (e : Ending) (w' : World) : Prop := ∃ v, e = .returned (.agg #[.bool s, v]) ∧ Ints w' w.heap.size v L ∧ Below w.heap.size w w'
theorem below_new' {w : World} {o : Go.Obj} : Below w.heap.size w (w.alloc o) := (Below.refl _ _).alloc (Nat.le_refl _) _
/-- Block b holds the struct of a sign and a slice. -/
def Loc (T : TypeId) (w : World) (b : Nat) (s : Bool) (v : Value) : Prop := w.heap[b]? = some (.cells #[.bool s, v] T (0, 0))
theorem Loc.lt {T : TypeId} {w : World} {b : Nat} {s : Bool} {v : Value} (h : Loc T w b s v) : b < w.heap.size := (Array.getElem?_eq_some_iff.1 h).1
theorem Loc.c0 {T : TypeId} {w : World} {b : Nat} {s : Bool} {v : Value} (h : Loc T w b s v) : w.cell? ⟨b, 0, none⟩ = some (.bool s) := by
  unfold Loc at h; simp [World.cell?, h]
theorem Loc.c1 {T : TypeId} {w : World} {b : Nat} {s : Bool} {v : Value} (h : Loc T w b s v) : w.cell? ⟨b, 1, none⟩ = some v := by
  unfold Loc at h; simp [World.cell?, h]
theorem Loc.f0 {T : TypeId} {w : World} {b : Nat} {s : Bool} {v : Value} (h : Loc T w b s v) (i : Nat) : w.frozen? ⟨b, i, none⟩ = false := by
  unfold Loc at h; simp [World.frozen?, h]
theorem Loc.old {T : TypeId} {w w' : World} {b : Nat} {s : Bool} {v : Value} (h : Loc T w b s v) (hb : Below w.heap.size w w') : Loc T w' b s v := (hb.block _ h.lt).trans h
theorem Loc.block {T : TypeId} {w w' : World} {b : Nat} {s : Bool} {v : Value} (h : Loc T w b s v) (hb : w'.heap[b]? = w.heap[b]?) : Loc T w' b s v := hb.trans h
theorem Loc.only {S : Nat → Prop} {T : TypeId} {w w' : World} {b : Nat} {s : Bool} {v : Value} (h : Loc T w b s v) (hb : Only S w w') (hS : ¬ S b) : Loc T w' b s v := (hb.block _ hS).trans h
theorem Loc.new {T : TypeId} {w : World} {s : Bool} {v : Value} : Loc T (w.alloc (.cells #[.bool s, v] T)) w.heap.size s v := heap_alloc_new w _
theorem Loc.at {T : TypeId} {w : World} {b : Nat} {s : Bool} {v : Value} (hb : b = w.heap.size) : Loc T (w.alloc (.cells #[.bool s, v] T)) b s v := by subst hb; exact Loc.new
theorem Loc.new1 {T : TypeId} {w : World} {b : Nat} {s : Bool} {v : Value} {o : Go.Obj} (h : Loc T w b s v) : Loc T (w.alloc o) b s v := h.old below_new'
theorem Loc.ne {T : TypeId} {w : World} {B b : Nat} {s : Bool} {v u : Value} {L : List Int} (h : Loc T w b s v) (hT : T ≠ 3) (hi : Ints w B u L) : u.ownBlock ≠ some b := by
  rcases hi.2 with ⟨rfl, _⟩ | ⟨g, cap, cur, rfl, h2, h3, _⟩
  · simp [Value.ownBlock]
  · intro he
    have : g = b := by simpa [Value.ownBlock] using he
    subst this
    unfold Loc at h
    rw [h3] at h
    simp at h
    exact hT h.2.symm
theorem set_block (w : World) (b i k : Nat) (u : Value) (h : k ≠ b) : (w.setCell ⟨b, i, none⟩ u).heap[k]? = w.heap[k]? := Below.heap_setCell _ _ _ _ h
theorem Ints_set {w : World} {B b i : Nat} {v u : Value} {L : List Int} (h : Ints w B v L) (hb : v.ownBlock ≠ some b) : Ints (w.setCell ⟨b, i, none⟩ u) B v L :=
  Ints_block h fun k hk => set_block _ _ _ _ _ (fun e => hb (by rw [hk, e]))
theorem OwnG_mk {s : Bool} {L : List Int} {w w' : World} {e : Ending} {v : Value} {B : Nat} (hB : w.heap.size ≤ B) (he : e = .returned (.agg #[.bool s, v])) (h : Ints w' B v L) (hb : Below w.heap.size w w') : OwnG s L w e w' :=
  ⟨v, he, Ints_base h hB, hb⟩

set_option maxRecDepth 100000 in
set_option maxHeartbeats 800000 in
theorem toBigInt_came (s : Bool) (a : Option Addr) (n c h : Nat) (L : List Int) (hL : L.length ≤ 1073741824) (w : World) (h1 : Came w h a n L) :
    Calls Try.prog 93 #[.agg #[.bool s, .slice a n c]] w (OwnG s L w) := by
  have H := hid h1
  have K := hid (fun (W : World) (h1 : Came W h a n L) => toIntS_came a n c h L hL W h1)
  clear h1
  have B := hid (show Below w.heap.size w (((w.alloc (.cells #[.bool s, .slice a n c] 24)).alloc (.cells #[.bool false, .slice none 0 0] 31)).alloc (.cells #[.bool s, .slice none 0 0] 31)) from ((((Below.refl _ _).alloc (Nat.le_refl _) _).alloc (by simp) _).alloc (by simp; omega) _))
  have L1 := hid (show Loc 31 (((w.alloc (.cells #[.bool s, .slice a n c] 24)).alloc (.cells #[.bool false, .slice none 0 0] 31)).alloc (.cells #[.bool s, .slice none 0 0] 31)) (w.heap.size + 1) false (.slice none 0 0) from (Loc.at (by simp)).new1)
  have L2 := hid (show Loc 31 (((w.alloc (.cells #[.bool s, .slice a n c] 24)).alloc (.cells #[.bool false, .slice none 0 0] 31)).alloc (.cells #[.bool s, .slice none 0 0] 31)) (w.heap.size + 1 + 1) s (.slice none 0 0) from Loc.at (by simp))
  have hz := hid (show (((w.alloc (.cells #[.bool s, .slice a n c] 24)).alloc (.cells #[.bool false, .slice none 0 0] 31)).alloc (.cells #[.bool s, .slice none 0 0] 31)).heap.size = w.heap.size + 1 + 1 + 1 from by simp)
  go_enter Try.func93, Try.ntmps93
  go_wp2_with fail
  generalize ((w.alloc (.cells #[.bool s, .slice a n c] 24)).alloc (.cells #[.bool false, .slice none 0 0] 31)).alloc (.cells #[.bool s, .slice none 0 0] 31) = W at B L1 L2 hz ⊢
  refine (K.out _ (H.out.old B.out)).mono ?_
  rintro e w1 ⟨v, rfl, i1, b1⟩
  have L1 := hid (L1.out.old b1)
  have L2 := hid (L2.out.old b1)
  have q0 := L2.out.c0
  have q1 := L2.out.c1
  have q2 := L2.out.f0 1
  have p0 := L1.out.c0
  have p1 := L1.out.c1
  have p2 := L1.out.f0 0
  have p3 := L1.out.f0 1
  have I1 := hid i1
  have B1 := hid b1
  obtain ⟨a', c', rfl, -⟩ := Ints_form i1
  clear i1 b1
  go_wp2
  have n1 := L1.out.ne (by decide) I1.out
  have n2 := L2.out.ne (by decide) I1.out
  have R := hid (OwnG_mk (s := s) (w := w) (by rw [hz.out]; omega) rfl (Ints_set (i := 1) (u := .slice a' L.length c') (Ints_set (i := 0) (u := .bool s) (Ints_set (i := 1) (u := .slice a' L.length c') I1.out n2) n1) n1)
    ((((B.out.trans (B1.out.mono (by rw [hz.out]; omega))).setCell (by simp; omega) _).setCell (by simp) _).setCell (by simp) _))
  exact bodyPost_ret (v := .agg #[.bool s, .slice a' L.length c']) (by simp [results, Try.results93, go_sem, p0, p1]) rfl R.out

theorem below_new2 {w : World} {o o' : Go.Obj} : Below w.heap.size w ((w.alloc o).alloc o') := ((Below.refl _ _).alloc (Nat.le_refl _) _).alloc (by simp) _
theorem eqBigInt_obj (s : Bool) (v1 v2 : Value) (L : List Int) (l1 u1 l2 u2 : Nat) (hL : L.length ≤ 1073741824) (w : World) (h1 : Obj w v1 L l1 u1) (h2 : Obj w v2 L l2 u2) :
    Calls Try.prog 96 #[.agg #[.bool s, v1], .agg #[.bool s, v2]] w (RetB (.bool true) w) := by
  have K := hid (eqIntS_obj v1 v2 L l1 u1 l2 u2 hL _ (h1.old (below_new2 (o := .cells #[.bool s, v1] 31) (o' := .cells #[.bool s, v2] 31))) (h2.old below_new2))
  obtain ⟨a1, c1, rfl, -⟩ := Ints_form h1.ints
  obtain ⟨a2, c2, rfl, -⟩ := Ints_form h2.ints
  clear h1 h2
  cases s
  all_goals
    go_enter Try.func96, Try.ntmps96
    go_wp2_with fail
    refine K.out.mono ?_
    rintro e w1 ⟨rfl, b1⟩
    have B := hid (below_new2.trans (b1.mono (by simp; omega)))
    clear b1
    go_wp2
    go_ret
    exact ⟨rfl, B.out⟩
/-- What a marking call leaves: only its slice's blocks and new blocks. -/
def InG (lo hi h : Nat) (k : Nat) : Prop := InS lo hi k ∨ h ≤ k
theorem InG_cases {lo hi h k : Nat} (hs : InG lo hi h k) : (lo ≤ k ∧ k < hi) ∨ h ≤ k := hs.elim (fun h => .inl h) .inr
def MarkG (v : Value) (n : Nat) (m : Int) (lo hi : Nat) (w : World) (e : Ending) (w' : World) : Prop := e = .returned (.int .i64 (m + n)) ∧ Obj w' v (marks n m) lo hi ∧ Only (InG lo hi w.heap.size) w w'
theorem Obj.onlyG {w w' : World} {v : Value} {L : List Int} {lo hi a b : Nat} (h : Obj w v L lo hi) (hb : Only (InG a b w.heap.size) w w') (hd : hi ≤ a ∨ b ≤ lo) : Obj w' v L lo hi :=
  ⟨Ints_only h.ints hb fun k hk hs => by
    have h1 := h.high k hk
    have h2 := Ints_lt h.ints k hk
    rcases hs with hs | hs
    · have := hs.1
      have := hs.2
      omega
    · omega, h.high⟩
theorem Came.onlyG {w w' : World} {h n lo hi : Nat} {a : Option Addr} {L : List Int} (c : Came w h a n L) (hb : Only (InG lo hi w.heap.size) w w') (hlo : h ≤ lo) : Came w' h a n L :=
  ⟨c.1, fun h0 => by
    obtain ⟨g, o, e, hh, hg, hc⟩ := c.2 h0
    exact ⟨g, o, e, hh, Nat.lt_of_lt_of_le hg hb.size, fun i hi' => (hb.cell (p := ⟨g, o + i, none⟩) (fun hs => by have := InG_cases hs; simp at this; omega)).trans (hc i hi')⟩⟩
theorem in_onlyG {w w' w0 : World} {lo hi : Nat} (h : Below w0.heap.size w0 w) (hb : Only (InG lo hi w.heap.size) w w') (hlo : w0.heap.size ≤ lo) : Below w0.heap.size w0 w' :=
  h.trans (hb.below fun k hk hs => by have := InG_cases hs; have := h.size; omega)
theorem Loc.onlyG {T : TypeId} {w w' : World} {b lo hi : Nat} {s : Bool} {v : Value} (h : Loc T w b s v) (hb : Only (InG lo hi w.heap.size) w w') (hd : b < lo ∨ hi ≤ b) : Loc T w' b s v :=
  h.only hb fun hs => by have := InG_cases hs; have := h.lt; omega
end Go.Proofs.Yteanocjkdehhgaa
