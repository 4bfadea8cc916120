/- Structs that stand for a fraction or for none: what came in, what a call gave; the functions on fractions in these words. -/
import Derived.Test.YteanocjkdehhgaaFrb
import Derived.Test.YteanocjkdehhgaaSws
import Derived.Test.YteanocjkdehhgaaSmm
import Derived.Test.YteanocjkdehhgaaRhi
namespace Go.Proofs.Yteanocjkdehhgaa
open Go.RowKit
open Go.Lib (hid)
set_option linter.unusedVariables false

/-- The struct stands for o (none: it is no valid fraction). -/
def RA (w : World) (s : Bool) (v u : Value) (o : Option Rat) : Prop := ∃ A D, RL w v u A D ∧ rval s A D = o
theorem RA.of {w : World} {s : Bool} {v u : Value} {A D : List Int} (h : RL w v u A D) : RA w s v u (rval s A D) := ⟨A, D, h, rfl⟩
theorem RA.old {w w' : World} {s : Bool} {v u : Value} {o : Option Rat} (h : RA w s v u o) (hb : Below w.heap.size w w') : RA w' s v u o := by
  obtain ⟨A, D, r, e⟩ := h
  exact ⟨A, D, r.old hb, e⟩
theorem RA.form {w : World} {s : Bool} {v u : Value} {o : Option Rat} (h : RA w s v u o) : ∃ (a : Option Addr) (n c : Nat) (b : Option Addr) (m d : Nat), v = .slice a n c ∧ u = .slice b m d := by
  obtain ⟨A, D, r, -⟩ := h
  obtain ⟨a, c, b, d, e1, e2⟩ := r.form
  exact ⟨a, _, c, b, _, d, e1, e2⟩
theorem RA.fitO {w : World} {s : Bool} {v u : Value} {o : Option Rat} (h : RA w s v u o) : fitO o := by
  obtain ⟨A, D, r, rfl⟩ := h
  exact fitO_rval s A D
theorem rok_isSome (s : Bool) (A D : List Int) : rok s A D = (rval s A D).isSome := by
  cases h : rok s A D with
  | false => rw [rval_no h]; rfl
  | true => obtain ⟨x, e, -⟩ := rval_yes h; rw [e]; rfl
theorem RA.x {w : World} {s : Bool} {v u : Value} {x : Rat} (h : RA w s v u (some x)) : RatX w s v u x := by
  obtain ⟨A, D, r, e⟩ := h
  have hr : rok s A D = true := by rw [rok_isSome, e]; rfl
  obtain ⟨y, e2, k⟩ := RatX.of r hr
  rw [e] at e2
  cases e2
  exact k
theorem RA.of_x {w : World} {s : Bool} {v u : Value} {x : Rat} (h : RatX w s v u x) : RA w s v u (some x) := by
  obtain ⟨A, D, r, k, n1, d1, -⟩ := h
  obtain ⟨y, e, n2, d2, -⟩ := rval_yes k
  have : y = x := Rat.ext (by rw [n2, n1]) (by omega)
  subst this
  exact ⟨A, D, r, e⟩
/-- A struct that a call gave: its slices lie at lo and above (p: they share no memory). -/
structure RO (p : Bool) (w : World) (lo : Nat) (s : Bool) (v u : Value) (o : Option Rat) : Prop where
  sg : s = gzs (qn o)
  i : Ints w lo v (gzl (qn o))
  j : Ints w lo u (gzl (qd o))
  nd : p = true → ∀ k, v.ownBlock = some k → u.ownBlock ≠ some k
  ft : fitO o
theorem RO.old {p : Bool} {w w' : World} {lo : Nat} {s : Bool} {v u : Value} {o : Option Rat} (h : RO p w lo s v u o) (hb : Below w.heap.size w w') : RO p w' lo s v u o := ⟨h.sg, Ints_old h.i hb, Ints_old h.j hb, h.nd, h.ft⟩
theorem RO.base {p : Bool} {w : World} {lo lo' : Nat} {s : Bool} {v u : Value} {o : Option Rat} (h : RO p w lo s v u o) (hl : lo' ≤ lo) : RO p w lo' s v u o := ⟨h.sg, Ints_base h.i hl, Ints_base h.j hl, h.nd, h.ft⟩
theorem RO.ra {p : Bool} {w : World} {lo : Nat} {s : Bool} {v u : Value} {o : Option Rat} (h : RO p w lo s v u o) : RA w s v u o := by
  obtain ⟨rfl, i, j, nd, ft⟩ := h
  obtain ⟨e, -, l1, l2⟩ := rval_parts ft
  exact ⟨_, _, ⟨⟨_, i⟩, ⟨_, j⟩, by omega, by omega⟩, e⟩
theorem RO.eqo {p : Bool} {w : World} {lo : Nat} {s : Bool} {v u : Value} {o o' : Option Rat} (h : RO p w lo s v u o) (e : o = o') : RO p w lo s v u o' := by subst e; exact h
theorem RO.set {p : Bool} {T : TypeId} {w : World} {lo N i : Nat} {cs : Array Value} {y : Value} {s : Bool} {v u : Value} {o : Option Rat} (h : RO p w lo s v u o) (hL : LocA T w N cs) (hT : T ≠ 3) : RO p (w.setCell ⟨N, i, none⟩ y) lo s v u o :=
  ⟨h.sg, Ints_set h.i (hL.ne hT h.i), Ints_set h.j (hL.ne hT h.j), h.nd, h.ft⟩
/-- A call gives o. -/
def RatO (p : Bool) (o : Option Rat) (w : World) (e : Ending) (w' : World) : Prop := ∃ s a n c b m d, e = .returned (.agg #[.bool s, .slice a n c, .slice b m d]) ∧ RO p w' w.heap.size s (.slice a n c) (.slice b m d) o ∧ Below w.heap.size w w'
theorem RatO_of {o : Option Rat} {w w' : World} {e : Ending} (h : OwnR o w e w') (hf : fitO o) : RatO true o w e w' := by
  obtain ⟨v, u, he, h1, h2, nd, hb⟩ := h
  obtain ⟨a, c, rfl, -⟩ := Ints_form h1
  obtain ⟨b, d, rfl, -⟩ := Ints_form h2
  exact ⟨_, a, _, c, b, _, d, he, ⟨rfl, h1, h2, fun _ => nd, hf⟩, hb⟩
theorem RatO_ofS {o : Option Rat} {w w' : World} {e : Ending} (h : OwnS o w e w') (hf : fitO o) : RatO false o w e w' := by
  obtain ⟨v, u, he, h1, h2, hb⟩ := h
  obtain ⟨a, c, rfl, -⟩ := Ints_form h1
  obtain ⟨b, d, rfl, -⟩ := Ints_form h2
  exact ⟨_, a, _, c, b, _, d, he, ⟨rfl, h1, h2, fun h => (by cases h), hf⟩, hb⟩
theorem RatO.own {o : Option Rat} {w w' : World} {e : Ending} (h : RatO true o w e w') : OwnR o w e w' := by
  obtain ⟨s, a, n, c, b, m, d, he, ⟨rfl, h1, h2, nd, -⟩, hb⟩ := h
  exact ⟨_, _, he, h1, h2, nd rfl, hb⟩
theorem RatO.ownS {o : Option Rat} {w w' : World} {e : Ending} (h : RatO false o w e w') : OwnS o w e w' := by
  obtain ⟨s, a, n, c, b, m, d, he, ⟨rfl, h1, h2, -, -⟩, hb⟩ := h
  exact ⟨_, _, he, h1, h2, hb⟩
theorem RatO.eqo {p : Bool} {o o' : Option Rat} {w w' : World} {e : Ending} (h : RatO p o w e w') (hh : o = o') : RatO p o' w e w' := by subst hh; exact h
/-- The result's cells are written. -/
theorem RO.out {p : Bool} {o : Option Rat} {s : Bool} {w w4 : World} {a b : Option Addr} {n c m d B N : Nat} {T : TypeId} {cs : Array Value} (h : RO p w4 B s (.slice a n c) (.slice b m d) o) (hB : w.heap.size ≤ B) (hN : w.heap.size ≤ N) (hL : LocA T w4 N cs) (hT : T ≠ 3) (hb : Below w.heap.size w w4) :
    RatO p o w (.returned (.agg #[.bool s, .slice a n c, .slice b m d])) (((w4.setCell ⟨N, 0, none⟩ (.bool s)).setCell ⟨N, 1, none⟩ (.slice a n c)).setCell ⟨N, 2, none⟩ (.slice b m d)) := by
  have l1 := hL.set (i := 0) (x := .bool s)
  have l2 := l1.set (i := 1) (x := .slice a n c)
  exact ⟨s, a, n, c, b, m, d, rfl, (((h.set hL hT).set l1 hT).set l2 hT).base hB, ((hb.setCell hN _).setCell hN _).setCell hN _⟩
theorem RO_none {p : Bool} {w : World} {lo : Nat} : RO p w lo false (.slice none 0 0) (.slice none 0 0) none := by
  refine ⟨?_, ?_, ?_, fun _ k h => nil_ne k _ h, fitO_none⟩
  · show false = gzs 0; rw [gzs_zero]
  · show Ints w _ _ (gzl 0); rw [gzl_zero]; exact Ints_nil _ _
  · show Ints w _ _ (gzl 0); rw [gzl_zero]; exact Ints_nil _ _
/-- o has been laid into a variable of its own, behind W. -/
def LaidO (p : Bool) (W : World) (o : Option Rat) (sl : Value) (wx : World) : Prop := ∃ g s a n c b m d, sl = .pointer (some ⟨g, 0, none⟩) ∧ LocA 33 wx g #[.bool s, .slice a n c, .slice b m d] ∧ RO p wx W.heap.size s (.slice a n c) (.slice b m d) o ∧ W.heap.size ≤ g ∧ Below W.heap.size W wx
theorem LaidO_a {p : Bool} {W wf : World} {s : Bool} {a b : Option Addr} {n c m d : Nat} {o : Option Rat} (h : RO p wf W.heap.size s (.slice a n c) (.slice b m d) o) (hb : Below W.heap.size W wf) :
    LaidO p W o (.pointer (some ⟨wf.heap.size, 0, none⟩)) (wf.alloc (.cells #[.bool s, .slice a n c, .slice b m d] 33)) :=
  ⟨wf.heap.size, s, a, n, c, b, m, d, rfl, LocA.new, h.old below_new', hb.size, hb.alloc hb.size _⟩
theorem LaidO_b {p : Bool} {W wf : World} {N : Nat} {s : Bool} {a b : Option Addr} {n c m d : Nat} {o : Option Rat} (hL : LocA 33 wf N #[.bool false, .slice none 0 0, .slice none 0 0]) (hN : W.heap.size ≤ N) (h : RO p wf W.heap.size s (.slice a n c) (.slice b m d) o) (hb : Below W.heap.size W wf) :
    LaidO p W o (.pointer (some ⟨N, 0, none⟩)) (((wf.setCell ⟨N, 0, none⟩ (.bool s)).setCell ⟨N, 1, none⟩ (.slice a n c)).setCell ⟨N, 2, none⟩ (.slice b m d)) := by
  have l1 := hL.set (i := 0) (x := .bool s)
  have l2 := l1.set (i := 1) (x := .slice a n c)
  have l3 := l2.set (i := 2) (x := .slice b m d)
  exact ⟨N, s, a, n, c, b, m, d, rfl, l3, ((h.set hL (by decide)).set l1 (by decide)).set l2 (by decide), hN, ((hb.setCell hN _).setCell hN _).setCell hN _⟩
theorem q_of {Q P : Ending → World → Prop} (h : Q = P) {e : Ending} {w : World} (k : P e w) : Q e w := h ▸ k
/-! The functions' values. -/
def floorO : Option Rat → Option Rat | some x => some (flF x) | none => none
def ceilO : Option Rat → Option Rat | some x => some (ceF x) | none => none
def fracO (o : Option Rat) : Option Rat := bq subF o (floorO o)
/-- The integer that is nearest (the greater of two). -/
def nearO (o : Option Rat) : Option Rat := floorO (bq addF o (mkFr 1 2))
def absO : Option Rat → Option Rat | some x => some (maxF x (-x)) | none => none
def distO (o : Option Rat) : Option Rat := absO (bq subF o (nearO o))
def posO : Option Rat → Option Rat | some x => some (maxF x ((0 : Int) : Rat)) | none => none
/-- How many integers lie from the one to the other. -/
def countO (o o' : Option Rat) : Option Rat := posO (bq addF (bq subF (floorO o') (ceilO o)) (some ((1 : Int) : Rat)))
theorem abs_max (o : Option Rat) : bq (selF (-1)) o (negO o) = absO o := by cases o <;> rfl
theorem pos_max (o : Option Rat) : bq (selF (-1)) o (some ((0 : Int) : Rat)) = posO o := by cases o <;> rfl
theorem rat_lt_trans {x y z : Rat} (h : x < y) (h' : y < z) : x < z := by
  rw [Rat.lt_iff_le_and_not_ge] at h h' ⊢
  exact ⟨Rat.le_trans h.1 h'.1, fun e => h.2 (Rat.le_trans h'.1 e)⟩
theorem pos_sgn (o : Option Rat) : (sgnO o < 0 → some ((0 : Int) : Rat) = posO o) ∧ (¬ sgnO o < 0 → o = posO o) := by
  cases o with
  | none => exact ⟨fun h => absurd h (by show ¬ (0 : Int) < 0; omega), fun _ => rfl⟩
  | some x =>
    have h0 : sgn x.num = cmpF x 0 := by
      have := cmpF_sub x 0
      rw [show x - 0 = x by rw [Rat.sub_eq_add_neg, Rat.neg_zero, Rat.add_zero]] at this
      exact this
    show (sgn x.num < 0 → some ((0 : Int) : Rat) = some (maxF x ((0 : Int) : Rat))) ∧ (¬ sgn x.num < 0 → some x = some (maxF x ((0 : Int) : Rat)))
    rw [h0, show ((0 : Int) : Rat) = 0 from rfl]
    unfold maxF
    rcases cmpF_cases x 0 with ⟨h, -⟩ | ⟨h, -⟩ | ⟨h, -⟩
    · rw [h]; exact ⟨fun _ => by simp, fun h => absurd (by decide) h⟩
    · rw [h]; exact ⟨fun h => absurd h (by decide), fun _ => by simp⟩
    · rw [h]; exact ⟨fun h => absurd h (by decide), fun _ => by simp⟩
theorem fitO_floor {o : Option Rat} (h : fitO o) : fitO (floorO o) := by
  cases o with
  | none => exact fitO_none
  | some x => exact fitO_some (fit_fl (h x rfl))
theorem fitO_ceil {o : Option Rat} (h : fitO o) : fitO (ceilO o) := by
  cases o with
  | none => exact fitO_none
  | some x => exact fitO_some (fit_ce (h x rfl))
theorem ceil_floor (o : Option Rat) : negO (floorO (negO o)) = ceilO o := by
  cases o with
  | none => rfl
  | some x => show some (-flF (-x)) = some (ceF x); rw [ce_neg]
theorem fitO_sel (k : Int) {o o' : Option Rat} (h : fitO o) (h' : fitO o') : fitO (bq (selF k) o o') := by
  cases o with
  | none => exact fitO_none
  | some x =>
    cases o' with
    | none => exact fitO_none
    | some y =>
      show fitO (selF k x y)
      unfold selF
      split
      · exact fitO_some (h' y rfl)
      · exact fitO_some (h x rfl)
theorem fitO_int {n : Int} (h : (n.natAbs : Int) < pw 24) : fitO (some (n : Rat)) := fitO_some (fit_int h)
set_option maxRecDepth 100000 in
theorem fitO_i64 {n : Int} (h0 : -9223372036854775808 ≤ n) (h1 : n ≤ 9223372036854775807) : fitO (some (n : Rat)) := by
  refine fitO_int ?_
  have : (9223372036854775808 : Int) < pw 24 := by decide
  omega
/-! The functions on structs that stand for o. -/
theorem ok_o {w : World} {s : Bool} {v u : Value} {o : Option Rat} (h : RA w s v u o) : Calls Try.prog 128 #[.agg #[.bool s, v, u]] w (RetB (.bool o.isSome) w) := by
  obtain ⟨A, D, r, rfl⟩ := h
  have := impl_RatOk s v u A D w r
  rw [rok_isSome] at this
  exact this
theorem ok_none {w : World} {s : Bool} {v u : Value} (h : RA w s v u none) : Calls Try.prog 128 #[.agg #[.bool s, v, u]] w (RetB (.bool false) w) := ok_o h
theorem ok_some {w : World} {s : Bool} {v u : Value} {x : Rat} (h : RA w s v u (some x)) : Calls Try.prog 128 #[.agg #[.bool s, v, u]] w (RetB (.bool true) w) := ok_o h
theorem sign_o {w : World} {s : Bool} {v u : Value} {o : Option Rat} (h : RA w s v u o) : Calls Try.prog 116 #[.agg #[.bool s, v, u]] w (RetB (.int .i64 (sgnO o)) w) := by
  obtain ⟨A, D, r, rfl⟩ := h
  exact impl_RatSign s v u A D w r
theorem int_o (n : Int) (n0 : -9223372036854775808 ≤ n) (n1 : n ≤ 9223372036854775807) (w : World) : Calls Try.prog 190 #[.int .i64 n] w (RatO true (some (n : Rat)) w) :=
  (impl_RatFromInt n n0 n1 w).mono fun e w' hh => RatO_of hh (fitO_i64 n0 n1)
theorem sok_o {w : World} {s : Bool} {v u : Value} {o : Option Rat} (h : RA w s v u o) : Calls Try.prog 112 #[.agg #[.bool s, v, u]] w (RetB (.bool o.isSome) w) := by
  obtain ⟨A, D, r, rfl⟩ := h
  have := spec_RatOk s v u A D w r
  rw [rok_isSome] at this
  exact this
theorem sok_none {w : World} {s : Bool} {v u : Value} (h : RA w s v u none) : Calls Try.prog 112 #[.agg #[.bool s, v, u]] w (RetB (.bool false) w) := sok_o h
theorem sok_some {w : World} {s : Bool} {v u : Value} {x : Rat} (h : RA w s v u (some x)) : Calls Try.prog 112 #[.agg #[.bool s, v, u]] w (RetB (.bool true) w) := sok_o h
theorem ssign_o {w : World} {s : Bool} {v u : Value} {o : Option Rat} (h : RA w s v u o) : Calls Try.prog 77 #[.agg #[.bool s, v, u]] w (RetB (.int .i64 (sgnO o)) w) := by
  obtain ⟨A, D, r, rfl⟩ := h
  exact spec_RatSign s v u A D w r
theorem sint_o (n : Int) (n0 : -9223372036854775808 ≤ n) (n1 : n ≤ 9223372036854775807) (w : World) : Calls Try.prog 103 #[.int .i64 n] w (RatO false (some (n : Rat)) w) :=
  (spec_RatFromInt n n0 n1 w).mono fun e w' hh => RatO_ofS hh (fitO_i64 n0 n1)
theorem l04Copy_o {w : World} {s : Bool} {v u : Value} {x : Rat} (h : RA w s v u (some x)) : Calls Try.prog 104 #[.agg #[.bool s, v, u]] w (RatO false (some x) w) :=
  (l04Copy_own s v u x w h.x).mono fun e w' hh => RatO_ofS hh h.fitO
end Go.Proofs.Yteanocjkdehhgaa
