import Derived.Test.YthkehmnodcmlcaaGreatFraP
import Derived.Test.YthkehmnodcmlcaaGreatFrbP
import Derived.Test.YthkehmnodcmlcaaGreatSwsP
import Derived.Test.YthkehmnodcmlcaaGreatRhiP
set_option maxRecDepth 100000
set_option maxHeartbeats 200000
set_option linter.unusedVariables false
set_option linter.unusedSimpArgs false
namespace Go.Proofs.YthkehmnodcmlcaaGreat
end Go.Proofs.YthkehmnodcmlcaaGreat
namespace Go.Proofs.YthkehmnodcmlcaaGreat
open Go.RowKit
open Go.Lib (hid)
theorem fit_int {z : Int} (h : (z.natAbs : Int) < pw 24) : fit ((z : Int) : Rat) := ⟨by rw [Rat.num_intCast]; exact h, by rw [Rat.den_intCast]; decide⟩
end Go.Proofs.YthkehmnodcmlcaaGreat

namespace Go.Proofs.YthkehmnodcmlcaaGreat
open Go.RowKit
open Go.Lib (hid)
def RA (w : World) (s : Bool) (v u : Value) (o : Option Rat) : Prop := ∃ A D, RL w v u A D ∧ rval s A D = o
theorem RA.of {w : World} {s : Bool} {v u : Value} {A D : List Int} (h : RL w v u A D) : RA w s v u (rval s A D) := ⟨A, D, h, rfl⟩
theorem RA.old {w w' : World} {s : Bool} {v u : Value} {o : Option Rat} (h : RA w s v u o) (hb : Below w.heap.size w w') : RA w' s v u o := by
 obtain ⟨A, D, r, e⟩ := h
 exact ⟨A, D, r.old hb, e⟩
theorem RA.form {w : World} {s : Bool} {v u : Value} {o : Option Rat} (h : RA w s v u o) : ∃ (a : Option Addr) (n c : Nat) (b : Option Addr) (m d : Nat), v = .slice a n c ∧ u = .slice b m d := by
 obtain ⟨A, D, r, -⟩ := h
 obtain ⟨a, c, b, d, e1, e2⟩ := r.form
 exact ⟨a, _, c, b, _, d, e1, e2⟩
theorem RA.fitO {w : World} {s : Bool} {v u : Value} {o : Option Rat} (h : RA w s v u o) : fitO o := by
 obtain ⟨A, D, r, rfl⟩ := h
 exact fitO_rval s A D
theorem rok_isSome (s : Bool) (A D : List Int) : rok s A D = (rval s A D).isSome := by
 cases h : rok s A D with
 | false => rw [rval_no h]; rfl
 | true => obtain ⟨x, e, -⟩ := rval_yes h; rw [e]; rfl
theorem RA.x {w : World} {s : Bool} {v u : Value} {x : Rat} (h : RA w s v u (some x)) : RatX w s v u x := by
 obtain ⟨A, D, r, e⟩ := h
 have hr : rok s A D = true := by rw [rok_isSome, e]; rfl
 obtain ⟨y, e2, k⟩ := RatX.of r hr
 rw [e] at e2
 cases e2
 exact k
structure RO (p : Bool) (w : World) (lo : Nat) (s : Bool) (v u : Value) (o : Option Rat) : Prop where
 sg : s = gzs (qn o)
 i : Ints w lo v (gzl (qn o))
 j : Ints w lo u (gzl (qd o))
 nd : p = true → ∀ k, v.ownBlock = some k → u.ownBlock ≠ some k
 ft : fitO o
theorem RO.old {p : Bool} {w w' : World} {lo : Nat} {s : Bool} {v u : Value} {o : Option Rat} (h : RO p w lo s v u o) (hb : Below w.heap.size w w') : RO p w' lo s v u o := ⟨h.sg, Ints_old h.i hb, Ints_old h.j hb, h.nd, h.ft⟩
theorem RO.base {p : Bool} {w : World} {lo lo' : Nat} {s : Bool} {v u : Value} {o : Option Rat} (h : RO p w lo s v u o) (hl : lo' ≤ lo) : RO p w lo' s v u o := ⟨h.sg, Ints_base h.i hl, Ints_base h.j hl, h.nd, h.ft⟩
theorem RO.ra {p : Bool} {w : World} {lo : Nat} {s : Bool} {v u : Value} {o : Option Rat} (h : RO p w lo s v u o) : RA w s v u o := by
 obtain ⟨rfl, i, j, nd, ft⟩ := h
 obtain ⟨e, -, l1, l2⟩ := rval_parts ft
 exact ⟨_, _, ⟨⟨_, i⟩, ⟨_, j⟩, by omega, by omega⟩, e⟩
theorem RO.set {p : Bool} {T : TypeId} {w : World} {lo N i : Nat} {cs : Array Value} {y : Value} {s : Bool} {v u : Value} {o : Option Rat} (h : RO p w lo s v u o) (hL : LocA T w N cs) (hT : T ≠ 3) : RO p (w.setCell ⟨N, i, none⟩ y) lo s v u o :=
 ⟨h.sg, Ints_set h.i (hL.ne hT h.i), Ints_set h.j (hL.ne hT h.j), h.nd, h.ft⟩
def RatO (p : Bool) (o : Option Rat) (w : World) (e : Ending) (w' : World) : Prop := ∃ s a n c b m d, e = .returned (.agg #[.bool s, .slice a n c, .slice b m d]) ∧ RO p w' w.heap.size s (.slice a n c) (.slice b m d) o ∧ Below w.heap.size w w'
theorem RatO_of {o : Option Rat} {w w' : World} {e : Ending} (h : OwnR o w e w') (hf : fitO o) : RatO true o w e w' := by
 obtain ⟨v, u, he, h1, h2, nd, hb⟩ := h
 obtain ⟨a, c, rfl, -⟩ := Ints_form h1
 obtain ⟨b, d, rfl, -⟩ := Ints_form h2
 exact ⟨_, a, _, c, b, _, d, he, ⟨rfl, h1, h2, fun _ => nd, hf⟩, hb⟩
theorem RatO_ofS {o : Option Rat} {w w' : World} {e : Ending} (h : OwnS o w e w') (hf : fitO o) : RatO false o w e w' := by
 obtain ⟨v, u, he, h1, h2, hb⟩ := h
 obtain ⟨a, c, rfl, -⟩ := Ints_form h1
 obtain ⟨b, d, rfl, -⟩ := Ints_form h2
 exact ⟨_, a, _, c, b, _, d, he, ⟨rfl, h1, h2, fun h => (by cases h), hf⟩, hb⟩
theorem RatO.own {o : Option Rat} {w w' : World} {e : Ending} (h : RatO true o w e w') : OwnR o w e w' := by
 obtain ⟨s, a, n, c, b, m, d, he, ⟨rfl, h1, h2, nd, -⟩, hb⟩ := h
 exact ⟨_, _, he, h1, h2, nd rfl, hb⟩
theorem RatO.ownS {o : Option Rat} {w w' : World} {e : Ending} (h : RatO false o w e w') : OwnS o w e w' := by
 obtain ⟨s, a, n, c, b, m, d, he, ⟨rfl, h1, h2, -, -⟩, hb⟩ := h
 exact ⟨_, _, he, h1, h2, hb⟩
theorem RO.out {p : Bool} {o : Option Rat} {s : Bool} {w w4 : World} {a b : Option Addr} {n c m d B N : Nat} {T : TypeId} {cs : Array Value} (h : RO p w4 B s (.slice a n c) (.slice b m d) o) (hB : w.heap.size ≤ B) (hN : w.heap.size ≤ N) (hL : LocA T w4 N cs) (hT : T ≠ 3) (hb : Below w.heap.size w w4) :
  RatO p o w (.returned (.agg #[.bool s, .slice a n c, .slice b m d])) (((w4.setCell ⟨N, 0, none⟩ (.bool s)).setCell ⟨N, 1, none⟩ (.slice a n c)).setCell ⟨N, 2, none⟩ (.slice b m d)) := by
 have l1 := hL.set (i := 0) (x := .bool s)
 have l2 := l1.set (i := 1) (x := .slice a n c)
 exact ⟨s, a, n, c, b, m, d, rfl, (((h.set hL hT).set l1 hT).set l2 hT).base hB, ((hb.setCell hN _).setCell hN _).setCell hN _⟩
theorem fitO_int {n : Int} (h : (n.natAbs : Int) < pw 24) : fitO (some (n : Rat)) := fitO_some (fit_int h)
theorem fitO_i64 {n : Int} (h0 : -9223372036854775808 ≤ n) (h1 : n ≤ 9223372036854775807) : fitO (some (n : Rat)) := by
 refine fitO_int ?_
 have : (9223372036854775808 : Int) < pw 24 := by decide
 omega
theorem ok_o {w : World} {s : Bool} {v u : Value} {o : Option Rat} (h : RA w s v u o) : Calls Tryz.prog 86 #[.agg #[.bool s, v, u]] w (RetB (.bool o.isSome) w) := by
 obtain ⟨A, D, r, rfl⟩ := h
 have := impl_RatOk s v u A D w r
 rw [rok_isSome] at this
 exact this
theorem sign_o {w : World} {s : Bool} {v u : Value} {o : Option Rat} (h : RA w s v u o) : Calls Tryz.prog 44 #[.agg #[.bool s, v, u]] w (RetB (.int .i64 (sgnO o)) w) := by
 obtain ⟨A, D, r, rfl⟩ := h
 exact impl_RatSign s v u A D w r
theorem int_o (n : Int) (n0 : -9223372036854775808 ≤ n) (n1 : n ≤ 9223372036854775807) (w : World) : Calls Tryz.prog 45 #[.int .i64 n] w (RatO true (some (n : Rat)) w) :=
 (impl_RatFromInt n n0 n1 w).mono fun e w' hh => RatO_of hh (fitO_i64 n0 n1)
theorem sok_o {w : World} {s : Bool} {v u : Value} {o : Option Rat} (h : RA w s v u o) : Calls Tryz.prog 60 #[.agg #[.bool s, v, u]] w (RetB (.bool o.isSome) w) := by
 obtain ⟨A, D, r, rfl⟩ := h
 have := spec_RatOk s v u A D w r
 rw [rok_isSome] at this
 exact this
theorem ssign_o {w : World} {s : Bool} {v u : Value} {o : Option Rat} (h : RA w s v u o) : Calls Tryz.prog 78 #[.agg #[.bool s, v, u]] w (RetB (.int .i64 (sgnO o)) w) := by
 obtain ⟨A, D, r, rfl⟩ := h
 exact spec_RatSign s v u A D w r
theorem sint_o (n : Int) (n0 : -9223372036854775808 ≤ n) (n1 : n ≤ 9223372036854775807) (w : World) : Calls Tryz.prog 89 #[.int .i64 n] w (RatO false (some (n : Rat)) w) :=
 (spec_RatFromInt n n0 n1 w).mono fun e w' hh => RatO_ofS hh (fitO_i64 n0 n1)
end Go.Proofs.YthkehmnodcmlcaaGreat
