/- The program's integer that is computed in place: a number with a sign behind it. -/
import Derived.Test.YtnkcihcmkojdmaaGreatBi
import Derived.BigRegion
namespace Go.Proofs.YtnkcihcmkojdmaaGreat
open Go.RowKit
open Go.Lib (hid)
set_option linter.unusedVariables false

/-- The program's number with a sign behind it. -/
def wholeQ (s : Bool) : Rest := ⟨[.bool s], 135, by decide⟩
theorem Below_drew1 {B : Nat} {a w : World} (h : Below B a w) : Below B a w.drew := ⟨h.os, h.tape, h.output, h.size, h.block⟩
def NewW (s : Bool) (L : List Int) (w : World) (e : Ending) (w' : World) : Prop := ∃ N v, e = .returned (.pointer (some ⟨N, 0, none⟩)) ∧ IsNat (wholeQ s) w' (fun k => w.heap.size ≤ k) N v L ∧ Below w.heap.size w w'
theorem IsNat.neg {s : Bool} {w : World} {S : Nat → Prop} {N : Nat} {v : Value} {L : List Int} (h : IsNat (wholeQ s) w S N v L) : w.cell? ⟨N, 1, none⟩ = some (.bool s) := by
  have := h.cell1
  simp [World.cell?, this, Rest.obj, wholeQ]
theorem IsNat_whole {w w1 : World} {B : Nat} {s : Bool} {v : Value} {L : List Int} (h : Ints w1 B v L) (hb : Below w.heap.size w w1) (hB : w.heap.size ≤ B) :
    IsNat (wholeQ s) (w1.alloc (.cells #[v, .bool s] 135)) (fun k => w.heap.size ≤ k) w1.heap.size v L ∧ Below w.heap.size w (w1.alloc (.cells #[v, .bool s] 135)) :=
  ⟨⟨heap_alloc_new w1 _, hb.size, Ints_base (Ints_below h ((Below.refl _ _).alloc (Nat.le_refl _) _) fun k hk => (Ints_lt h k hk).2) (Nat.zero_le _), fun k hk => by have := (Ints_lt h k hk).1; omega⟩,
    hb.alloc hb.size _⟩

set_option maxRecDepth 100000 in
set_option maxHeartbeats 1600000 in
theorem newWhole_own (s : Bool) (B : Nat) (v : Value) (L : List Int) (hL : L.length ≤ 1073741824) (w : World) (h : Ints w B v L) :
    Calls Tryz.prog 151 #[.agg #[.bool s, v]] w (NewW s L w) := by
  have K := hid (fun (W : World) (h : Ints W B v L) => newNat_own B v L hL W h)
  have I := hid (show Ints (w.alloc (.cells #[.bool s, v] 28)) B v L from Ints_below h below_new' fun k hk => (Ints_lt h k hk).2)
  have BB := hid (below_new' (w := w) (o := .cells #[.bool s, v] 28))
  have L0 := hid (Loc.new (w := w) (T := 28) (s := s) (v := v))
  obtain ⟨a, c, rfl, -⟩ := Ints_form h
  clear h
  go_enter Tryz.func151, Tryz.ntmps151
  go_wp2_with fail
  generalize w.alloc (.cells #[.bool s, .slice a L.length c] 28) = W at I BB L0 ⊢
  have q0 : W.drew.cell? ⟨w.heap.size, 0, none⟩ = some (.bool s) := L0.out.c0
  have q1 : W.drew.cell? ⟨w.heap.size, 1, none⟩ = some (.slice a L.length c) := L0.out.c1
  have I2 := hid (show Ints W.drew B (.slice a L.length c) L from I.out)
  have L2 := hid (show Loc 28 W.drew w.heap.size s (.slice a L.length c) from L0.out)
  have B2 := hid (show Below w.heap.size w W.drew from Below_drew1 BB.out)
  go_region_with (first | (go_at_call 134; (with_reducible refine (K.out _ I2.out).mono ?_); rintro e w1 ⟨N, u, rfl, n1, b1⟩; have q3 := (L2.out.old b1).c0; have q4 := (L2.out.old b1).c1; have q5 := n1.cell; have N1 := hid n1; have B1 := hid b1; obtain ⟨a1, c1, rfl, -⟩ := Ints_form n1.ints; clear n1 b1))
  all_goals
    have R := IsNat_whole (s := s) (Ints_rebase N1.out.ints N1.out.own) (B2.out.trans (B1.out.mono B2.out.size)) B2.out.size
    go_wp2
    go_ret
    exact ⟨_, _, rfl, R⟩
end Go.Proofs.YtnkcihcmkojdmaaGreat
