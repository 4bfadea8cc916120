/- The program's signed sum. -/
import Derived.Test.YtdffmeinofgdgaaWi
namespace Go.Proofs.Ytdffmeinofgdgaa
open Go.RowKit
open Go.Lib (hid)
set_option linter.unusedVariables false

/-- The result is laid into the call's own variable and given out. -/
theorem OwnG_out {s : Bool} {L : List Int} {w w4 : World} {r : Value} {lo b : Nat} {T : TypeId} (hlo : w.heap.size ≤ lo) (hb : b = w.heap.size) (hL : Loc T w4 b false (.slice none 0 0)) (hT : T ≠ 3) (hi : Ints w4 lo r L) (hB : Below w.heap.size w w4) :
    OwnG s L w (.returned (.agg #[.bool s, r])) ((w4.setCell ⟨b, 0, none⟩ (.bool s)).setCell ⟨b, 1, none⟩ r) :=
  OwnG_mk hlo rfl (Ints_set (Ints_set hi (hL.ne hT hi)) (hL.ne hT hi)) ((hB.setCell (by simp [hb]) _).setCell (by simp [hb]) _)
theorem sum_same {s : Bool} {x y : Int} : sval s x + sval s y = sval s (x + 1 * y * pw (0 : Int).toNat) := by unfold sval; split <;> simp [pw] <;> omega
theorem sum_other {s t : Bool} {x y : Int} (h : s ≠ t) : sval s x + sval t y = sval s (x + (-1) * y * pw (0 : Int).toNat) := by cases s <;> cases t <;> simp_all [sval, pw] <;> omega

theorem addPre {v : Value} {A : List Int} {w : World} {b : Nat} {o : Go.Obj} (h : Ints w b v A) : Ints (w.alloc o) b v A := Ints_below h below_new' fun k hk => (Ints_lt h k hk).2
theorem Ints_drew {w : World} {b d : Nat} {v : Value} {A : List Int} (h : Ints w b v A) : Ints (w.drewN d) b v A := h
theorem Below_drewN {B d : Nat} {a w : World} (h : Below B a w) : Below B a (w.drewN d) := ⟨h.os, h.tape, h.output, h.size, h.block⟩
theorem Loc_drewN {T : TypeId} {w : World} {b d : Nat} {s : Bool} {v : Value} (h : Loc T w b s v) : Loc T (w.drewN d) b s v := h
theorem Ints_old {w w' : World} {b : Nat} {v : Value} {A : List Int} (h : Ints w b v A) (hb : Below w.heap.size w w') : Ints w' b v A := Ints_below h hb fun k hk => (Ints_lt h k hk).2

end Go.Proofs.Ytdffmeinofgdgaa
