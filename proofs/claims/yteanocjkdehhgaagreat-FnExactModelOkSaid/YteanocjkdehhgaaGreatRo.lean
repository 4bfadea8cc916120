import Derived.Test.YteanocjkdehhgaaGreatFra
import Derived.Test.YteanocjkdehhgaaGreatFrb
import Derived.Test.YteanocjkdehhgaaGreatSws
import Derived.Test.YteanocjkdehhgaaGreatRhi
set_option maxRecDepth 512
set_option maxHeartbeats 200000
set_option linter.unusedVariables false
set_option linter.unusedSimpArgs false
namespace Go.Proofs.YteanocjkdehhgaaGreat
end Go.Proofs.YteanocjkdehhgaaGreat
namespace Go.Proofs.YteanocjkdehhgaaGreat
open Go.RowKit
open Go.Lib (hid)
end Go.Proofs.YteanocjkdehhgaaGreat

namespace Go.Proofs.YteanocjkdehhgaaGreat
open Go.RowKit
open Go.Lib (hid)
def RA (w : World) (s : Bool) (v u : Value) (o : Option Rat) : Prop := ∃ A D, RL w v u A D ∧ rval s A D = o
theorem RA.of {w : World} {s : Bool} {v u : Value} {A D : List Int} (h : RL w v u A D) : RA w s v u (rval s A D) := ⟨A, D, h, rfl⟩
theorem RA.old {w w' : World} {s : Bool} {v u : Value} {o : Option Rat} (h : RA w s v u o) (hb : Below w.heap.size w w') : RA w' s v u o := by
 obtain ⟨A, D, r, e⟩ := h
 exact ⟨A, D, r.old hb, e⟩
theorem RA.form {w : World} {s : Bool} {v u : Value} {o : Option Rat} (h : RA w s v u o) : ∃ (a : Option Addr) (n c : Nat) (b : Option Addr) (m d : Nat), v = .slice a n c ∧ u = .slice b m d := by
 obtain ⟨A, D, r, -⟩ := h
 obtain ⟨a, c, b, d, e1, e2⟩ := r.form
 exact ⟨a, _, c, b, _, d, e1, e2⟩
theorem RA.fitO {w : World} {s : Bool} {v u : Value} {o : Option Rat} (h : RA w s v u o) : fitO o := by
 obtain ⟨A, D, r, rfl⟩ := h
 exact fitO_rval s A D
theorem rok_isSome (s : Bool) (A D : List Int) : rok s A D = (rval s A D).isSome := by
 cases h : rok s A D with
 | false => rw [rval_no h]; rfl
 | true => obtain ⟨x, e, -⟩ := rval_yes h; rw [e]; rfl
theorem RA.x {w : World} {s : Bool} {v u : Value} {x : Rat} (h : RA w s v u (some x)) : RatX w s v u x := by
 obtain ⟨A, D, r, e⟩ := h
 have hr : rok s A D = true := by rw [rok_isSome, e]; rfl
 obtain ⟨y, e2, k⟩ := RatX.of r hr
 rw [e] at e2
 cases e2
 exact k
theorem sign_o {w : World} {s : Bool} {v u : Value} {o : Option Rat} (h : RA w s v u o) : Calls Tryz.prog 53 #[.agg #[.bool s, v, u]] w (RetB (.int .i64 (sgnO o)) w) := by
 obtain ⟨A, D, r, rfl⟩ := h
 exact impl_RatSign s v u A D w r
theorem sok_o {w : World} {s : Bool} {v u : Value} {o : Option Rat} (h : RA w s v u o) : Calls Tryz.prog 78 #[.agg #[.bool s, v, u]] w (RetB (.bool o.isSome) w) := by
 obtain ⟨A, D, r, rfl⟩ := h
 have := spec_RatOk s v u A D w r
 rw [rok_isSome] at this
 exact this
end Go.Proofs.YteanocjkdehhgaaGreat
