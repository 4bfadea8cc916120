/- The reference's BigIntFloorDiv. -/
import Derived.Test.YtmghoedjcokhpaaFdm
import Derived.Test.YtmghoedjcokhpaaSdd
import Derived.Test.YtmghoedjcokhpaaWsm
namespace Go.Proofs.Ytmghoedjcokhpaa
open Go.RowKit
open Go.Lib (hid)
set_option linter.unusedVariables false

def FdS (q : Bool) (Q R : List Int) (w : World) (e : Ending) (w' : World) : Prop := ∃ v u, e = .returned (.tuple #[.agg #[.bool q, v], u]) ∧ Ints w' w.heap.size v Q ∧ Ints w' w.heap.size u R ∧ Below w.heap.size w w'
theorem FdS_mk {q q' : Bool} {Q R Q' R' : List Int} {w w' : World} {v u : Value} (hq : q' = q) (hQ : Q' = Q) (hR : R' = R) (h1 : Ints w' w.heap.size v Q') (h2 : Ints w' w.heap.size u R') (hb : Below w.heap.size w w') :
    FdS q Q R w (.returned (.tuple #[.agg #[.bool q', v], u])) w' := by subst hq; subst hQ; subst hR; exact ⟨v, u, rfl, h1, h2, hb⟩
theorem Can_leq {A B : List Int} (hA : Can A) (hB : Can B) (h : val B ≤ val A) : B.length ≤ A.length := by
  have := (Can_len hA (k := A.length)).1 (Nat.le_refl _)
  exact (Can_len hB).2 (by omega)

end Go.Proofs.Ytmghoedjcokhpaa
