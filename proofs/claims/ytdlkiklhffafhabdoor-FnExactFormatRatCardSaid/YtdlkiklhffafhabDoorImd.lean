/- The program's quotient and remainder. -/
import Derived.Test.YtdlkiklhffafhabDoorTal
import Derived.Test.YtdlkiklhffafhabDoorToI
import Derived.BigRegion
namespace Go.Proofs.YtdlkiklhffafhabDoor
open Go.RowKit
open Go.Lib (hid)
set_option linter.unusedVariables false


def divB (A B : List Int) : Bool := nok A && nok B && decide (B ≠ [])
def divQ (A B : List Int) : List Int := if divB A B then rep (val A / val B).toNat else []
def divR (A B : List Int) : List Int := if divB A B then rep (val A % val B).toNat else []
theorem div_no {A B : List Int} (h : nok A = false ∨ nok B = false ∨ B = []) : divQ A B = [] ∧ divR A B = [] := by
  have : divB A B = false := by
    unfold divB
    rcases h with h | h | h
    · simp [h]
    · simp [h]
    · simp [h]
  simp [divQ, divR, this]
theorem div_yes {A B : List Int} (h : nok A = true) (h' : nok B = true) (h2 : B ≠ []) : divQ A B = rep (val A / val B).toNat ∧ divR A B = rep (val A % val B).toNat := by
  have : divB A B = true := by simp [divB, h, h', h2]
  simp [divQ, divR, this]
/-- Two slices of the call's own, apart from each other. -/
def Own2 (Q R : List Int) (w : World) (e : Ending) (w' : World) : Prop := ∃ v u, e = .returned (.tuple #[v, u]) ∧ Ints w' w.heap.size v Q ∧ Ints w' w.heap.size u R ∧ (∀ k, v.ownBlock = some k → u.ownBlock ≠ some k) ∧ Below w.heap.size w w'
theorem Own2_mk {Q R Q' R' : List Int} {w w' : World} {v u : Value} (hQ : Q' = Q) (hR : R' = R) (h1 : Ints w' w.heap.size v Q') (h2 : Ints w' w.heap.size u R') (hd : ∀ k, v.ownBlock = some k → u.ownBlock ≠ some k) (hb : Below w.heap.size w w') :
    Own2 Q R w (.returned (.tuple #[v, u])) w' := by
  subst hQ; subst hR; exact ⟨v, u, rfl, h1, h2, hd, hb⟩
theorem Own2_nil (w : World) : Own2 [] [] w (.returned (.tuple #[.slice none 0 0, .slice none 0 0])) w :=
  ⟨_, _, rfl, Ints_nil _ _, Ints_nil _ _, (fun k h => by simp [Value.ownBlock] at h), Below.refl _ _⟩
theorem mul_pw (b : Int) (j : Nat) : b * pw (j + 1) = 1000000000 * (b * pw j) := by simp only [pw]; grind
theorem div_done {a b q r : Int} (hb : 0 < b) (h : a = b * q + r) (h0 : 0 ≤ r) (h1 : r < b) : q = a / b ∧ r = a % b := by
  have e : b * q = q * b := Int.mul_comm _ _
  have := dg_end (T := a) (y := b) (q := q) hb (by omega) (by rw [Int.add_mul]; omega)
  exact ⟨this.1, by have := this.2; omega⟩
theorem ResP_short {L : List Int} {w : World} {v : Value} {e : Ending} {w' : World} (h : ResP L w v e w') (hl : L.length ≤ 60) : e = .returned v ∧ w = w' := by
  obtain ⟨⟨u, M, he, hu⟩, hw⟩ := h
  rcases hu with ⟨rfl, _, _⟩ | ⟨_, _, h6⟩
  · exact ⟨he, hw⟩
  · omega

end Go.Proofs.YtdlkiklhffafhabDoor
