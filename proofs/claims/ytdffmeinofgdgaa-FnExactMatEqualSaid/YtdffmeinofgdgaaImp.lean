/- The program's sum, difference and product. -/
import Derived.Test.YtdffmeinofgdgaaNat4
namespace Go.Proofs.Ytdffmeinofgdgaa
open Go.RowKit
open Go.Lib (hid)
set_option linter.unusedVariables false
variable {Q : Rest}

theorem Ints_rebase {w : World} {B B' : Nat} {v : Value} {L : List Int} (h : Ints w B v L) (hb : ∀ k, v.ownBlock = some k → B' ≤ k) : Ints w B' v L := by
  refine ⟨h.1, ?_⟩
  rcases h.2 with g | ⟨b, cap, cur, h1, h2, h3⟩
  · exact .inl g
  · exact .inr ⟨b, cap, cur, h1, hb b (by rw [h1]; rfl), h3⟩
theorem slice_own {w : World} {B : Nat} {v : Value} {L : List Int} (h : Ints w B v L) : ∃ a c, v = .slice a L.length c ∧ RowI w a L.length L ∧ Apart (fun k => w.heap.size ≤ k) a := by
  obtain ⟨a, c, e, -, r, hb⟩ := Ints_form h
  exact ⟨a, c, e, r, fun x hx hs => by have := (hb x hx).2; omega⟩

/-- The result of a method's number: a slice of the call's own. -/
theorem OwnP_res {w w1 : World} {N : Nat} {v u : Value} {M T : List Int} {e : Ending} (hu : u = v ∧ T = M ∧ M.length ≤ 60 ∨ u = .slice none 0 0 ∧ T = [] ∧ 60 < M.length) (h : IsNat Q w1 (fun k => w.heap.size ≤ k) N v M) (hb : Below w.heap.size w w1) {V : Int} (h0 : 0 ≤ V) (hM : M = rep V.toNat)
    (he : e = .returned u) : OwnP (capped V) w e w1 := by
  rcases hu with ⟨rfl, rfl, hl⟩ | ⟨rfl, rfl, hl⟩
  · refine OwnP_mk rfl he ?_ hb
    rw [hM] at hl
    rw [capped_yes hl h0, ← hM]
    exact Ints_rebase h.ints h.own
  · refine OwnP_mk rfl he ?_ hb
    rw [hM] at hl
    rw [capped_no hl h0]
    exact Ints_nil _ _

def addR (A B : List Int) : List Int := if nok A && nok B then capped (val A + val B) else []
theorem addR_no {A B : List Int} (h : nok A = false ∨ nok B = false) : addR A B = [] := by
  unfold addR; rcases h with h | h <;> simp [h]
theorem addR_yes {A B : List Int} (h : nok A = true) (h' : nok B = true) : addR A B = capped (val A + val B) := by simp [addR, h, h']

theorem nok_len {L : List Int} (h : nok L = true) : L.length ≤ 60 := (nok_iff.1 h).1
theorem nok_lim {L : List Int} (h : nok L = true) : Lim L := (nok_iff.1 h).2.1

def subR (A B : List Int) : List Int := if nok A && nok B && decide (val B ≤ val A) then rep (val A - val B).toNat else []
theorem subR_no {A B : List Int} (h : nok A = false ∨ nok B = false ∨ val A < val B) : subR A B = [] := by
  unfold subR
  rcases h with h | h | h
  · simp [h]
  · simp [h]
  · have : ¬ val B ≤ val A := by omega
    simp [this]
theorem subR_yes {A B : List Int} (h : nok A = true) (h' : nok B = true) (h2 : val B ≤ val A) : subR A B = rep (val A - val B).toNat := by simp [subR, h, h', h2]
theorem cmp_nok {A B : List Int} (h : nok A = true) (h' : nok B = true) : (val A < val B → cmpL A B = -1) ∧ (val B < val A → cmpL A B = 1) ∧ (val A = val B → cmpL A B = 0) := by
  rw [cmpL_val (nok_iff.1 h).2 (nok_iff.1 h').2]
  rcases sgn_cases (val A - val B) with ⟨a, b⟩ | ⟨a, b⟩ | ⟨a, b⟩ <;> rw [b] <;> refine ⟨fun _ => ?_, fun _ => ?_, fun _ => ?_⟩ <;> omega
theorem rep_len {V : Int} (h : V < pw 60) : (rep V.toNat).length ≤ 60 := by
  refine (Can_len (Can_rep _)).2 ?_
  rw [val_rep]
  have := pw_pos 60
  omega
theorem capped_of {V : Int} (h : V < pw 60) : capped V = rep V.toNat := by unfold capped; rw [if_pos h]
theorem nok_lt {L : List Int} (h : nok L = true) : val L < pw 60 := (Can_len (nok_iff.1 h).2).1 (nok_len h)

end Go.Proofs.Ytdffmeinofgdgaa
