/- The program's comparison of two structs. -/
import Derived.Test.YtleechafachkaabWm
namespace Go.Proofs.Ytleechafachkaab
open Go.RowKit
open Go.Lib (hid)
set_option linter.unusedVariables false

theorem W22_below {w : World} {s t : Bool} {v u : Value} {T : TypeId} : Below w.heap.size w ((w.alloc (.cells #[.bool s, v] T)).alloc (.cells #[.bool t, u] T)) := ((Below.refl _ _).alloc (Nat.le_refl _) _).alloc (by simp) _
theorem W22_1 {w : World} {s t : Bool} {v u : Value} {T : TypeId} : Loc T ((w.alloc (.cells #[.bool s, v] T)).alloc (.cells #[.bool t, u] T)) w.heap.size s v := (Loc.at rfl).new1
theorem W22_2 {w : World} {s t : Bool} {v u : Value} {T : TypeId} : Loc T ((w.alloc (.cells #[.bool s, v] T)).alloc (.cells #[.bool t, u] T)) (w.heap.size + 1) t u := Loc.at (by simp)
theorem Ints_rowW {w : World} {B n c : Nat} {a : Option Addr} {L : List Int} (h : Ints w B (.slice a n c) L) : RowI w a n L := by
  obtain ⟨x, y, e, -, r, -⟩ := Ints_form h
  cases e
  exact r
def cmpB (s : Bool) (A : List Int) (t : Bool) (B : List Int) : Int := if bok s A && bok t B then sgn (sval s (val A) - sval t (val B)) else 0
theorem cmpB_no {s t : Bool} {A B : List Int} (h : bok s A = false ∨ bok t B = false) : cmpB s A t B = 0 := by
  unfold cmpB; rcases h with h | h <;> simp [h]
theorem cmpB_yes {s t : Bool} {A B : List Int} (h : bok s A = true) (h' : bok t B = true) : cmpB s A t B = sgn (sval s (val A) - sval t (val B)) := by simp [cmpB, h, h']
theorem pos_of {A : List Int} (h : bok true A = true) : 0 < val A := by
  obtain ⟨h1, h2⟩ := bok_iff.1 h
  have h3 := Can_ge (nok_iff.1 h1).2 (h2 rfl)
  have := pw_pos (A.length - 1)
  omega
theorem cmpB_tt {A B : List Int} (h : bok true A = true) (h' : bok true B = true) : cmpB true A true B = cmpL B A := by
  rw [cmpB_yes h h', cmpL_val (nok_iff.1 (bok_iff.1 h').1).2 (nok_iff.1 (bok_iff.1 h).1).2]
  simp only [sval, if_true]
  congr 1
  omega
theorem cmpB_tf {A B : List Int} (h : bok true A = true) (h' : bok false B = true) : cmpB true A false B = -1 := by
  rw [cmpB_yes h h']
  have := pos_of h
  have := val_nonneg (nok_lim (bok_iff.1 h').1)
  simp only [sval, if_true]
  unfold sgn
  rw [if_pos (by simp; omega)]
theorem cmpB_ft {A B : List Int} (h : bok false A = true) (h' : bok true B = true) : cmpB false A true B = 1 := by
  rw [cmpB_yes h h']
  have := pos_of h'
  have := val_nonneg (nok_lim (bok_iff.1 h).1)
  unfold sgn
  rw [if_neg (by simp [sval]; omega), if_pos (by simp [sval]; omega)]
theorem cmpB_ff {A B : List Int} (h : bok false A = true) (h' : bok false B = true) : cmpB false A false B = cmpL A B := by
  rw [cmpB_yes h h', cmpL_val (nok_iff.1 (bok_iff.1 h).1).2 (nok_iff.1 (bok_iff.1 h').1).2]
  rfl

end Go.Proofs.Ytleechafachkaab
