/- The program's product of two structs. -/
import Derived.Test.YtleechafachkaabWl
import Derived.Deep.RegionHeld3
namespace Go.Proofs.Ytleechafachkaab
open Go.RowKit
open Go.Lib (hid)
set_option linter.unusedVariables false

theorem sval_mul {s t : Bool} {x y : Int} : sval s x * sval t y = sval (s != t) (x * y) := by cases s <;> cases t <;> simp [sval, Int.neg_mul, Int.mul_neg]
/-- The magnitude that a capped product stands for. -/
def capV (V : Int) : Int := if V < pw 60 then V else 0
theorem capV_nonneg {V : Int} (h : 0 ≤ V) : 0 ≤ capV V := by unfold capV; split <;> omega
theorem capV_rep {V : Int} : capped V = rep (capV V).toNat := by unfold capped capV; split <;> simp [rep_zero]
theorem gzs_capV {s : Bool} {V : Int} (h : 0 ≤ V) : gzs (sval s (capV V)) = gzs (sval s V) := by
  unfold capV
  split
  · rfl
  · next hb => rw [gzs_big (Z := sval s V) (by rw [sval_abs h]; omega)]; cases s <;> simp [sval, gzs]
theorem gzl_capV {s : Bool} {V : Int} (h : 0 ≤ V) : gzl (sval s (capV V)) = gzl (sval s V) := by
  unfold capV
  split
  · rfl
  · next hb => rw [gzl_big (Z := sval s V) (by rw [sval_abs h]; omega)]; cases s <;> simp [sval, gzl_zero]
theorem cell_set2 {w : World} {b N i : Nat} {u v : Value} (h : b ≠ N) : ((w.setCell ⟨N, 0, none⟩ u).setCell ⟨N, 1, none⟩ v).cell? ⟨b, i, none⟩ = w.cell? ⟨b, i, none⟩ := World.cell?_of_block (w := w) (a := ⟨b, i, none⟩) ((set_block _ _ _ _ _ h).trans (set_block _ _ _ _ _ h))
theorem cell_of {w : World} {N : Nat} {u v : Value} {T : TypeId} (h : w.heap[N]? = some (.cells #[u, v] T (0, 0))) : w.cell? ⟨N, 0, none⟩ = some u := by simp [World.cell?, h]
theorem cell_of1 {w : World} {N : Nat} {u v : Value} {T : TypeId} (h : w.heap[N]? = some (.cells #[u, v] T (0, 0))) : w.cell? ⟨N, 1, none⟩ = some v := by simp [World.cell?, h]
theorem free_of {w : World} {N : Nat} {u v : Value} {T : TypeId} (h : w.heap[N]? = some (.cells #[u, v] T (0, 0))) (i : Nat) : w.frozen? ⟨N, i, none⟩ = false := by simp [World.frozen?, h]
theorem bigInt_cap (lo : Nat) (s : Bool) (N : Nat) (v : Value) (V : Int) (h0 : 0 ≤ V) (w : World) (h : IsNat (wholeQ s) w (fun k => lo ≤ k) N v (capped V)) :
    Calls Try.prog 27 #[.pointer (some ⟨N, 0, none⟩)] w (GivB lo (gzs (sval s V)) (gzl (sval s V)) w) := by
  rw [← gzs_capV h0, ← gzl_capV h0]
  exact bigInt_own lo s N v _ (capV_nonneg h0) w (by rw [← capV_rep]; exact h)
/-- A whole in a block that the call has laid before. -/
theorem IsNat_laid {w w1 : World} {N B : Nat} {s : Bool} {v : Value} {L : List Int} (h0 : w1.heap[N]? = some (.cells #[.slice none 0 0, .bool false] 45 (0, 0))) (hN : w.heap.size ≤ N) (h : Ints w1 B v L) (hb : Below w.heap.size w w1) (hB : w.heap.size ≤ B) :
    IsNat (wholeQ s) ((w1.setCell ⟨N, 0, none⟩ v).setCell ⟨N, 1, none⟩ (.bool s)) (fun k => w.heap.size ≤ k) N v L ∧ Below w.heap.size w ((w1.setCell ⟨N, 0, none⟩ v).setCell ⟨N, 1, none⟩ (.bool s)) := by
  have hne : v.ownBlock ≠ some N := by
    rcases h.2 with ⟨rfl, _⟩ | ⟨g, cap, cur, rfl, h2, h3, _⟩
    · simp [Value.ownBlock]
    · intro he
      have : g = N := by simpa [Value.ownBlock] using he
      subst this
      rw [h3] at h0
      simp at h0
  refine ⟨⟨?_, hN, Ints_base (Ints_set (Ints_set h hne) hne) (Nat.zero_le _), fun k hk => by have := (Ints_lt h k hk).1; omega⟩, (hb.setCell hN _).setCell hN _⟩
  simp [World.setCell, Array.getElem?_modify, h0, Rest.obj, wholeQ]

end Go.Proofs.Ytleechafachkaab
