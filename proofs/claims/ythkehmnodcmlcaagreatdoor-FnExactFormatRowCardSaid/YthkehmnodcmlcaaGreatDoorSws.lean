/- Merged: Sw Sx Sy Sz. -/
import Derived.Test.YthkehmnodcmlcaaGreatDoorSra
import Derived.Test.YthkehmnodcmlcaaGreatDoorRhi
import Derived.Deep.RegionHeld3
import Derived.Maps.AppendAt
import Derived.Deep.DeepCutAuto
/- The reference: an append in a region that draws; a fraction negated, a fraction copied. -/
namespace Go.Proofs.YthkehmnodcmlcaaGreatDoor
open Go.RowKit
open Go.Lib (hid)
set_option linter.unusedVariables false

/-- An append of a slice of ints to an empty slice of the call's own at block G: wherever it stands. -/
theorem run_append_int {o : Oper} {a : Act} {K : Act → World → Prop} {Q : Exit → Act → World → Prop} (s x : Operand)
    (ho : o.op = .call { callee := .builtin .append, args := #[s, x], argTypes := #[23, 23] }) (w : World) (G B B0 : Nat) (v : Value) (L : List Int) (hs : a.eval s = .slice (some ⟨G, 0, none⟩) 0 0) (HX : Ints w B0 (.slice (some ⟨G, 0, none⟩) 0 0) []) (hB0 : B0 ≤ w.heap.size)
    (hx : a.eval x = v) (hv : Ints w B v L) (hL : L.length ≤ 1073741824)
    (h : ∀ v' w', Ints w' B0 v' L → Only (fun k => k = G ∨ w.heap.size ≤ k) w w' → (v'.ownBlock = some G ∨ v'.ownBlock = some w.heap.size) → K (a.put o.dst v') w') : o.wp Tryz.prog a w K Q := by
  obtain ⟨i3, hi, hz0, hz1, hz2⟩ := info_parts Tryz.info3
  rcases Ints_cases hv with ⟨rfl, rfl⟩ | ⟨g, cc, rfl, -, hg, hcc⟩
  · have hrun := run_append_owned_none (P := Tryz.prog) (w := w) B0 23 o.type 3 i3 1 Tryz.underlying23 hi (.slice (some ⟨G, 0, none⟩) 0 0) 0 [] HX
    unfold Oper.wp
    simp [execOp, ho, resolve, invoke, builtin, hs, hx, hrun, Result.andThen]
    exact h _ _ HX (Only.refl _ _) (.inl rfl)
  · have hnews : ∀ j u, (L.map (Value.int .i64))[j]? = some u → w.cell? ((⟨g, 0, none⟩ : Addr).add j) = some u := by
      intro j u hu
      rw [Go.WideShapes.add_plain, Nat.zero_add]
      rw [List.getElem?_map] at hu
      obtain ⟨y, hy, rfl⟩ := Option.map_eq_some_iff.1 hu
      obtain ⟨hj, rfl⟩ := List.getElem?_eq_some_iff.1 hy
      exact Ints_cell hv hj
    obtain ⟨v', w', hr, h2, h3, -, h5⟩ := run_append_own_at (P := Tryz.prog) (w := w) B0 23 o.type 3 i3 (.int .i64 0) 1 8 Tryz.underlying23 hi hz0 hz1 hz2 rfl (by decide) (.slice (some ⟨G, 0, none⟩) 0 0) 0 [] HX ⟨g, 0, none⟩ L.length cc (L.map (Value.int .i64)) (by simp) hnews
      (fun u hu => by obtain ⟨y, _, rfl⟩ := List.mem_map.1 hu; rfl) (by unfold maxLen; omega) (by omega) hB0
    unfold Oper.wp execOp
    simp only [ho, resolve, invoke, builtin, Sem.run_bind, Sem.run_pure, Result.andThen_ok, List.map_toArray, List.map_cons, List.map_nil, hs, hx, hr]
    exact h v' w' (by unfold Ints; simpa using h2) ((Only.refl _ _).grown h3 (fun k hk => .inr hk) (fun k hk => .inl (by cases hk; rfl))) h5
theorem step_append_int {ops : Array Oper} {o : Oper} {a : Act} {K : Act → World → Prop} {Q : Exit → Act → World → Prop} {E : Prop} (hgd : o.guard = none) (s x : Operand)
    (ho : o.op = .call { callee := .builtin .append, args := #[s, x], argTypes := #[23, 23] }) (w : World) (G B B0 : Nat) (v : Value) (L : List Int) (hs : a.eval s = .slice (some ⟨G, 0, none⟩) 0 0) (HX : Ints w B0 (.slice (some ⟨G, 0, none⟩) 0 0) []) (hB0 : B0 ≤ w.heap.size)
    (hx : a.eval x = v) (hv : Ints w B v L) (hL : L.length ≤ 1073741824)
    (h : ∀ v' w', Ints w' B0 v' L → Only (fun k => k = G ∨ w.heap.size ≤ k) w w' → (v'.ownBlock = some G ∨ v'.ownBlock = some w.heap.size) → K (a.put o.dst v') w') : if Region.wanted o (yielded ops a.tmps) = true then Oper.wp Tryz.prog o a w K Q else E := by
  have hw : Region.wanted o (yielded ops a.tmps) = true := by simp [Region.wanted, hgd]
  rw [if_pos hw]
  exact run_append_int s x ho w G B B0 v L hs HX hB0 hx hv hL h
theorem Ints_lit {w : World} {G B : Nat} (h : w.heap[G]? = some (.cells #[] 3 (0, 0))) (hB : B ≤ G) : Ints w B (.slice (some ⟨G, 0, none⟩) 0 0) [] :=
  ⟨rfl, .inr ⟨G, 0, #[], rfl, hB, h, Nat.le_refl _, by decide, rfl, rfl⟩⟩
theorem Ints_apart {w w' : World} {B G : Nat} {v : Value} {L : List Int} (h : Ints w B v L) (ho : Only (fun k => k = G ∨ w.heap.size ≤ k) w w') (hG : v.ownBlock ≠ some G) : Ints w' B v L :=
  Ints_only h ho fun k hk hs => by
    rcases hs with rfl | hs
    · exact hG hk
    · have := (Ints_lt h k hk).2; omega
theorem LocA.apart {T : TypeId} {w w' : World} {b G : Nat} {cs : Array Value} (h : LocA T w b cs) (ho : Only (fun k => k = G ∨ w.heap.size ≤ k) w w') (hG : b ≠ G) : LocA T w' b cs :=
  h.only ho fun hs => by have := h.lt; rcases hs with hs | hs <;> omega
theorem Only_below {w w' : World} {B G : Nat} (ho : Only (fun k => k = G ∨ w.heap.size ≤ k) w w') (hB : B ≤ G) (hB2 : B ≤ w.heap.size) : Below B w w' :=
  ho.below fun k hk hs => by rcases hs with hs | hs <;> omega


end Go.Proofs.YthkehmnodcmlcaaGreatDoor

/- The reference: a fraction copied. -/
namespace Go.Proofs.YthkehmnodcmlcaaGreatDoor
open Go.RowKit
open Go.Lib (hid)
set_option linter.unusedVariables false

end Go.Proofs.YthkehmnodcmlcaaGreatDoor

/- The reference: the sum of two valid fractions. -/
namespace Go.Proofs.YthkehmnodcmlcaaGreatDoor
open Go.RowKit
open Go.Lib (hid)
set_option linter.unusedVariables false

/-- A struct of a sign and limbs has been laid into a variable of its own, at block g, behind w. -/
def LaidZ (T : TypeId) (W : World) (z : Bool) (R : List Int) (sl : Value) (wx : World) : Prop := ∃ g a c, sl = .pointer (some ⟨g, 0, none⟩) ∧ LocA T wx g #[.bool z, .slice a R.length c] ∧ Ints wx W.heap.size (.slice a R.length c) R ∧ W.heap.size ≤ g ∧ Below W.heap.size W wx
theorem LaidZ_a {T : TypeId} {W wf : World} {z : Bool} {R : List Int} {a : Option Addr} {c B : Nat} (hi : Ints wf B (.slice a R.length c) R) (hB : W.heap.size ≤ B) (hb : Below W.heap.size W wf) :
    LaidZ T W z R (.pointer (some ⟨wf.heap.size, 0, none⟩)) (wf.alloc (.cells #[.bool z, .slice a R.length c] T)) :=
  ⟨wf.heap.size, a, c, rfl, LocA.new, Ints_base (addPre hi) hB, hb.size, hb.alloc hb.size _⟩
theorem LaidZ_b {T : TypeId} {W wf : World} {z : Bool} {R : List Int} {a : Option Addr} {c B N : Nat} (hT : T ≠ 3) (hL : LocA T wf N #[.bool false, .slice none 0 0]) (hN : W.heap.size ≤ N) (hB : W.heap.size ≤ B) (hi : Ints wf B (.slice a R.length c) R) (hb : Below W.heap.size W wf) :
    LaidZ T W z R (.pointer (some ⟨N, 0, none⟩)) ((wf.setCell ⟨N, 0, none⟩ (.bool z)).setCell ⟨N, 1, none⟩ (.slice a R.length c)) := by
  have hne := hL.ne hT hi
  refine ⟨N, a, c, rfl, ?_, Ints_base (Ints_set (Ints_set hi hne) hne) hB, hN, (hb.setCell hN _).setCell hN _⟩
  unfold LocA at hL ⊢
  simp [World.setCell, Array.getElem?_modify, hL]

end Go.Proofs.YthkehmnodcmlcaaGreatDoor

/- The reference: sums, differences, products, quotients, the order, the smaller and the greater fraction. -/
namespace Go.Proofs.YthkehmnodcmlcaaGreatDoor
open Go.RowKit
open Go.Lib (hid)
set_option linter.unusedVariables false

end Go.Proofs.YthkehmnodcmlcaaGreatDoor
