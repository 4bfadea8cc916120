/- The reference: the sum of two valid fractions. -/
import Derived.Test.YtookglpeieennaaSra
import Derived.Test.YtookglpeieennaaRhi
import Derived.Deep.RegionHeld3
import Derived.Deep.DeepCutAuto
namespace Go.Proofs.Ytookglpeieennaa
open Go.RowKit
open Go.Lib (hid)
set_option linter.unusedVariables false

/-- A struct of a sign and limbs has been laid into a variable of its own, at block g, behind w. -/
def LaidZ (T : TypeId) (W : World) (z : Bool) (R : List Int) (sl : Value) (wx : World) : Prop := ∃ g a c, sl = .pointer (some ⟨g, 0, none⟩) ∧ LocA T wx g #[.bool z, .slice a R.length c] ∧ Ints wx W.heap.size (.slice a R.length c) R ∧ W.heap.size ≤ g ∧ Below W.heap.size W wx
theorem LaidZ_a {T : TypeId} {W wf : World} {z : Bool} {R : List Int} {a : Option Addr} {c B : Nat} (hi : Ints wf B (.slice a R.length c) R) (hB : W.heap.size ≤ B) (hb : Below W.heap.size W wf) :
    LaidZ T W z R (.pointer (some ⟨wf.heap.size, 0, none⟩)) (wf.alloc (.cells #[.bool z, .slice a R.length c] T)) :=
  ⟨wf.heap.size, a, c, rfl, LocA.new, Ints_base (addPre hi) hB, hb.size, hb.alloc hb.size _⟩
theorem LaidZ_b {T : TypeId} {W wf : World} {z : Bool} {R : List Int} {a : Option Addr} {c B N : Nat} (hT : T ≠ 3) (hL : LocA T wf N #[.bool false, .slice none 0 0]) (hN : W.heap.size ≤ N) (hB : W.heap.size ≤ B) (hi : Ints wf B (.slice a R.length c) R) (hb : Below W.heap.size W wf) :
    LaidZ T W z R (.pointer (some ⟨N, 0, none⟩)) ((wf.setCell ⟨N, 0, none⟩ (.bool z)).setCell ⟨N, 1, none⟩ (.slice a R.length c)) := by
  have hne := hL.ne hT hi
  refine ⟨N, a, c, rfl, ?_, Ints_base (Ints_set (Ints_set hi hne) hne) hB, hN, (hb.setCell hN _).setCell hN _⟩
  unfold LocA at hL ⊢
  simp [World.setCell, Array.getElem?_modify, hL]

end Go.Proofs.Ytookglpeieennaa
