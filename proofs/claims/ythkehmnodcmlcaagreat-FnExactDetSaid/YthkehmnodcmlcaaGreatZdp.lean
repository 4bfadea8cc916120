import Derived.Test.YthkehmnodcmlcaaGreatYd
import Derived.Deep.RegionHeld3
import Derived.Deep.DeepCutAuto
import Derived.Deep.LoopGhost
import Derived.Test.YthkehmnodcmlcaaGreatXh
import Derived.Test.YthkehmnodcmlcaaGreatYh
set_option maxRecDepth 512
set_option maxHeartbeats 200000
set_option linter.unusedVariables false
set_option linter.unusedSimpArgs false
namespace Go.Proofs.YthkehmnodcmlcaaGreat
open Go.RowKit
open Go.Lib (hid)
end Go.Proofs.YthkehmnodcmlcaaGreat
namespace Go.Proofs.YthkehmnodcmlcaaGreat
open Go.RowKit
open Go.Lib (hid)
theorem Ints_keepK {w w' : World} {G m c lo' n lo : Nat} {xs : List Value} {v : Value} {L : List Int} (hr : w.ownsRow lo' 41 1 (.slice (some ⟨G, 0, none⟩) m c) n xs) (hb : ∀ k, k ≠ G → w'.heap[k]? = w.heap[k]?) (ho : Ints w lo v L) : Ints w' lo v L :=
 Ints_block ho fun k hk => hb k fun e => own_ne hr ho (by decide) k (by rw [e]; rfl) hk
end Go.Proofs.YthkehmnodcmlcaaGreat

namespace Go.Proofs.YthkehmnodcmlcaaGreat
open Go.RowKit
open Go.Lib (hid)
def un (M : List (List Fq)) : List (List Rat) := M.map fun K => K.map fun f => f.o.getD 0
theorem un_fr : ∀ {X : List Rat}, AF X → (rv X).map (fun f => f.o.getD 0) = X
 | [], _ => rfl
 |x :: X, h => by
  have ih := un_fr (X := X) fun y hy => h y (List.mem_cons_of_mem _ hy)
  unfold rv at ih ⊢
  rw [List.map_cons, List.map_cons, fr_o (h x (List.mem_cons_self ..)), Option.getD_some, ih]
theorem un_row {K : List Fq} (h : oks (vals K) = true) : K = rv (K.map fun f => f.o.getD 0) ∧ AF (K.map fun f => f.o.getD 0) := by
 obtain ⟨X, e, hX⟩ := rv_row h
 subst e
 rw [un_fr hX]
 exact ⟨rfl, hX⟩
theorem un_rv {M : List (List Fq)} (h : matOk M = true) : M = (un M).map rv ∧ Rows (matW M) (un M) := by
 have hr : ∀ K ∈ M, K.length = matW M ∧ oks (vals K) = true := fun K hK => by
  obtain ⟨k, hk, rfl⟩ := List.getElem_of_mem hK
  exact matOk_row h hk
 refine ⟨?_, fun X hX => ?_, fun X hX => ?_⟩
 ·unfold un
  rw [List.map_map]
  conv => lhs; rw [← List.map_id M]
  exact List.map_congr_left fun K hK => (un_row (hr K hK).2).1
 ·obtain ⟨K, hK, rfl⟩ := List.mem_map.1 hX
  rw [List.length_map]; exact (hr K hK).1
 ·obtain ⟨K, hK, rfl⟩ := List.mem_map.1 hX
  exact (un_row (hr K hK).2).2
theorem un_len (M : List (List Fq)) : (un M).length = M.length := by simp [un]
end Go.Proofs.YthkehmnodcmlcaaGreat
namespace Go.Proofs.YthkehmnodcmlcaaGreat
open Go.RowKit
open Go.Lib (hid)
end Go.Proofs.YthkehmnodcmlcaaGreat
namespace Go.Proofs.YthkehmnodcmlcaaGreat
open Go.RowKit
open Go.Lib (hid)
end Go.Proofs.YthkehmnodcmlcaaGreat

namespace Go.Proofs.YthkehmnodcmlcaaGreat
end Go.Proofs.YthkehmnodcmlcaaGreat
