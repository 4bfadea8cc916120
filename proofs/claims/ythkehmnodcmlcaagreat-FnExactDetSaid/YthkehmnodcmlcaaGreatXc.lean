import Derived.Test.YthkehmnodcmlcaaGreatXh
import Derived.Test.YthkehmnodcmlcaaGreatXw
import Derived.Laws.CopyOwn
import Derived.Deep.RegionHeld3
import Derived.Deep.DeepCutAuto
import Derived.Deep.AppendLies
import Derived.IntWalk
set_option maxRecDepth 512
set_option maxHeartbeats 200000
set_option linter.unusedVariables false
set_option linter.unusedSimpArgs false
namespace Go.Proofs.YthkehmnodcmlcaaGreat
open Go.RowKit
open Go.Lib (hid)
def rowsV (g c n : Nat) : List Value := (List.range n).map fun i => .slice (some ⟨g, i * c * 3, none⟩) c c
theorem rowsV_at {g c n k : Nat} (h : k < n) : (rowsV g c n)[k]? = some (.slice (some ⟨g, k * c * 3, none⟩) c c) := by simp [rowsV, h]
theorem flat_split {α : Type} {Es : List (List α)} {k : Nat} (h : k < Es.length) : Es.flatten = (Es.take k).flatten ++ Es[k] ++ (Es.drop (k + 1)).flatten := by
 have h1 : Es = Es.take k ++ Es[k] :: Es.drop (k + 1) := by rw [← List.drop_eq_getElem_cons h, List.take_append_drop]
 have h2 : Es.flatten = (Es.take k ++ Es[k] :: Es.drop (k + 1)).flatten := by rw [← h1]
 rw [h2, List.flatten_append, List.flatten_cons, ← List.append_assoc]
theorem MW.mw {w : World} {a : Option Addr} {n : Nat} {M : List (List Fq)} {lo hi : Nat} (h : MW w a n M lo hi) : MW w a n M lo hi := h
end Go.Proofs.YthkehmnodcmlcaaGreat
namespace Go.Proofs.YthkehmnodcmlcaaGreat
open Go.RowKit
open Go.Lib (hid)
section
variable {P : Program}
theorem run_copy_no (w : World) (dT sT ty elem : TypeId) (d a : Option Addr) (dLen dCap sLen sCap size : Nat) (hu : P.underlying dT = some (.slice elem)) (hs : (P.info? elem).map (·.size) = some size) (hn : Nat.min sLen dLen = 0) :
  (Builtin.copy_ #[dT, sT] ty #[.slice d dLen dCap, .slice a sLen sCap]).run P w = .ok (goInt 0) w := by
 cases hq : P.info? elem with
 | none => simp [hq] at hs
 |some i =>
  have hl : ∀ (x : Addr), (loadCells x 0).run P w = .ok #[] w := fun x => by simpa using run_loadCells_list (P := P) w x [] (by simp)
  cases d <;> cases a <;> simp [Builtin.copy_, run_underlying hu, Builtin.lenOf, Builtin.firstCells, sizeOf, typeInfo, hq, hn, storeCells, hl]
theorem run_copy_rk (w : World) (dT sT ty elem : TypeId) (g o dLen dCap : Nat) (a : Addr) (sLen sCap : Nat) (cur : Array Value) (t : TypeId) (cs : List Value) (size m : Nat)
  (hu : P.underlying dT = some (.slice elem)) (hs : (P.info? elem).map (·.size) = some size)
  (hg : w.heap[g]? = some (.cells cur t (0, 0))) (hm : Nat.min sLen dLen = m) (hn : cs.length = m * size)
  (hsrc : ∀ j v, cs[j]? = some v → w.cell? (a.add j) = some v) (hfit : o + cs.length ≤ cur.size) (h1 : ∀ v ∈ cs, v.oneCell' = true) :
  (Builtin.copy_ #[dT, sT] ty #[.slice (some ⟨g, o, none⟩) dLen dCap, .slice (some a) sLen sCap]).run P w =
   .ok (goInt m) (w.setRow g (cur.toList.take o ++ cs ++ cur.toList.drop (o + cs.length)).toArray) := by
 have hl := run_loadCells_list (P := P) w a cs hsrc
 have hst := run_storeCells_at P g o t cs 0 cur w hg (by simpa using hfit) h1
 cases hq : P.info? elem with
 | none => simp [hq] at hs
 |some i =>
  have hi : i.size = size := by simpa [hq] using hs
  rw [hn] at hl
  simp [Builtin.copy_, run_underlying hu, Builtin.lenOf, Builtin.firstCells, sizeOf, typeInfo, hq, hi, hm, hl, hst]
end
theorem VO.one {p : Bool} {w : World} {v : Value} {E : List El} {lo hi : Nat} (h : VO p w v E lo hi) : ∀ u ∈ flat E, u.oneCell' = true := by
 intro u hu
 obtain ⟨x, hx, hu⟩ := List.mem_flatMap.1 hu
 obtain ⟨a3, c3, b3, d3, e1, e2⟩ := (h.el x hx).form
 simp only [El.cs, e1, e2, List.mem_cons, List.not_mem_nil, or_false] at hu
 rcases hu with rfl | rfl | rfl <;> rfl
theorem VO.grown {p : Bool} {w w' : World} {v vr : Value} {E : List El} {lo hi B n : Nat} {xs : List Value} (h : VO p w v E lo hi) (hr : w.ownsRow B 41 1 vr n xs) (hg : w.grownBy w' vr.ownBlock) : VO p w' v E lo hi := by
 have ob : ∀ {y : Value} {L : List Int}, Obj w y L lo hi → Obj w' y L lo hi := fun {y L} ho =>
  ⟨Ints_block ho.ints fun k hk => hg.block k (Ints_lt ho.ints k hk).2 fun e => own_ne hr ho.ints (by decide) k e.symm hk, ho.high⟩
 exact ⟨own_block h.row fun k hk => hg.block k (h.lt k hk).2 fun e => own_ne hr h.row (by decide) k e.symm hk, h.high, fun x hx => ⟨ob (h.el x hx).a, ob (h.el x hx).d⟩, h.nd, h.ap⟩
structure MB (w : World) (v : Value) (g N c : Nat) (Es : List (List El)) (Z : List El) (lo hi : Nat) : Prop where
 row : w.ownsRow lo 41 1 v (Es.length + 1) (rowsV g c (Es.length + 1))
 high : ∀ k, v.ownBlock = some k → k < hi
 vo : VO true w (.slice (some ⟨g, 0, none⟩) N N) (Es.flatten ++ Z) lo hi
 len : ∀ E ∈ Es, E.length = c
theorem MB.cell {w : World} {G d g N c : Nat} {Es : List (List El)} {Z : List El} {lo hi : Nat} (h : MB w (.slice (some ⟨G, 0, none⟩) (Es.length + 1) d) g N c Es Z lo hi) : w.cell? ⟨G, Es.length, none⟩ = some (.slice (some ⟨g, Es.length * c * 3, none⟩) c c) := by
 have hc := h.row.cells (g := G) rfl _ _ (rowsV_at (k := Es.length) (by omega))
 rwa [Go.WideShapes.add_plain, Nat.zero_add] at hc
section
variable {ops : Array Oper} {o : Oper} {a : Act} {W : World} {v : Value} {g N c : Nat} {Es : List (List El)} {Z : List El} {lo hi B : Nat}
end
end Go.Proofs.YthkehmnodcmlcaaGreat
