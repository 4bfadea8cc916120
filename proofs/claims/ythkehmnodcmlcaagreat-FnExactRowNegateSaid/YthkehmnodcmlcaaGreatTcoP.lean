import Derived.Test.YthkehmnodcmlcaaGreatTokP
import Derived.Deep.RegionHeld3
import Derived.Deep.DeepCutAuto
set_option maxRecDepth 512
set_option maxHeartbeats 200000
set_option linter.unusedVariables false
set_option linter.unusedSimpArgs false
namespace Go.Proofs.YthkehmnodcmlcaaGreat
open Go.RowKit
open Go.Lib (hid)
section
variable {ops : Array Oper} {o : Oper} {a : Act} {W : World} {v : Value} {L : List Int} {lo B : Nat} {x : Int}
theorem wpList_pushI {rest : List Oper} {Q : Exit → Act → World → Prop} (hgd : o.guard = none) (s1 x1 : Operand)
  (ho : o.op = .call { callee := .builtin .append, args := #[s1, x1], argTypes := #[23, 23] }) (hs : a.eval s1 = v) (hv : Ints W lo v L)
  (hx : a.eval x1 = .slice (some ⟨B, 0, none⟩) 1 1) (hB : W.heap[B]? = some (.cells #[.int .i64 x] 3 (0, 0))) (hlen : L.length ≤ 1048576) (hlw : lo ≤ W.heap.size)
  (h : ∀ (g cap : Nat) (w' : World), Ints w' lo (.slice (some ⟨g, 0, none⟩) (L.length + 1) cap) (L ++ [x]) → Below lo W w' → W.grownBy w' v.ownBlock → wpList Tryz.prog ops Q rest (a.put o.dst (.slice (some ⟨g, 0, none⟩) (L.length + 1) cap)) w') :
  wpList Tryz.prog ops Q (o :: rest) a W := by
 obtain ⟨i0, hi0, hz0, hz1, hz2⟩ := info_parts Tryz.info3
 refine wpList_append_lies W hgd s1 x1 23 ho lo 3 i0 _ 1 8 Tryz.underlying23 hi0 hz0 hz1 hz2 rfl (by decide) v L.length (L.map (Value.int .i64)) hs hv ⟨B, 0, none⟩ 1 1 [.int .i64 x] hx rfl (World.news_of_block hB) ?_ (by decide) (by unfold maxLen; omega) (by omega) hlw W.heap.size rfl ?_
 ·intro u hu
  rw [List.mem_singleton.1 hu]; rfl
 ·intro g cap w' hrow hgr _ hlt
  refine h g cap w' ?_ ((Below.refl lo W).grown hgr hlw fun k hk => (Ints_lt hv k hk).1) hgr
  have e : L.map (Value.int .i64) ++ [.int .i64 x] = (L ++ [x]).map (Value.int .i64) := by simp
  rw [e] at hrow
  unfold Ints
  rw [List.length_append]
  exact hrow
end
theorem Ints_nilT (w : World) (lo : Nat) : Ints w lo (.slice none 0 0) [] := Ints_nil _ _
end Go.Proofs.YthkehmnodcmlcaaGreat
