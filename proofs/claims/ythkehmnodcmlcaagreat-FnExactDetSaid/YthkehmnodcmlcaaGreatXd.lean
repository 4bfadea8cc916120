import Derived.Test.YthkehmnodcmlcaaGreatTcl
import Derived.Test.YthkehmnodcmlcaaGreatXc
import Derived.Test.YthkehmnodcmlcaaGreatXo
import Derived.Test.YthkehmnodcmlcaaGreatVw
import Derived.Deep.RegionHeld3
import Derived.Deep.DeepCutAuto
set_option maxRecDepth 100000
set_option maxHeartbeats 200000
set_option linter.unusedVariables false
set_option linter.unusedSimpArgs false
namespace Go.Proofs.YthkehmnodcmlcaaGreat
open Go.RowKit
open Go.Lib (hid)
theorem VK.snocF {p : Bool} {w w1 : World} {v v' x y : Value} {K : List Fq} {s : Bool} {A D : List Int} {lo hi lo' n : Nat} (h : VK p w v K lo hi) (hr : RF p w lo' x y A D) (hh : hi ≤ lo') (hl : lo ≤ lo') {xs : List Value}
  (hx : ∃ E, VO p w v E lo hi ∧ keys E = K ∧ xs = flat E) (hrow : w1.ownsRow lo 37 3 v' n (xs ++ [.bool s, x, y])) (hn : n = K.length + 1) (hg : w.grownBy w1 v.ownBlock) : VK p w1 v' (K ++ [⟨s, A, D⟩]) lo w1.heap.size := by
 obtain ⟨E, hE, rfl, rfl⟩ := hx
 rw [keys_len] at hn
 subst hn
 have hro : ROw w x y A D lo' w.heap.size := ⟨⟨hr.i, fun k hk => (Ints_lt hr.i k hk).2⟩, ⟨hr.j, fun k hk => (Ints_lt hr.j k hk).2⟩⟩
 exact ⟨E ++ [⟨⟨s, A, D⟩, x, y⟩], hE.snoc (e := ⟨⟨s, A, D⟩, x, y⟩) ⟨hro.a.wide hl (.inr (Nat.le_refl _)), hro.d.wide hl (.inr (Nat.le_refl _))⟩ (fun hp => hr.nd hp) (fun hp => hE.apt (e := ⟨⟨s, A, D⟩, x, y⟩) hro hh) hrow hg, by rw [keys_append]; rfl⟩
section
variable {ops : Array Oper} {o : Oper} {a : Act} {p : Bool} {W : World} {v x y : Value} {Ks : List Fq} {lo hi lo' B : Nat} {sg : Bool} {A D : List Int}
theorem wpList_pushF {rest : List Oper} {Q : Exit → Act → World → Prop} (hgd : o.guard = none) (s1 x1 : Operand)
  (ho : o.op = .call { callee := .builtin .append, args := #[s1, x1], argTypes := #[41, 41] }) (hs : a.eval s1 = v) (hv : VK p W v Ks lo hi) (hh : hi ≤ lo') (hl : lo ≤ lo') (hr : RF p W lo' x y A D)
  (hx : a.eval x1 = .slice (some ⟨B, 0, none⟩) 1 1) (hB : W.heap[B]? = some (.cells #[.bool sg, x, y] 37 (0, 0))) (hlen : Ks.length ≤ 1048576) (hlw : lo ≤ W.heap.size) {n : Nat} (hnn : n = Ks.length + 1)
  (h : ∀ (g cap : Nat) (w' : World), VK p w' (.slice (some ⟨g, 0, none⟩) n cap) (Ks ++ [⟨sg, A, D⟩]) lo w'.heap.size → Below lo W w' → wpList Tryz.prog ops Q rest (a.put o.dst (.slice (some ⟨g, 0, none⟩) n cap)) w') :
  wpList Tryz.prog ops Q (o :: rest) a W := by
 subst hnn
 obtain ⟨i0, hi0, hz0, hz1, hz2⟩ := info_parts infoRat
 obtain ⟨E, hE, hk⟩ := hv
 have hlk : E.length = Ks.length := by rw [← hk, keys_len]
 refine wpList_append_lies W hgd s1 x1 41 ho lo 37 i0 _ 3 56 Tryz.underlying41 hi0 hz0 hz1 hz2 rfl (by decide) v Ks.length (flat E) hs (hlk ▸ hE.row) ⟨B, 0, none⟩ 1 1 [.bool sg, x, y] hx rfl (World.news_of_block hB) ?_ (by decide) (by unfold maxLen; omega) (by omega) hlw W.heap.size rfl ?_
 ·obtain ⟨a1, c1, rfl, -⟩ := Ints_form hr.i
  obtain ⟨a2, c2, rfl, -⟩ := Ints_form hr.j
  intro u hu
  simp only [List.mem_cons, List.not_mem_nil, or_false] at hu
  rcases hu with rfl | rfl | rfl <;> rfl
 ·intro g cap w' hrow hgr _ hlt
  have hvk : VK p W v Ks lo hi := ⟨E, hE, hk⟩
  exact h g cap w' (hvk.snocF hr hh hl ⟨E, hE, hk, rfl⟩ hrow rfl hgr) ((Below.refl lo W).grown hgr hlw fun k hk => (hE.lt k hk).1)
end
end Go.Proofs.YthkehmnodcmlcaaGreat

namespace Go.Proofs.YthkehmnodcmlcaaGreat
open Go.RowKit
open Go.Lib (hid)
end Go.Proofs.YthkehmnodcmlcaaGreat
