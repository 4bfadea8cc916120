/- Parsing of vectors: words. -/
import Derived.Test.YtmghoedjcokhpaaGreatDoorVpm
import Derived.Test.YtmghoedjcokhpaaGreatDoorSplB
import Derived.Test.YtmghoedjcokhpaaGreatDoorPrq
import Derived.Deep.RegionHeld3
import Derived.Deep.DeepCutAuto
namespace Go.Proofs.YtmghoedjcokhpaaGreatDoor
open Go.RowKit
open Go.Lib (hid)
set_option linter.unusedVariables false

theorem RO_parsed (p : Bool) {w : World} {v u : Value} {s : Bool} {A D : List Int} {lo hi : Nat} (h : ROb w v u A D lo hi) (hr : rok s A D = true) : RO p w lo s v u (rval s A D) := by
  obtain ⟨x, e, -⟩ := rval_yes hr
  obtain ⟨h1, h2, h3⟩ := rval_lists e
  have hf := fitO_rval s A D
  rw [e] at hf ⊢
  exact ⟨h1.symm, by rw [show qn (some x) = x.num from rfl, h2]; exact h.a.ints, by rw [show qd (some x) = (x.den : Int) from rfl, h3]; exact h.d.ints, fun _ => h.ne, hf⟩
/-- What both return. -/
def ParV (p : Bool) (K : List Fq) (b : Bool) (w : World) (e : Ending) (w' : World) : Prop := ∃ a n c, e = .returned (.tuple #[.slice a n c, .bool b]) ∧ VK p w' (.slice a n c) K w.heap.size w'.heap.size ∧ Below w.heap.size w w'
theorem pv_all (s : ByteArray) (hs : s.size ≤ 1048576) (hn : ¬ s = ByteArray.mk #[45]) : ∃ (P : List ByteArray) (b : Bool) (K : List Fq), pieces s (ByteArray.mk #[32]) = P ∧ pvB s = b ∧ pvK s = K ∧ 1 ≤ P.length ∧ P.length ≤ 1048577 ∧ (∀ k (hk : k < P.length), P[k].size ≤ 1048576) ∧
    (∀ k (hk : k < P.length), prB P[k] = false → b = false ∧ K = []) ∧ (¬ P.length ≤ 40 → b = false ∧ K = []) ∧ (P.length ≤ 40 → (∀ j (hj : j < P.length), prB P[j] = true) → b = true ∧ K = P.map pfq) ∧
    (∀ k (hk : k < P.length), prB P[k] = true → (P.take k).map pfq ++ [fqo (rval (prS P[k]) (prA P[k]) (prE P[k]))] = (P.take (k + 1)).map pfq) ∧
    ((∀ j (hj : j < P.length), prB P[j] = true) → Sm (P.map pfq)) ∧ ((∀ j (hj : j < P.length), prB P[j] = true) → fmtV (P.map pfq) = if P.length ≤ 40 then s else ByteArray.mk #[]) ∧ (¬ P.length ≤ 40 → ¬ ByteArray.mk #[] = s) :=
  ⟨pvP s, pvB s, pvK s, rfl, rfl, rfl, pv_size.1, by have := (pv_size (s := s)).2; omega, fun k hk => Nat.le_trans (pv_piece hk) hs, fun k hk h => pv_bad hn hk h, fun h => pv_long hn h, fun h ha => pv_good hn h ha, fun k hk h => pv_take hk h, fun ha => pv_Sm hs ha, fun ha => pv_text ha, fun h => pv_empty h⟩
section
variable {ops : Array Oper} {o : Oper} {a : Act} {p : Bool} {W : World} {v x y : Value} {Ks : List Fq} {lo hi lo' B : Nat} {sg : Bool} {oo : Option Rat}
set_option maxRecDepth 100000 in
/-- THE APPEND of a struct of a call's own; slices of strings stay. -/
theorem wpList_pushK {rest : List Oper} {Q : Exit → Act → World → Prop} (hgd : o.guard = none) (s1 x1 : Operand)
    (ho : o.op = .call { callee := .builtin .append, args := #[s1, x1], argTypes := #[25, 25] }) (hs : a.eval s1 = v) (hv : VK p W v Ks lo hi) (hh : hi ≤ lo') (hl : lo ≤ lo') (hr : RO p W lo' sg x y oo)
    (hx : a.eval x1 = .slice (some ⟨B, 0, none⟩) 1 1) (hB : W.heap[B]? = some (.cells #[.bool sg, x, y] 40 (0, 0))) (hlen : Ks.length ≤ 1048576) (hlw : lo ≤ W.heap.size)
    (h : ∀ (g cap : Nat) (w' : World), VK p w' (.slice (some ⟨g, 0, none⟩) (Ks.length + 1) cap) (Ks ++ [fqo oo]) lo w'.heap.size → Below lo W w' → (∀ {Bs : Nat} {u : Value} {L : List ByteArray}, Strs W 9 Bs u L → Strs w' 9 Bs u L) → wpList Tryz.prog ops Q rest (a.put o.dst (.slice (some ⟨g, 0, none⟩) (Ks.length + 1) cap)) w') :
    wpList Tryz.prog ops Q (o :: rest) a W := by
  obtain ⟨i0, hi0, hz0, hz1, hz2⟩ := info_parts infoRat
  obtain ⟨E, hE, hk⟩ := hv
  have hlk : E.length = Ks.length := by rw [← hk, keys_len]
  refine wpList_append_lies W hgd s1 x1 25 ho lo 40 i0 _ 3 56 Tryz.underlying25 hi0 hz0 hz1 hz2 rfl (by decide) v Ks.length (flat E) hs (hlk ▸ hE.row) ⟨B, 0, none⟩ 1 1 [.bool sg, x, y] hx rfl (World.news_of_block hB) ?_ (by decide) (by unfold maxLen; omega) (by omega) hlw W.heap.size rfl ?_
  · obtain ⟨a1, c1, rfl, -⟩ := Ints_form hr.i
    obtain ⟨a2, c2, rfl, -⟩ := Ints_form hr.j
    intro u hu
    simp only [List.mem_cons, List.not_mem_nil, or_false] at hu
    rcases hu with rfl | rfl | rfl <;> rfl
  · intro g cap w' hrow hgr _ hlt
    have hvk : VK p W v Ks lo hi := ⟨E, hE, hk⟩
    exact h g cap w' (hvk.snoc hr hh hl ⟨E, hE, hk, rfl⟩ hrow rfl hgr) ((Below.refl lo W).grown hgr hlw fun k hk => (hE.lt k hk).1)
      (fun hS => own_block hS fun k hk => hgr.block k (World.ownsRow.lt hS k hk).2 fun e => own_ne hE.row hS (by decide) k e.symm hk)
end
end Go.Proofs.YtmghoedjcokhpaaGreatDoor
