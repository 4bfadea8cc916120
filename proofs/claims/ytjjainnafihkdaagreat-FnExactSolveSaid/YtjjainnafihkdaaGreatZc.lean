import Derived.Test.YtjjainnafihkdaaGreatYb
import Derived.Test.YtjjainnafihkdaaGreatXd
import Derived.Lib.AppendZeros
import Derived.Deep.Slices
import Derived.Deep.Onto
import Derived.Deep.Upon
import Derived.Deep.RegionHeld3
import Derived.Deep.DeepCutAuto
set_option maxRecDepth 100000
set_option maxHeartbeats 12800000
set_option linter.unusedVariables false
namespace Go.Proofs.YtjjainnafihkdaaGreat
open Go.RowKit
open Go.Lib (hid)
theorem VW.els {w : World} {a : Option Addr} {n : Nat} {K : List Fq} {lo hi : Nat} (h : VW w a n K lo hi) : ∃ E : List El, keys E = K ∧ (∀ e ∈ E, ROw w e.v e.u e.q.A e.q.D lo hi) ∧ (0 < K.length → ∃ g o, a = some ⟨g, o, none⟩ ∧ g < w.heap.size ∧ ∀ j v, (flat E)[j]? = some v → w.cell? ⟨g, o + j, none⟩ = some v) := by
 by_cases h0 : K.length = 0
 ·have e0 : K = [] := List.eq_nil_of_length_eq_zero h0
  subst e0
  exact ⟨[], rfl, fun e he => (by cases he), fun h => absurd h (by simp)⟩
 ·obtain ⟨g, o, e, -, -, h3, hc⟩ := h.2 (by omega)
  have each : ∀ i, i < K.length → ∃ x : El, (∀ hi : i < K.length, x.q = K[i]) ∧ w.cell? ⟨g, o + i * 3, none⟩ = some (.bool x.q.s) ∧ w.cell? ⟨g, o + i * 3 + 1, none⟩ = some x.v ∧ w.cell? ⟨g, o + i * 3 + 2, none⟩ = some x.u ∧ ROw w x.v x.u x.q.A x.q.D lo hi := fun i hi' => by
   obtain ⟨x, y, q0, q1, q2, r⟩ := hc i hi'
   exact ⟨⟨K[i], x, y⟩, fun _ => rfl, q0, q1, q2, r⟩
  haveI : Inhabited El := ⟨El0⟩
  obtain ⟨q, hq⟩ := Go.Deep.choose_lt each
  have hl : ((List.range K.length).map q).length = K.length := by simp
  have hg : ∀ i (hi' : i < ((List.range K.length).map q).length), ((List.range K.length).map q)[i] = q i := fun i hi' => by simp
  refine ⟨(List.range K.length).map q, ?_, fun x hx => ?_, fun _ => ⟨g, o, e, h3, fun j v hj => ?_⟩⟩
  ·apply List.ext_getElem
   ·rw [keys_len, hl]
   ·intro i h1 h2
    rw [keys_at (by rw [hl]; exact h2), hg]
    exact (hq i h2).1 h2
  ·obtain ⟨i, hi', rfl⟩ := List.getElem_of_mem hx
   rw [hg]
   exact (hq i (by rw [hl] at hi'; exact hi')).2.2.2.2
  ·have hj' : j < (flat ((List.range K.length).map q)).length := (List.getElem?_eq_some_iff.1 hj).1
   rw [flat_len, hl] at hj'
   obtain ⟨i, hi'⟩ : ∃ i, i = j / 3 := ⟨_, rfl⟩
   have hiK : i < K.length := by omega
   obtain ⟨f0, f1, f2⟩ := flat_at ((List.range K.length).map q) i (by rw [hl]; exact hiK)
   rw [hg] at f0 f1 f2
   obtain ⟨-, c0, c1, c2, -⟩ := hq i hiK
   have hcase : j = i * 3 ∨ j = i * 3 + 1 ∨ j = i * 3 + 2 := by omega
   rcases hcase with e | e | e
   ·rw [e] at hj ⊢; rw [f0] at hj; cases hj; exact c0
   ·rw [e] at hj ⊢; rw [f1] at hj; cases hj; exact c1
   ·rw [e] at hj ⊢; rw [f2] at hj; cases hj; exact c2
theorem flat_one_cell {w : World} {lo hi : Nat} {E : List El} (h : ∀ e ∈ E, ROw w e.v e.u e.q.A e.q.D lo hi) : ∀ u ∈ flat E, u.oneCell' = true := by
 intro u hu
 obtain ⟨x, hx, hu⟩ := List.mem_flatMap.1 hu
 obtain ⟨a3, c3, b3, d3, e1, e2⟩ := (h x hx).form
 simp only [El.cs, e1, e2, List.mem_cons, List.not_mem_nil, or_false] at hu
 rcases hu with rfl | rfl | rfl <;> rfl
section
variable {ops : Array Oper} {o : Oper} {a : Act} {W : World} {v x : Value} {K : List Fq} {lo lo' hi cnt n c B : Nat} {b : Option Addr} {xs : List Value}
theorem wpList_appW {rest : List Oper} {Q : Exit → Act → World → Prop} (hgd : o.guard = none) (s1 x1 : Operand)
  (ho : o.op = .call { callee := .builtin .append, args := #[s1, x1], argTypes := #[42, 42] }) (hs : a.eval s1 = v) (hv : W.ownsRow lo 62 3 v cnt xs) (hx : a.eval x1 = .slice b n c) (hT : VW W b n K lo' hi)
  (hc : cnt ≤ 2097152) (hE : K.length ≤ 1048576) (hlw : lo ≤ W.heap.size)
  (h : ∀ (v' : Value) (w' : World) (E : List El), keys E = K → (∀ e ∈ E, ROw W e.v e.u e.q.A e.q.D lo' hi) → w'.ownsRow lo 62 3 v' (cnt + K.length) (xs ++ flat E) → Below lo W w' → W.grownBy w' v.ownBlock → (v.ownBlock = v'.ownBlock ∨ v'.ownBlock = some W.heap.size) → wpList Tryz.prog ops Q rest (a.put o.dst v') w') :
  wpList Tryz.prog ops Q (o :: rest) a W := by
 obtain ⟨i0, hi0, hz0, hz1, hz2⟩ := info_parts infoRat
 obtain rfl := hT.num
 obtain ⟨E, hk, hro, hpos⟩ := hT.els
 have hEl : E.length = K.length := by rw [← hk, keys_len]
 by_cases h0 : K.length = 0
 ·have e0 : E = [] := List.eq_nil_of_length_eq_zero (by omega)
  have hS : Src Tryz.prog i0.size 42 (.slice b K.length c) 0 [] W := by
   rw [h0]
   cases b with
   | none => exact Src.ofNil (w := W) Tryz.underlying42 c
   | some ad => exact Src.ofSlice W Tryz.underlying42 ad 0 c [] (by simp) (fun j u hj => by simp at hj) (fun u hu => by cases hu)
  have hvs : ∃ base cap, v = .slice base cnt cap ∧ cnt ≤ cap := by
   rcases hv.2 with ⟨rfl, rfl⟩ | ⟨g, cap, cur, rfl, -, -, hle, -⟩
   ·exact ⟨_, _, rfl, Nat.le_refl _⟩
   ·exact ⟨_, _, rfl, hle⟩
  obtain ⟨base, cap, rfl, hle⟩ := hvs
  have hr := run_append_nothing (P := Tryz.prog) W 42 42 o.type 62 i0 Tryz.underlying42 hi0 base cnt cap hle (.slice b K.length c) hS
  exact Go.Lib.wpList_append_run W hgd s1 x1 42 42 ho _ _ hs hx _ _ hr (h _ _ E hk hro (by rw [e0, h0]; simpa [flat] using hv) (Below.refl _ _) ⟨rfl, rfl, rfl, Nat.le_refl _, fun k _ _ => rfl⟩ (.inl rfl))
 ·obtain ⟨g, p, rfl, hg, hcell⟩ := hpos (by omega)
  refine wpList_append_lies W hgd s1 x1 42 ho lo 62 i0 _ 3 56 Tryz.underlying42 hi0 hz0 hz1 hz2 rfl (by decide) v cnt xs hs hv ⟨g, p, none⟩ K.length c (flat E) hx (by rw [flat_len, hEl]) (fun j z hj => by rw [Go.WideShapes.add_plain]; exact hcell j z hj) (flat_one_cell hro) (by omega) (by unfold maxLen; omega) (by omega) hlw W.heap.size rfl ?_
  intro g' cap' w' hrow' hgr hat hlt
  exact h _ w' E hk hro hrow' ((Below.refl lo W).grown hgr hlw fun k hk => (hv.lt k hk).1) hgr (hat.elim (fun e => .inl e) (fun e => .inr (by rw [e]; rfl)))
theorem wpList_pushH {rest : List Oper} {Q : Exit → Act → World → Prop} (hgd : o.guard = none) (s1 x1 : Operand)
  (ho : o.op = .call { callee := .builtin .append, args := #[s1, x1], argTypes := #[24, 24] }) (hs : a.eval s1 = v) (hv : W.ownsRow lo 42 1 v cnt xs)
  (hx : a.eval x1 = .slice (some ⟨B, 0, none⟩) 1 1) (hB : W.heap[B]? = some (.cells #[x] 42 (0, 0))) (hone : x.oneCell' = true) (hlen : cnt ≤ 1048576) (hlw : lo ≤ W.heap.size) {m : Nat} (hm : m = cnt + 1)
  (h : ∀ (g cap : Nat) (w' : World), w'.ownsRow lo 42 1 (.slice (some ⟨g, 0, none⟩) m cap) m (xs ++ [x]) → Below lo W w' → W.grownBy w' v.ownBlock → wpList Tryz.prog ops Q rest (a.put o.dst (.slice (some ⟨g, 0, none⟩) m cap)) w') :
  wpList Tryz.prog ops Q (o :: rest) a W := by
 obtain ⟨i0, hi0, hz0, hz1, hz2⟩ := info_parts infoRow
 subst hm
 refine wpList_append_lies W hgd s1 x1 24 ho lo 42 i0 _ 1 24 Tryz.underlying24 hi0 hz0 hz1 hz2 rfl (by decide) v cnt xs hs hv ⟨B, 0, none⟩ 1 1 [x] hx rfl (World.news_of_block hB) ?_ (by decide) (by unfold maxLen; omega) (by omega) hlw W.heap.size rfl ?_
 ·intro u hu
  rw [List.mem_singleton.1 hu]; exact hone
 ·intro g cap w' hrow hgr _ _
  exact h g cap w' hrow ((Below.refl lo W).grown hgr hlw fun k hk => (hv.lt k hk).1) hgr
end
def JR (w : World) (v : Value) (M : List (List Fq)) (lo : Nat) : Prop := ∃ xs : List Value, w.ownsRow lo 42 1 v M.length xs ∧ xs.length = M.length ∧ ∀ k (hk : k < M.length), ∃ x, xs[k]? = some x ∧ VK false w x M[k] 0 w.heap.size
theorem VK.top {p : Bool} {w : World} {v : Value} {K : List Fq} {lo hi : Nat} (h : VK p w v K lo hi) : VK false w v K 0 w.heap.size := by
 obtain ⟨E, h, e⟩ := h
 exact ⟨E, ⟨own_base h.row (Nat.zero_le _), fun k hk => (h.lt k hk).2, fun x hx => ⟨⟨Ints_base (h.el x hx).a.ints (Nat.zero_le _), fun k hk => (Ints_lt (h.el x hx).a.ints k hk).2⟩, ⟨Ints_base (h.el x hx).d.ints (Nat.zero_le _), fun k hk => (Ints_lt (h.el x hx).d.ints k hk).2⟩⟩, fun h => (by cases h), fun h => (by cases h)⟩, e⟩
theorem VK.grownH {p : Bool} {w w' : World} {v vr : Value} {K : List Fq} {lo hi B n : Nat} {xs : List Value} (h : VK p w v K lo hi) (hr : w.ownsRow B 42 1 vr n xs) (hg : w.grownBy w' vr.ownBlock) : VK p w' v K lo hi := by
 obtain ⟨E, h, e⟩ := h
 exact ⟨E, h.grown hr hg, e⟩
theorem JR_nil (w : World) (lo : Nat) : JR w (.slice none 0 0) [] lo := ⟨[], World.ownsRow_nil _ _ _ _, rfl, fun k hk => by simp at hk⟩
theorem JR_lit0 {w : World} {lo : Nat} (hl : lo ≤ w.heap.size) : JR (w.alloc (.cells #[] 42)) (.slice (some ⟨w.heap.size, 0, none⟩) 0 0) [] lo :=
 ⟨[], ⟨rfl, .inr ⟨w.heap.size, 0, #[], rfl, hl, heap_alloc_new w _, Nat.le_refl _, Nat.zero_le _, rfl, rfl⟩⟩, rfl, fun k hk => by simp at hk⟩
theorem JR.old {w w' : World} {v : Value} {M : List (List Fq)} {lo : Nat} (h : JR w v M lo) (hb : Below w.heap.size w w') : JR w' v M lo := by
 obtain ⟨xs, h1, h2, h3⟩ := h
 refine ⟨xs, own_block h1 fun k hk => hb.block k (h1.lt k hk).2, h2, fun k hk => ?_⟩
 obtain ⟨x, e, hv⟩ := h3 k hk
 exact ⟨x, e, (hv.old hb).top⟩
theorem JR.form {w : World} {v : Value} {M : List (List Fq)} {lo : Nat} (h : JR w v M lo) : ∃ a c, v = .slice a M.length c := by
 obtain ⟨xs, h1, -, -⟩ := h
 rcases h1.2 with ⟨h1, h2⟩ | ⟨g, cap, cur, h1, -⟩
 ·exact ⟨_, _, by rw [h1, h2]⟩
 ·exact ⟨_, _, h1⟩
theorem JR.mw {w : World} {a : Option Addr} {n c : Nat} {M : List (List Fq)} {lo : Nat} (h : JR w (.slice a n c) M lo) : MW w a n M 0 w.heap.size := by
 obtain ⟨a', c', e⟩ := h.form
 simp only [Value.slice.injEq] at e
 obtain ⟨rfl, rfl, rfl⟩ := e
 obtain ⟨xs, h1, h2, h3⟩ := h
 refine ⟨rfl, fun h0 => ?_⟩
 rcases h1.2 with ⟨e, h4⟩ | ⟨g, cap, cur, e, h5, h6, -⟩
 ·omega
 ·simp only [Value.slice.injEq] at e
  obtain ⟨rfl, -, rfl⟩ := e
  refine ⟨g, 0, rfl, Nat.zero_le _, (h1.lt g rfl).2, (h1.lt g rfl).2, fun i hi => ?_⟩
  obtain ⟨x, ex, hv⟩ := h3 i hi
  obtain ⟨b, d, rfl⟩ := hv.form
  have hc := h1.cells (g := g) rfl i _ ex
  rw [Go.WideShapes.add_plain] at hc
  exact ⟨b, d, hc, hv.vw⟩
theorem JR.snoc {w w' : World} {v v' x : Value} {M : List (List Fq)} {K : List Fq} {lo l h' B n : Nat} {p : Bool} {xs ys : List Value} (h : ∀ k (hk : k < M.length), ∃ x, xs[k]? = some x ∧ VK false w x M[k] 0 w.heap.size) (hr : w.ownsRow B 42 1 v n ys) (hx : VK p w x K l h') (hl : xs.length = M.length) (hg : w.grownBy w' v.ownBlock) {m : Nat} (hm : m = M.length + 1) (hrow : w'.ownsRow lo 42 1 v' m (xs ++ [x])) : JR w' v' (M ++ [K]) lo := by
 subst hm
 refine ⟨xs ++ [x], by simpa using hrow, by simp [hl], fun k hk => ?_⟩
 rw [List.length_append, List.length_singleton] at hk
 rcases Nat.lt_or_eq_of_le (Nat.le_of_lt_succ hk) with hk | rfl
 ·obtain ⟨y, e, hv⟩ := h k hk
  exact ⟨y, by rw [List.getElem?_append_left (by omega)]; exact e, by rw [List.getElem_append_left hk]; exact (hv.grownH hr hg).top⟩
 ·refine ⟨x, by rw [← hl]; simp, ?_⟩
  simp only [List.getElem_append_right (Nat.le_refl _), Nat.sub_self, ka5]
  exact (hx.grownH hr hg).top
theorem growR_nil {n : Nat} (hn : n ≤ 2097152) (w : World) : Calls Tryz.prog 215 #[.slice none 0 0, .int .i64 n] w fun e w' => ∃ v, e = .returned v ∧ w'.ownsRow w.heap.size 62 3 v 0 [] ∧ Below w.heap.size w w' := by
 by_cases h0 : n = 0
 ·subst h0
  go_enter Tryz.func215, Tryz.ntmps215
  go_wp2
  go_ret
  exact ⟨_, rfl, World.ownsRow_nil _ _ _ _, Below.refl _ _⟩
 ·obtain ⟨i0, hi0, hz0, hz1, hz2⟩ := info_parts infoRat
  have happ := Go.Lib.run_append_nil_zeros (P := Tryz.prog) w 42 3 42 62 i0 _ .i64 .i64 Tryz.underlying42 Tryz.underlying3 hi0 hz0 n (by omega) (by omega) (by omega) (by rw [hz2]; omega)
  have hcapge : n ≤ grownCap w n 0 62 := grownCap_ge w _ 0 _
  have hcaple : grownCap w n 0 62 ≤ maxLen := grownCap_le_maxLen w _ 0 _ (by unfold maxLen; omega)
  generalize grownCap w n 0 62 = cap2 at happ hcapge hcaple
  generalize hZ : (Builtin.zeroCells _ n ++ Builtin.zeroCells _ (cap2 - n)) = Z at happ
  have hZs : Z.size = cap2 * 3 := by rw [← hZ]; simp [size_zeroCells, Value.cells]; omega
  have hown := hid (World.ownsRow_made (e := 62) (size := 3) (base := w.heap.size) w.drew Z cap2 (Nat.le_refl _) hcaple hZs)
  have hbel := hid (show Below w.heap.size w (w.drew.alloc (.cells Z 62)) from (Below_drew1 (Below.refl _ w)).trans (show Below w.heap.size w.drew (w.drew.alloc _) from below_new' (w := w.drew)))
  have h1 : ¬ (n : Int) < 0 := by omega
  have h2 : (0 : Int) < n := by omega
  have h3 : wrap64 ((n : Int)) = n := by unfold wrap64; omega
  clear hZ hZs hcapge hcaple hz0 hz1 hz2 hi0
  go_enter Tryz.func215, Tryz.ntmps215
  go_wp2_with (at_builtin; refine Go.Lib.wpList_append_run _ rfl _ _ _ _ rfl _ _ rfl rfl _ _ happ ?_)
  go_wp2
  go_ret
  exact ⟨_, rfl, hown.out, hbel.out⟩
def cntR (n m j : Nat) : Nat := if j = 0 then 0 else if j = 1 then n else n + m
theorem concatR {a : Option Addr} {n c : Nat} {b : Option Addr} {m d : Nat} {K M : List Fq} {lo hi lo' hi' B : Nat} (hn : n ≤ 1048576) (hm : m ≤ 1048576) (w : World) (hB : w.heap[B]? = some (.cells #[.slice a n c, .slice b m d] 42 (0, 0))) (h : VW w a n K lo hi) (h' : VW w b m M lo' hi') :
  Calls Tryz.prog 180 #[.slice (some ⟨B, 0, none⟩) 2 2] w fun e w' => ∃ x l y, e = .returned (.slice x l y) ∧ VK false w' (.slice x l y) (K ++ M) 0 w'.heap.size ∧ Below w.heap.size w w' := by
 have hLB : LocA 42 w B #[.slice a n c, .slice b m d] := hB
 have HL := hid hLB
 have HE := hid h
 have HF := hid h'
 obtain rfl := h.num
 obtain rfl := h'.num
 clear h h' hLB hB
 have kg := growR_nil (n := K.length + M.length) (by omega) w
 rw [Int.natCast_add] at kg
 have KG := hid kg
 clear kg
 have p0 := HL.out.c 0 (v := .slice a K.length c) rfl
 have p1 := HL.out.c 1 (v := .slice b M.length d) rfl
 have s1 : ¬ (K.length : Int) < 0 := by omega
 have s2 : ¬ (K.length : Int) + (M.length : Int) < 0 := by omega
 have s3 : wrap64 ((K.length : Int)) = K.length := by unfold wrap64; omega
 have s4 : wrap64 ((K.length : Int) + (M.length : Int)) = (K.length : Int) + (M.length : Int) := by unfold wrap64; omega
 go_enter Tryz.func180, Tryz.ntmps180
 go_wp2
 go_loopw [3, 11] (fun s i wr => ∃ (j : Nat), j ≤ 2 ∧ i = .int .i64 j ∧ s = .int .i64 (cntR K.length M.length j) ∧ w = wr) (fun _ i _ => 2 - (intOf i).toNat)
 case atStart => exact ⟨0, by omega, rfl, rfl, rfl⟩
 case round =>
  obtain ⟨j, hj, rfl, rfl, rfl⟩ := hrel
  obtain rfl | rfl | rfl : j = 0 ∨ j = 1 ∨ j = 2 := by omega
  ·have e0 : ((cntR K.length M.length 0 : Nat) : Int) = 0 := rfl
   rw [e0]
   go_wp2
   go_roundw
   case rel => exact ⟨1, by omega, by go_num, by simp [cntR], (by first | rfl | trivial)⟩
   case measure => simp [intOf]
  ·have e0 : ((cntR K.length M.length 1 : Nat) : Int) = K.length := rfl
   rw [e0]
   go_wp2
   go_roundw
   case rel => exact ⟨2, by omega, by go_num, by simp [cntR], (by first | rfl | trivial)⟩
   case measure => simp [intOf]
  ·have e0 : ((cntR K.length M.length 2 : Nat) : Int) = ((K.length + M.length : Nat) : Int) := rfl
   rw [e0]
   go_wp2_with fail
   (with_reducible refine (KG.out).mono ?_)
   rintro e w1 ⟨v1, rfl, hr, hb⟩
   have HR := hid hr
   have HB := hid hb
   clear hr hb
   go_wp2
   go_loopw [6, 27] (fun v i wr => ∃ (j : Nat) (vv : Value) (E : List El), j ≤ 2 ∧ i = .int .i64 j ∧ vv = v ∧ Hid (keys E = if j = 0 then [] else if j = 1 then K else K ++ M) ∧ Hid (∀ e ∈ E, ROw wr e.v e.u e.q.A e.q.D 0 wr.heap.size) ∧ Hid (wr.ownsRow w.heap.size 62 3 vv (cntR K.length M.length j) (flat E)) ∧ Hid (Below w.heap.size w wr)) (fun _ i _ => 2 - (intOf i).toNat)
   case atStart => exact ⟨0, v1, [], by omega, rfl, rfl, hid rfl, hid (fun e he => (by cases he)), HR, HB⟩
   case round =>
    obtain ⟨j, v, E, hj, rfl, rfl, hk, hro, hR, hB⟩ := hrel
    have hz := hB.out.size
    have hL := hid (HL.out.old hB.out)
    have p0 := hL.out.c 0 (v := .slice a K.length c) rfl
    have p1 := hL.out.c 1 (v := .slice b M.length d) rfl
    have KEEP := hid (fun (w' : World) (e : El) (l1 h1 : Nat) (hr : ROw wr e.v e.u e.q.A e.q.D l1 h1) (hg : wr.grownBy w' v.ownBlock) => show ROw w' e.v e.u e.q.A e.q.D 0 w'.heap.size from by
     have ob : ∀ {y : Value} {L : List Int}, Obj wr y L l1 h1 → Obj w' y L 0 w'.heap.size := fun {y L} ho =>
      have hi := Ints_block ho.ints fun k hk => hg.block k (Ints_lt ho.ints k hk).2 fun e => own_ne hR.out ho.ints (by decide) k e.symm hk
      ⟨Ints_base hi (Nat.zero_le _), fun k hk => (Ints_lt hi k hk).2⟩
     exact ⟨ob hr.a, ob hr.d⟩)
    obtain rfl | rfl | rfl : j = 0 ∨ j = 1 ∨ j = 2 := by omega
    ·have hT := hid (HE.out.old hB.out)
     go_wp2_with (first | (at_builtin; refine wpList_appW rfl _ _ rfl rfl hR.out rfl hT.out (by simp [cntR]) (by omega) hz ?_))
     intro v' w' E' hk' hro' hr hb hg hat
     have HRR := hid hr
     have HBB := hid (hB.out.trans hb)
     have HRO := hid (show ∀ e ∈ E ++ E', ROw w' e.v e.u e.q.A e.q.D 0 w'.heap.size from fun e he => (List.mem_append.1 he).elim (fun h => KEEP.out _ _ _ _ (hro.out e h) hg) (fun h => KEEP.out _ _ _ _ (hro' e h) hg))
     have HKK := hid (show keys (E ++ E') = K by rw [keys_append, hk.out, hk']; rfl)
     clear hr hb hg hat hro' hk'
     go_wp2
     go_roundw
     case rel => exact ⟨1, v', E ++ E', by omega, by go_num, rfl, hid (by rw [HKK.out]; rfl), HRO, hid (by have := HRR.out; simpa [cntR, flat_append] using this), HBB⟩
     case measure => simp [intOf]
    ·have hT := hid (HF.out.old hB.out)
     go_wp2_with (first | (at_builtin; refine wpList_appW rfl _ _ rfl rfl hR.out rfl hT.out (by simp [cntR]; omega) (by omega) hz ?_))
     intro v' w' E' hk' hro' hr hb hg hat
     have HRR := hid hr
     have HBB := hid (hB.out.trans hb)
     have HRO := hid (show ∀ e ∈ E ++ E', ROw w' e.v e.u e.q.A e.q.D 0 w'.heap.size from fun e he => (List.mem_append.1 he).elim (fun h => KEEP.out _ _ _ _ (hro.out e h) hg) (fun h => KEEP.out _ _ _ _ (hro' e h) hg))
     have HKK := hid (show keys (E ++ E') = K ++ M by rw [keys_append, hk.out, hk']; rfl)
     clear hr hb hg hat hro' hk'
     go_wp2
     go_roundw
     case rel => exact ⟨2, v', E ++ E', by omega, by go_num, rfl, hid (by rw [HKK.out]; rfl), HRO, hid (by have := HRR.out; simpa [cntR, flat_append] using this), HBB⟩
     case measure => simp [intOf]
    ·have hk2 : keys E = K ++ M := hk.out
     have hl : E.length = K.length + M.length := by rw [← keys_len, hk2, List.length_append]
     have hR' := hR.out
     have e1 : cntR K.length M.length 2 = E.length := by rw [hl]; rfl
     rw [e1] at hR'
     have HK : VK false wr v (K ++ M) 0 wr.heap.size := ⟨E, ⟨own_base hR' (Nat.zero_le _), fun k hk => (hR'.lt k hk).2, hro.out, fun h => (by cases h), fun h => (by cases h)⟩, hk2⟩
     obtain ⟨x, y, rfl⟩ := HK.form
     have HKK := hid HK
     clear hR' e1 HK hk2 hl
     go_wp2
     go_ret
     exact ⟨_, _, _, rfl, HKK.out, hB.out⟩
end Go.Proofs.YtjjainnafihkdaaGreat
