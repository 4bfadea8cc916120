/- Slices of slices of fractions' structs: what they hold and how they lie. -/
import Derived.Test.YteanocjkdehhgaaVbe
namespace Go.Proofs.Yteanocjkdehhgaa
open Go.RowKit
open Go.Lib (hid)
set_option linter.unusedVariables false

/-- How many places the rows have. -/
def szM : List (List Fq) → Nat
  | [] => 0
  | K :: M => szK K + szM M
theorem szM_append : ∀ M L : List (List Fq), szM (M ++ L) = szM M + szM L
  | [], L => by simp [szM]
  | K :: M, L => by simp only [List.cons_append, szM, szM_append M L]; omega
theorem szM_take {M : List (List Fq)} {k : Nat} (h : k < M.length) : szM (M.take (k + 1)) = szM (M.take k) + szK M[k] := by
  rw [List.take_succ_eq_append_getElem h, szM_append]; simp [szM]
theorem szM_le (M : List (List Fq)) (k : Nat) : szM (M.take k) ≤ szM M := by
  have := szM_append (M.take k) (M.drop k)
  rw [List.take_append_drop] at this
  omega
theorem szM_at {M : List (List Fq)} {k : Nat} (h : k < M.length) : szM (M.take k) + szK M[k] ≤ szM M := by
  have := szM_take h
  have := szM_le M (k + 1)
  omega
theorem szM_mem {M : List (List Fq)} {K : List Fq} (h : K ∈ M) : szK K ≤ szM M := by
  obtain ⟨k, hk, rfl⟩ := List.getElem_of_mem h
  have := szM_at hk
  omega
def Sm2 (M : List (List Fq)) : Prop := (∀ K ∈ M, Sm K) ∧ M.length ≤ 1048576
theorem Sm2.of {M : List (List Fq)} (h : M.length + szM M ≤ 1048576) : Sm2 M :=
  ⟨fun K hK => Sm.of (by have := szM_mem hK; omega), by omega⟩
theorem Sm2.at {M : List (List Fq)} (h : Sm2 M) {k : Nat} (hk : k < M.length) : Sm M[k] := h.1 _ (List.getElem_mem hk)
def mkM : List (List Fq) → Int → List (List Fq)
  | [], _ => []
  | K :: M, m => mkK K m :: mkM M (m + (szK K : Int))
theorem mkM_len : ∀ (M : List (List Fq)) (m : Int), (mkM M m).length = M.length
  | [], _ => rfl
  | K :: M, m => by simp [mkM, mkM_len M]
theorem mkM_at : ∀ (M : List (List Fq)) (m : Int) (k : Nat) (h : k < M.length), (mkM M m)[k]'(by rw [mkM_len]; exact h) = mkK M[k] (m + (szM (M.take k) : Int))
  | K :: M, m, 0, _ => by simp [mkM, szM]
  | K :: M, m, k + 1, h => by
    have := mkM_at M (m + (szK K : Int)) k (by simpa using h)
    simp only [mkM, List.getElem_cons_succ, this, List.take_succ_cons, szM]
    congr 1
    omega
/-- A slice of slices that came in. -/
def MCame (w : World) (h : Nat) (a : Option Addr) (n : Nat) (M : List (List Fq)) : Prop :=
  n = M.length ∧ (0 < M.length → ∃ g o, a = some ⟨g, o, none⟩ ∧ g < h ∧ g < w.heap.size ∧ ∀ i (hi : i < M.length), ∃ b c, w.cell? ⟨g, o + i, none⟩ = some (.slice b M[i].length c) ∧ VCame w h b M[i].length M[i])
theorem MCame.old {w w' : World} {h n : Nat} {a : Option Addr} {M : List (List Fq)} (c : MCame w h a n M) (hb : Below w.heap.size w w') : MCame w' h a n M :=
  ⟨c.1, fun h0 => by
    obtain ⟨g, o, e, hh, hg, hc⟩ := c.2 h0
    exact ⟨g, o, e, hh, Nat.lt_of_lt_of_le hg hb.size, fun i hi => by
      obtain ⟨b, d, q, v⟩ := hc i hi
      exact ⟨b, d, (hb.cell (p := ⟨g, o + i, none⟩) hg).trans q, v.old hb⟩⟩⟩
theorem MCame.onlyG {w w' : World} {h n lo hi : Nat} {a : Option Addr} {M : List (List Fq)} (c : MCame w h a n M) (hb : Only (InG lo hi w.heap.size) w w') (hlo : h ≤ lo) : MCame w' h a n M :=
  ⟨c.1, fun h0 => by
    obtain ⟨g, o, e, hh, hg, hc⟩ := c.2 h0
    have hn : ¬ InG lo hi w.heap.size g := fun hs => by have := InG_cases hs; omega
    exact ⟨g, o, e, hh, Nat.lt_of_lt_of_le hg hb.size, fun i hi => by
      obtain ⟨b, d, q, v⟩ := hc i hi
      exact ⟨b, d, (hb.cell (p := ⟨g, o + i, none⟩) hn).trans q, v.onlyG hb hlo⟩⟩⟩
/-- A slice of slices, for those that only read it. -/
def MW (w : World) (a : Option Addr) (n : Nat) (M : List (List Fq)) (lo hi : Nat) : Prop :=
  n = M.length ∧ (0 < M.length → ∃ g o, a = some ⟨g, o, none⟩ ∧ lo ≤ g ∧ g < hi ∧ g < w.heap.size ∧ ∀ i (hi' : i < M.length), ∃ b c, w.cell? ⟨g, o + i, none⟩ = some (.slice b M[i].length c) ∧ VW w b M[i].length M[i] lo hi)
theorem MW.old {w w' : World} {a : Option Addr} {n : Nat} {M : List (List Fq)} {lo hi : Nat} (h : MW w a n M lo hi) (hb : Below w.heap.size w w') : MW w' a n M lo hi :=
  ⟨h.1, fun h0 => by
    obtain ⟨g, o, e, h1, h2, h3, hc⟩ := h.2 h0
    exact ⟨g, o, e, h1, h2, Nat.lt_of_lt_of_le h3 hb.size, fun i hi' => by
      obtain ⟨b, d, q, v⟩ := hc i hi'
      exact ⟨b, d, (hb.cell (p := ⟨g, o + i, none⟩) h3).trans q, v.old hb⟩⟩⟩
theorem MW.onlyG {w w' : World} {a : Option Addr} {n : Nat} {M : List (List Fq)} {lo hi x y : Nat} (h : MW w a n M lo hi) (hb : Only (InG x y w.heap.size) w w') (hd : hi ≤ x ∨ y ≤ lo) : MW w' a n M lo hi :=
  ⟨h.1, fun h0 => by
    obtain ⟨g, o, e, h1, h2, h3, hc⟩ := h.2 h0
    have hn : ¬ InG x y w.heap.size g := fun hs => by have := InG_cases hs; omega
    exact ⟨g, o, e, h1, h2, Nat.lt_of_lt_of_le h3 hb.size, fun i hi' => by
      obtain ⟨b, d, q, v⟩ := hc i hi'
      exact ⟨b, d, (hb.cell (p := ⟨g, o + i, none⟩) hn).trans q, v.onlyG hb hd⟩⟩⟩
theorem MW.wide {w : World} {a : Option Addr} {n : Nat} {M : List (List Fq)} {lo hi lo' hi' : Nat} (h : MW w a n M lo hi) (h1 : lo' ≤ lo) (h2 : hi ≤ hi') : MW w a n M lo' hi' :=
  ⟨h.1, fun h0 => by
    obtain ⟨g, o, e, k1, k2, k3, hc⟩ := h.2 h0
    exact ⟨g, o, e, Nat.le_trans h1 k1, Nat.lt_of_lt_of_le k2 h2, k3, fun i hi' => by
      obtain ⟨b, d, q, v⟩ := hc i hi'
      exact ⟨b, d, q, v.wide h1 h2⟩⟩⟩
theorem MW.num {w : World} {a : Option Addr} {n : Nat} {M : List (List Fq)} {lo hi : Nat} (h : MW w a n M lo hi) : n = M.length := h.1
theorem MW.at {w : World} {a : Option Addr} {n : Nat} {M : List (List Fq)} {lo hi : Nat} (h : MW w a n M lo hi) {k : Nat} (hlt : k < M.length) :
    ∃ g o b c, a = some ⟨g, o, none⟩ ∧ g < w.heap.size ∧ w.cell? ⟨g, o + k, none⟩ = some (.slice b M[k].length c) ∧ VW w b M[k].length M[k] lo hi := by
  obtain ⟨g, o, e, -, -, h3, hc⟩ := h.2 (by omega)
  obtain ⟨b, d, q, v⟩ := hc k hlt
  exact ⟨g, o, b, d, e, h3, q, v⟩
theorem MW_nil (w : World) (a : Option Addr) (lo hi : Nat) : MW w a 0 [] lo hi := ⟨rfl, fun h => absurd h (by simp)⟩
/-- What is unchanged between lo and hi keeps a slice of structs that lies there. -/
theorem VK.block {p : Bool} {w w' : World} {v : Value} {K : List Fq} {lo hi : Nat} (h : VK p w v K lo hi) (hb : ∀ k, lo ≤ k → k < hi → k < w.heap.size → w'.heap[k]? = w.heap[k]?) : VK p w' v K lo hi := by
  obtain ⟨E, h, e⟩ := h
  have ob : ∀ {y : Value} {L : List Int}, Obj w y L lo hi → Obj w' y L lo hi := fun {y L} ho =>
    ⟨Ints_block ho.ints fun k hk => hb k (Ints_lt ho.ints k hk).1 (ho.high k hk) (Ints_lt ho.ints k hk).2, ho.high⟩
  exact ⟨E, ⟨own_block h.row fun k hk => hb k (h.lt k hk).1 (h.high k hk) (h.lt k hk).2, h.high, fun x hx => ⟨ob (h.el x hx).a, ob (h.el x hx).d⟩, h.nd, h.ap⟩, e⟩
/-- A row: its slice, what it holds, and where it lies. -/
structure Rw where
  v : Value
  K : List Fq
  lo : Nat
  hi : Nat
/-- A slice of one's own whose rows are slices of one's own, each between heights of its own. -/
structure MR (p : Bool) (w : World) (v : Value) (R : List Rw) (lo hi : Nat) : Prop where
  row : w.ownsRow lo 105 1 v R.length (R.map Rw.v)
  high : ∀ k, v.ownBlock = some k → k < hi
  el : ∀ r ∈ R, VK p w r.v r.K r.lo r.hi ∧ lo ≤ r.lo ∧ r.lo ≤ r.hi ∧ r.hi ≤ hi
  ap : R.Pairwise fun r r' => r.hi ≤ r'.lo
  out : ∀ k, v.ownBlock = some k → ∀ r ∈ R, k < r.lo ∨ r.hi ≤ k
theorem MR.lt {p : Bool} {w : World} {v : Value} {R : List Rw} {lo hi : Nat} (h : MR p w v R lo hi) : ∀ k, v.ownBlock = some k → lo ≤ k ∧ k < w.heap.size := h.row.lt
theorem MR.old {p : Bool} {w w' : World} {v : Value} {R : List Rw} {lo hi : Nat} (h : MR p w v R lo hi) (hb : Below w.heap.size w w') : MR p w' v R lo hi :=
  ⟨own_block h.row fun k hk => hb.block k (h.lt k hk).2, h.high, fun r hr => ⟨(h.el r hr).1.old hb, (h.el r hr).2⟩, h.ap, h.out⟩
theorem MR.onlyG {p : Bool} {w w' : World} {v : Value} {R : List Rw} {lo hi a b : Nat} (h : MR p w v R lo hi) (hb : Only (InG a b w.heap.size) w w') (hd : hi ≤ a ∨ b ≤ lo) : MR p w' v R lo hi :=
  ⟨own_block h.row fun k hk => hb.block k fun hs => by have := InG_cases hs; have := h.high k hk; have := h.lt k hk; omega, h.high,
    fun r hr => ⟨(h.el r hr).1.onlyG hb (by have := (h.el r hr).2; omega), (h.el r hr).2⟩, h.ap, h.out⟩
theorem MR.wide {p : Bool} {w : World} {v : Value} {R : List Rw} {lo hi lo' hi' : Nat} (h : MR p w v R lo hi) (h1 : lo' ≤ lo) (h2 : hi ≤ hi') : MR p w v R lo' hi' :=
  ⟨own_base h.row h1, fun k hk => Nat.lt_of_lt_of_le (h.high k hk) h2, fun r hr => by have := h.el r hr; exact ⟨this.1, by omega, this.2.2.1, by omega⟩, h.ap, h.out⟩
theorem MR.cases {p : Bool} {w : World} {v : Value} {R : List Rw} {lo hi : Nat} (h : MR p w v R lo hi) :
    (v = .slice none 0 0 ∧ R = []) ∨ ∃ g cap, v = .slice (some ⟨g, 0, none⟩) R.length cap ∧ lo ≤ g ∧ g < hi ∧ g < w.heap.size ∧ R.length ≤ cap := by
  rcases h.row.2 with ⟨h1, h2⟩ | ⟨g, cap, cur, h1, h2, h3, h4, -⟩
  · exact .inl ⟨h1, List.eq_nil_of_length_eq_zero h2⟩
  · exact .inr ⟨g, cap, h1, h2, h.high g (by rw [h1]; rfl), (Array.getElem?_eq_some_iff.1 h3).1, h4⟩
theorem MR.form {p : Bool} {w : World} {v : Value} {R : List Rw} {lo hi : Nat} (h : MR p w v R lo hi) : ∃ a c, v = .slice a R.length c ∧ R.length ≤ c := by
  rcases h.cases with ⟨rfl, rfl⟩ | ⟨g, cap, rfl, -, -, -, h4⟩
  · exact ⟨none, 0, rfl, Nat.le_refl _⟩
  · exact ⟨_, cap, rfl, h4⟩
theorem MR.num {p : Bool} {w : World} {a : Option Addr} {n c : Nat} {R : List Rw} {lo hi : Nat} (h : MR p w (.slice a n c) R lo hi) : n = R.length := by
  rcases h.cases with ⟨h1, rfl⟩ | ⟨g, cap, h1, -⟩ <;> simp only [Value.slice.injEq] at h1
  · exact h1.2.1
  · exact h1.2.1
theorem MR.at {p : Bool} {w : World} {a : Option Addr} {n c : Nat} {R : List Rw} {lo hi : Nat} (h : MR p w (.slice a n c) R lo hi) {k : Nat} (hlt : k < R.length) :
    ∃ g b c', a = some ⟨g, 0, none⟩ ∧ lo ≤ g ∧ g < hi ∧ g < w.heap.size ∧ w.cell? ⟨g, k, none⟩ = some (.slice b R[k].K.length c') ∧ R[k].v = .slice b R[k].K.length c' ∧ VK p w (.slice b R[k].K.length c') R[k].K R[k].lo R[k].hi := by
  rcases h.cases with ⟨-, rfl⟩ | ⟨g, cap, h1, h2, h3, h4, -⟩
  · simp at hlt
  · simp only [Value.slice.injEq] at h1
    obtain ⟨rfl, rfl, rfl⟩ := h1
    have hc := h.row.cells (g := g) rfl k R[k].v (by simp [hlt])
    rw [Go.WideShapes.add_plain, Nat.zero_add] at hc
    have hv := (h.el _ (List.getElem_mem hlt)).1
    obtain ⟨b, c', e⟩ := hv.form
    exact ⟨g, b, c', rfl, h2, h3, h4, by rw [← e]; exact hc, e, by rw [← e]; exact hv⟩
theorem MR.mw {p : Bool} {w : World} {a : Option Addr} {n c : Nat} {R : List Rw} {lo hi : Nat} (h : MR p w (.slice a n c) R lo hi) : MW w a n (R.map Rw.K) lo hi := by
  refine ⟨by rw [List.length_map]; exact h.num, fun h0 => ?_⟩
  rw [List.length_map] at h0
  obtain ⟨g, -, -, rfl, h1, h2, h3, -⟩ := h.at h0
  refine ⟨g, 0, rfl, h1, h2, h3, fun i hi' => ?_⟩
  rw [List.length_map] at hi'
  obtain ⟨g', b, c', e, -, -, -, q, -, v⟩ := h.at hi'
  simp only [Option.some.injEq, Addr.mk.injEq, and_true] at e
  subst e
  simp only [List.getElem_map, Nat.zero_add]
  have hr := (h.el _ (List.getElem_mem hi')).2
  exact ⟨b, c', q, v.vw.wide hr.1 hr.2.2⟩
theorem MR_nil (p : Bool) (w : World) (lo hi : Nat) : MR p w (.slice none 0 0) [] lo hi :=
  ⟨World.ownsRow_nil _ _ _ _, fun k hk => by simp [Value.ownBlock] at hk, fun e he => (by cases he), List.Pairwise.nil, fun k hk => by simp [Value.ownBlock] at hk⟩
theorem MR_lit0 (p : Bool) {w : World} {lo : Nat} (hl : lo ≤ w.heap.size) : MR p (w.alloc (.cells #[] 105)) (.slice (some ⟨w.heap.size, 0, none⟩) 0 0) [] lo (w.heap.size + 1) :=
  ⟨⟨rfl, .inr ⟨w.heap.size, 0, #[], rfl, hl, heap_alloc_new w _, Nat.le_refl _, Nat.zero_le _, rfl, rfl⟩⟩, fun k hk => by simp [Value.ownBlock] at hk; omega, fun e he => (by cases he), List.Pairwise.nil, fun k hk r hr => (by cases hr)⟩
/-- A row is appended. -/
theorem MR.snoc {p : Bool} {w w1 : World} {v x : Value} {R : List Rw} {K : List Fq} {lo hi lo' hi' g cap : Nat} (h : MR p w v R lo hi) (hx : VK p w x K lo' hi') (h1 : hi ≤ lo') (h2 : lo' ≤ hi') (h3 : hi' ≤ w.heap.size) (h4 : lo ≤ lo')
    (hrow : w1.ownsRow lo 105 1 (.slice (some ⟨g, 0, none⟩) (R.length + 1) cap) (R.length + 1) (R.map Rw.v ++ [x])) (hg : w.grownBy w1 v.ownBlock) (hat : v.ownBlock = some g ∨ g = w.heap.size) :
    MR p w1 (.slice (some ⟨g, 0, none⟩) (R.length + 1) cap) (R ++ [⟨x, K, lo', hi'⟩]) lo w1.heap.size := by
  have keep : ∀ {y : Value} {L : List Fq} {a b : Nat}, VK p w y L a b → (∀ k, v.ownBlock = some k → k < a ∨ b ≤ k) → VK p w1 y L a b := fun hy hn => hy.block fun k k1 k2 k3 => hg.block k k3 fun e => by have := hn k e.symm; omega
  have hz := hg.size
  refine ⟨by simpa using hrow, fun k hk => (hrow.lt k hk).2, fun r hr => ?_, ?_, fun k hk r hr => ?_⟩
  · rcases List.mem_append.1 hr with hr | hr
    · have e := h.el r hr
      exact ⟨keep e.1 fun k hk => h.out k hk r hr, e.2.1, e.2.2.1, by omega⟩
    · rw [List.mem_singleton.1 hr]
      exact ⟨keep hx fun k hk => .inl (by have := h.high k hk; show k < lo'; omega), h4, h2, by show hi' ≤ _; omega⟩
  · refine List.pairwise_append.2 ⟨h.ap, List.pairwise_singleton _ _, fun r hr r' hr' => ?_⟩
    rw [List.mem_singleton.1 hr']
    have := (h.el r hr).2
    show r.hi ≤ lo'
    omega
  · have hk' : k = g := by simpa [Value.ownBlock] using hk.symm
    subst hk'
    rcases List.mem_append.1 hr with hr | hr
    · rcases hat with e | e
      · exact h.out _ e r hr
      · right; have := (h.el r hr).2; omega
    · rw [List.mem_singleton.1 hr]
      show k < lo' ∨ hi' ≤ k
      rcases hat with e | e
      · have := h.high _ e; omega
      · omega
theorem infoRow : (Try.prog.info? 105).map (fun i => (i.zero, i.size, i.bytes)) = some (some (.slice none 0 0), 1, 24) := by kernel_rfl
section
variable {ops : Array Oper} {o : Oper} {a : Act} {p : Bool} {W : World} {v x : Value} {R : List Rw} {L : List Fq} {lo hi lo' hi' B : Nat}
set_option maxRecDepth 100000 in
/-- THE APPEND of a row of a call's own. -/
theorem wpList_pushM {rest : List Oper} {Q : Exit → Act → World → Prop} (hgd : o.guard = none) (s1 x1 : Operand)
    (ho : o.op = .call { callee := .builtin .append, args := #[s1, x1], argTypes := #[68, 68] }) (hs : a.eval s1 = v) (hv : MR p W v R lo hi) (hr : VK p W x L lo' hi') (h1 : hi ≤ lo') (h2 : lo' ≤ hi') (h3 : hi' ≤ W.heap.size) (h4 : lo ≤ lo')
    (hx : a.eval x1 = .slice (some ⟨B, 0, none⟩) 1 1) (hB : W.heap[B]? = some (.cells #[x] 105 (0, 0))) (hlen : R.length ≤ 1048576) (hlw : lo ≤ W.heap.size) {n : Nat} (hnn : n = R.length + 1)
    (h : ∀ (g cap : Nat) (w' : World), MR p w' (.slice (some ⟨g, 0, none⟩) n cap) (R ++ [⟨x, L, lo', hi'⟩]) lo w'.heap.size → Below lo W w' → wpList Try.prog ops Q rest (a.put o.dst (.slice (some ⟨g, 0, none⟩) n cap)) w') :
    wpList Try.prog ops Q (o :: rest) a W := by
  subst hnn
  obtain ⟨i0, hi0, hz0, hz1, hz2⟩ := info_parts infoRow
  refine wpList_append_lies W hgd s1 x1 68 ho lo 105 i0 _ 1 24 Try.underlying68 hi0 hz0 hz1 hz2 rfl (by decide) v R.length (R.map Rw.v) hs hv.row ⟨B, 0, none⟩ 1 1 [x] hx rfl (World.news_of_block hB) ?_ (by decide) (by unfold maxLen; omega) (by omega) hlw W.heap.size rfl ?_
  · obtain ⟨a1, c1, rfl⟩ := hr.form
    intro u hu
    simp only [List.mem_cons, List.not_mem_nil, or_false] at hu
    rcases hu with rfl
    rfl
  · intro g cap w' hrow hgr hat hlt
    exact h g cap w' (hv.snoc hr h1 h2 h3 h4 hrow hgr hat) ((Below.refl lo W).grown hgr hlw fun k hk => (hv.lt k hk).1)
end
/-- A slice of one's own of slices of one's own that hold M. -/
def MK (p : Bool) (w : World) (v : Value) (M : List (List Fq)) (lo hi : Nat) : Prop := ∃ R, MR p w v R lo hi ∧ R.map Rw.K = M
theorem MK.old {p : Bool} {w w' : World} {v : Value} {M : List (List Fq)} {lo hi : Nat} (h : MK p w v M lo hi) (hb : Below w.heap.size w w') : MK p w' v M lo hi := by
  obtain ⟨R, h, e⟩ := h
  exact ⟨R, h.old hb, e⟩
theorem MK.onlyG {p : Bool} {w w' : World} {v : Value} {M : List (List Fq)} {lo hi a b : Nat} (h : MK p w v M lo hi) (hb : Only (InG a b w.heap.size) w w') (hd : hi ≤ a ∨ b ≤ lo) : MK p w' v M lo hi := by
  obtain ⟨R, h, e⟩ := h
  exact ⟨R, h.onlyG hb hd, e⟩
theorem MK.wide {p : Bool} {w : World} {v : Value} {M : List (List Fq)} {lo hi lo' hi' : Nat} (h : MK p w v M lo hi) (h1 : lo' ≤ lo) (h2 : hi ≤ hi') : MK p w v M lo' hi' := by
  obtain ⟨R, h, e⟩ := h
  exact ⟨R, h.wide h1 h2, e⟩
theorem MK.form {p : Bool} {w : World} {v : Value} {M : List (List Fq)} {lo hi : Nat} (h : MK p w v M lo hi) : ∃ a c, v = .slice a M.length c := by
  obtain ⟨R, h, rfl⟩ := h
  obtain ⟨a, c, rfl, -⟩ := h.form
  exact ⟨a, c, by rw [List.length_map]⟩
theorem MK.num {p : Bool} {w : World} {a : Option Addr} {n c : Nat} {M : List (List Fq)} {lo hi : Nat} (h : MK p w (.slice a n c) M lo hi) : n = M.length := by
  obtain ⟨R, h, rfl⟩ := h
  rw [List.length_map]
  exact h.num
theorem MK.mw {p : Bool} {w : World} {a : Option Addr} {n c : Nat} {M : List (List Fq)} {lo hi : Nat} (h : MK p w (.slice a n c) M lo hi) : MW w a n M lo hi := by
  obtain ⟨R, h, rfl⟩ := h
  exact h.mw
theorem MK.at {p : Bool} {w : World} {a : Option Addr} {n c : Nat} {M : List (List Fq)} {lo hi : Nat} (h : MK p w (.slice a n c) M lo hi) {k : Nat} (hlt : k < M.length) :
    ∃ g b c' l h', a = some ⟨g, 0, none⟩ ∧ g < w.heap.size ∧ w.cell? ⟨g, k, none⟩ = some (.slice b M[k].length c') ∧ VK p w (.slice b M[k].length c') M[k] l h' := by
  obtain ⟨R, h, rfl⟩ := h
  rw [List.length_map] at hlt
  obtain ⟨g, b, c', e, -, -, h3, q, -, v⟩ := h.at hlt
  simp only [List.getElem_map]
  exact ⟨g, b, c', _, _, e, h3, q, v⟩
/-- A row of one's own, to be written into. -/
theorem MK.row {p : Bool} {w : World} {a : Option Addr} {n c : Nat} {M : List (List Fq)} {lo hi : Nat} (h : MK p w (.slice a n c) M lo hi) {k : Nat} (hlt : k < M.length) :
    ∃ g b c' l h', a = some ⟨g, 0, none⟩ ∧ g < w.heap.size ∧ w.cell? ⟨g, k, none⟩ = some (.slice b M[k].length c') ∧ VK p w (.slice b M[k].length c') M[k] l h' ∧ (lo ≤ l ∧ h' ≤ hi) ∧
      ∀ (w' : World) (K' : List Fq), Only (InG l h' w.heap.size) w w' → VK p w' (.slice b M[k].length c') K' l h' → MK p w' (.slice a n c) (M.set k K') lo hi := by
  obtain ⟨R, h, rfl⟩ := h
  rw [List.length_map] at hlt
  obtain ⟨g, b, c', e, -, -, h3, q, ev, v⟩ := h.at hlt
  simp only [List.getElem_map]
  have hr := (h.el _ (List.getElem_mem hlt)).2
  refine ⟨g, b, c', _, _, e, h3, q, v, ⟨hr.1, hr.2.2⟩, fun w' K' ho hv => ⟨R.set k ⟨R[k].v, K', R[k].lo, R[k].hi⟩, ⟨?_, h.high, fun r hr' => ?_, ?_, fun j hj r hr' => ?_⟩, ?_⟩⟩
  · have e2 : (R.set k ⟨R[k].v, K', R[k].lo, R[k].hi⟩).map Rw.v = R.map Rw.v := by
      rw [List.map_set]
      show (R.map Rw.v).set k R[k].v = _
      have : R[k].v = (R.map Rw.v)[k]'(by rw [List.length_map]; exact hlt) := by simp
      rw [this, List.set_getElem_self]
    rw [List.length_set, e2]
    exact own_block h.row fun j hj => ho.block j fun hs => by
      have h1 := h.out j hj _ (List.getElem_mem hlt)
      have h2 := h.lt j hj
      have := InG_cases hs
      omega
  · obtain ⟨j, hj, rfl⟩ := List.getElem_of_mem hr'
    simp only [List.length_set] at hj
    simp only [List.getElem_set]
    by_cases e' : k = j
    · subst e'
      rw [if_pos rfl]
      exact ⟨by rw [ev]; exact hv, hr⟩
    · rw [if_neg e']
      have hel := h.el _ (List.getElem_mem hj)
      refine ⟨hel.1.onlyG ho ?_, hel.2⟩
      have hp := List.pairwise_iff_getElem.1 h.ap
      rcases Nat.lt_or_gt_of_ne e' with hl | hl
      · exact .inr (hp k j hlt hj hl)
      · exact .inl (hp j k hj hlt hl)
  · rw [List.pairwise_iff_getElem]
    intro i j hi' hj' hij
    have hp := List.pairwise_iff_getElem.1 h.ap
    simp only [List.length_set] at hi' hj'
    have h0 := hp i j hi' hj' hij
    have elo : ∀ (j : Nat) (hj : j < R.length), ((R.set k ⟨R[k].v, K', R[k].lo, R[k].hi⟩)[j]'(by rw [List.length_set]; exact hj)).lo = R[j].lo := fun j hj => by
      rw [List.getElem_set]; split
      · next e => subst e; rfl
      · rfl
    have ehi : ∀ (j : Nat) (hj : j < R.length), ((R.set k ⟨R[k].v, K', R[k].lo, R[k].hi⟩)[j]'(by rw [List.length_set]; exact hj)).hi = R[j].hi := fun j hj => by
      rw [List.getElem_set]; split
      · next e => subst e; rfl
      · rfl
    rw [elo j hj', ehi i hi']
    exact h0
  · obtain ⟨i, hi', rfl⟩ := List.getElem_of_mem hr'
    simp only [List.length_set] at hi'
    have h0 := h.out j hj _ (List.getElem_mem hi')
    rw [List.getElem_set]
    split
    · next e => subst e; exact h0
    · exact h0
  · rw [List.map_set]
theorem MK_nil (p : Bool) (w : World) (lo hi : Nat) : MK p w (.slice none 0 0) [] lo hi := ⟨[], MR_nil _ _ _ _, rfl⟩
/-- What a call of the reference gives. -/
def MatS (M : List (List Fq)) (w : World) (e : Ending) (w' : World) : Prop := ∃ a n c, e = .returned (.slice a n c) ∧ MW w' a n M w.heap.size w'.heap.size ∧ Below w.heap.size w w'
/-- What a copy gives. -/
def MatK (p : Bool) (M : List (List Fq)) (w : World) (e : Ending) (w' : World) : Prop := ∃ a n c, e = .returned (.slice a n c) ∧ MK p w' (.slice a n c) M w.heap.size w'.heap.size ∧ Below w.heap.size w w'
theorem MatK_of {p : Bool} {M : List (List Fq)} {w w' : World} {e : Ending} {v : Value} (he : e = .returned v) (h : MK p w' v M w.heap.size w'.heap.size) (hb : Below w.heap.size w w') : MatK p M w e w' := by
  obtain ⟨a, c, rfl⟩ := h.form
  exact ⟨a, _, c, he, h, hb⟩
theorem MatK.s {p : Bool} {M : List (List Fq)} {w w' : World} {e : Ending} (h : MatK p M w e w') : MatS M w e w' := by
  obtain ⟨a, n, c, he, h, hb⟩ := h
  exact ⟨a, n, c, he, h.mw, hb⟩
end Go.Proofs.Yteanocjkdehhgaa
