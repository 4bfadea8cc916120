/- Merged: Sw Sx Sy Sz. -/
import Derived.Test.YteanocjkdehhgaaSra
import Derived.Test.YteanocjkdehhgaaRhi
import Derived.Deep.RegionHeld3
import Derived.Maps.AppendAt
import Derived.Deep.DeepCutAuto
/- The reference: an append in a region that draws; a fraction negated, a fraction copied. -/
namespace Go.Proofs.Yteanocjkdehhgaa
open Go.RowKit
open Go.Lib (hid)
set_option linter.unusedVariables false

/-- An append of a slice of ints to an empty slice of the call's own at block G: wherever it stands. -/
theorem run_append_int {o : Oper} {a : Act} {K : Act → World → Prop} {Q : Exit → Act → World → Prop} (s x : Operand)
    (ho : o.op = .call { callee := .builtin .append, args := #[s, x], argTypes := #[22, 22] }) (w : World) (G B B0 : Nat) (v : Value) (L : List Int) (hs : a.eval s = .slice (some ⟨G, 0, none⟩) 0 0) (HX : Ints w B0 (.slice (some ⟨G, 0, none⟩) 0 0) []) (hB0 : B0 ≤ w.heap.size)
    (hx : a.eval x = v) (hv : Ints w B v L) (hL : L.length ≤ 1073741824)
    (h : ∀ v' w', Ints w' B0 v' L → Only (fun k => k = G ∨ w.heap.size ≤ k) w w' → (v'.ownBlock = some G ∨ v'.ownBlock = some w.heap.size) → K (a.put o.dst v') w') : o.wp Try.prog a w K Q := by
  obtain ⟨i3, hi, hz0, hz1, hz2⟩ := info_parts Try.info3
  rcases Ints_cases hv with ⟨rfl, rfl⟩ | ⟨g, cc, rfl, -, hg, hcc⟩
  · have hrun := run_append_owned_none (P := Try.prog) (w := w) B0 22 o.type 3 i3 1 Try.underlying22 hi (.slice (some ⟨G, 0, none⟩) 0 0) 0 [] HX
    unfold Oper.wp
    simp [execOp, ho, resolve, invoke, builtin, hs, hx, hrun, Result.andThen]
    exact h _ _ HX (Only.refl _ _) (.inl rfl)
  · have hnews : ∀ j u, (L.map (Value.int .i64))[j]? = some u → w.cell? ((⟨g, 0, none⟩ : Addr).add j) = some u := by
      intro j u hu
      rw [Go.WideShapes.add_plain, Nat.zero_add]
      rw [List.getElem?_map] at hu
      obtain ⟨y, hy, rfl⟩ := Option.map_eq_some_iff.1 hu
      obtain ⟨hj, rfl⟩ := List.getElem?_eq_some_iff.1 hy
      exact Ints_cell hv hj
    obtain ⟨v', w', hr, h2, h3, -, h5⟩ := run_append_own_at (P := Try.prog) (w := w) B0 22 o.type 3 i3 (.int .i64 0) 1 8 Try.underlying22 hi hz0 hz1 hz2 rfl (by decide) (.slice (some ⟨G, 0, none⟩) 0 0) 0 [] HX ⟨g, 0, none⟩ L.length cc (L.map (Value.int .i64)) (by simp) hnews
      (fun u hu => by obtain ⟨y, _, rfl⟩ := List.mem_map.1 hu; rfl) (by unfold maxLen; omega) (by omega) hB0
    unfold Oper.wp execOp
    simp only [ho, resolve, invoke, builtin, Sem.run_bind, Sem.run_pure, Result.andThen_ok, List.map_toArray, List.map_cons, List.map_nil, hs, hx, hr]
    exact h v' w' (by unfold Ints; simpa using h2) ((Only.refl _ _).grown h3 (fun k hk => .inr hk) (fun k hk => .inl (by cases hk; rfl))) h5
theorem step_append_int {ops : Array Oper} {o : Oper} {a : Act} {K : Act → World → Prop} {Q : Exit → Act → World → Prop} {E : Prop} (hgd : o.guard = none) (s x : Operand)
    (ho : o.op = .call { callee := .builtin .append, args := #[s, x], argTypes := #[22, 22] }) (w : World) (G B B0 : Nat) (v : Value) (L : List Int) (hs : a.eval s = .slice (some ⟨G, 0, none⟩) 0 0) (HX : Ints w B0 (.slice (some ⟨G, 0, none⟩) 0 0) []) (hB0 : B0 ≤ w.heap.size)
    (hx : a.eval x = v) (hv : Ints w B v L) (hL : L.length ≤ 1073741824)
    (h : ∀ v' w', Ints w' B0 v' L → Only (fun k => k = G ∨ w.heap.size ≤ k) w w' → (v'.ownBlock = some G ∨ v'.ownBlock = some w.heap.size) → K (a.put o.dst v') w') : if Region.wanted o (yielded ops a.tmps) = true then Oper.wp Try.prog o a w K Q else E := by
  have hw : Region.wanted o (yielded ops a.tmps) = true := by simp [Region.wanted, hgd]
  rw [if_pos hw]
  exact run_append_int s x ho w G B B0 v L hs HX hB0 hx hv hL h
theorem Ints_lit {w : World} {G B : Nat} (h : w.heap[G]? = some (.cells #[] 3 (0, 0))) (hB : B ≤ G) : Ints w B (.slice (some ⟨G, 0, none⟩) 0 0) [] :=
  ⟨rfl, .inr ⟨G, 0, #[], rfl, hB, h, Nat.le_refl _, by decide, rfl, rfl⟩⟩
theorem Ints_apart {w w' : World} {B G : Nat} {v : Value} {L : List Int} (h : Ints w B v L) (ho : Only (fun k => k = G ∨ w.heap.size ≤ k) w w') (hG : v.ownBlock ≠ some G) : Ints w' B v L :=
  Ints_only h ho fun k hk hs => by
    rcases hs with rfl | hs
    · exact hG hk
    · have := (Ints_lt h k hk).2; omega
theorem LocA.apart {T : TypeId} {w w' : World} {b G : Nat} {cs : Array Value} (h : LocA T w b cs) (ho : Only (fun k => k = G ∨ w.heap.size ≤ k) w w') (hG : b ≠ G) : LocA T w' b cs :=
  h.only ho fun hs => by have := h.lt; rcases hs with hs | hs <;> omega
theorem Only_below {w w' : World} {B G : Nat} (ho : Only (fun k => k = G ∨ w.heap.size ≤ k) w w') (hB : B ≤ G) (hB2 : B ≤ w.heap.size) : Below B w w' :=
  ho.below fun k hk hs => by rcases hs with hs | hs <;> omega


end Go.Proofs.Yteanocjkdehhgaa

/- The reference: a fraction copied. -/
namespace Go.Proofs.Yteanocjkdehhgaa
open Go.RowKit
open Go.Lib (hid)
set_option linter.unusedVariables false

set_option maxRecDepth 100000 in
set_option maxHeartbeats 3200000 in
theorem l04Copy_own (s : Bool) (v u : Value) (x : Rat) (w : World) (h : RatX w s v u x) :
    Calls Try.prog 104 #[.agg #[.bool s, v, u]] w (OwnS (some x) w) := by
  obtain ⟨A, D, r1, k1, n1, d1, f1⟩ := h
  obtain ⟨a, c, b, d, rfl, rfl⟩ := r1.form
  obtain ⟨b1, i1⟩ := r1.a
  obtain ⟨b2, i2⟩ := r1.d
  obtain ⟨o1, o2, -, -, -, -⟩ := rok_iff.1 k1
  have nA := (bok_iff.1 o1).1
  have hA : A.length ≤ 1073741824 := by have := nok_len nA; omega
  have hD : D.length ≤ 1073741824 := by have := nok_len o2; omega
  clear r1
  have hE := hid (show s = gzs (qn (some x)) ∧ A = gzl (qn (some x)) ∧ D = gzl (qd (some x)) by
    have e1 := gz_of o1
    have e2 := gz_of (bok_pos o2)
    refine ⟨?_, ?_, ?_⟩
    · show s = gzs x.num; rw [n1]; exact e1.1.symm
    · show A = gzl x.num; rw [n1]; exact e1.2.symm
    · show D = gzl (x.den : Int); rw [d1]; exact e2.2.symm)
  obtain ⟨o, ho⟩ : ∃ o, o = some x := ⟨_, rfl⟩
  rw [← ho] at hE ⊢
  clear ho k1 n1 d1 f1 o1 o2 nA
  have B := hid (show Below w.heap.size w ((w.alloc (.cells #[.bool s, .slice a A.length c, .slice b D.length d] 33)).alloc (.cells #[.bool false, .slice none 0 0, .slice none 0 0] 33)) from ((Below.refl _ _).alloc (Nat.le_refl _) _).alloc (by simp) _)
  have LP := hid (show LocA 33 ((w.alloc (.cells #[.bool s, .slice a A.length c, .slice b D.length d] 33)).alloc (.cells #[.bool false, .slice none 0 0, .slice none 0 0] 33)) (w.heap.size) #[.bool s, .slice a A.length c, .slice b D.length d] from (LocA.at (by simp)).new1)
  have LR := hid (show LocA 33 ((w.alloc (.cells #[.bool s, .slice a A.length c, .slice b D.length d] 33)).alloc (.cells #[.bool false, .slice none 0 0, .slice none 0 0] 33)) (w.heap.size + 1) #[.bool false, .slice none 0 0, .slice none 0 0] from (LocA.at (by simp)))
  have X1 := hid (Ints_old i1 B.out)
  have X2 := hid (Ints_old i2 B.out)
  clear i1 i2
  generalize hW : (w.alloc (.cells #[.bool s, .slice a A.length c, .slice b D.length d] 33)).alloc (.cells #[.bool false, .slice none 0 0, .slice none 0 0] 33) = W0 at B LP LR X1 X2
  have HW := hid hW
  clear hW
  have hs0 := B.out.size
  have ht0 := LR.out.lt
  go_enter Try.func104, Try.ntmps104
  go_wp2_with fail
  rw [HW.out]
  have LPD := hid (LP.out.old (Below_drew1 (Below.refl _ _)))
  have LPE := hid (LP.out.old (Below_drew1 (below_new' (o := .cells #[] 3))))
  have LRD := hid (LR.out.old (Below_drew1 (Below.refl _ _)))
  have LRE := hid (LR.out.old (Below_drew1 (below_new' (o := .cells #[] 3))))
  have X1D := hid (Ints_old X1.out (Below_drew1 (Below.refl _ _)))
  have X1E := hid (Ints_old X1.out (Below_drew1 (below_new' (o := .cells #[] 3))))
  have X2D := hid (Ints_old X2.out (Below_drew1 (Below.refl _ _)))
  have X2E := hid (Ints_old X2.out (Below_drew1 (below_new' (o := .cells #[] 3))))
  have BD := hid (Below_drew1 B.out)
  have BE := hid (show Below w.heap.size w (W0.alloc (.cells #[] 3)).drew from Below_drew1 (B.out.alloc hs0 _))
  have HE := hid (show (W0.alloc (.cells #[] 3)).drew.heap[W0.heap.size]? = some (.cells #[] 3 (0, 0)) ∧ W0.heap.size < (W0.alloc (.cells #[] 3)).drew.heap.size from ⟨heap_alloc_new W0 _, by show W0.heap.size < (W0.alloc _).heap.size; simp⟩)
  have LPF := hid (LP.out.old (Below_drew1 (below_new2 (o := .cells #[] 3) (o' := .cells #[] 3))))
  have LRF := hid (LR.out.old (Below_drew1 (below_new2 (o := .cells #[] 3) (o' := .cells #[] 3))))
  have X1F := hid (Ints_old X1.out (Below_drew1 (below_new2 (o := .cells #[] 3) (o' := .cells #[] 3))))
  have X2F := hid (Ints_old X2.out (Below_drew1 (below_new2 (o := .cells #[] 3) (o' := .cells #[] 3))))
  have BF := hid (show Below w.heap.size w ((W0.alloc (.cells #[] 3)).alloc (.cells #[] 3)).drew from Below_drew1 ((B.out.alloc hs0 _).alloc (by simp; omega) _))
  have HF := hid (show ((W0.alloc (.cells #[] 3)).alloc (.cells #[] 3)).drew.heap[W0.heap.size]? = some (.cells #[] 3 (0, 0)) ∧ ((W0.alloc (.cells #[] 3)).alloc (.cells #[] 3)).drew.heap[W0.heap.size + 1]? = some (.cells #[] 3 (0, 0)) ∧ ((W0.alloc (.cells #[] 3)).alloc (.cells #[] 3)).drew.heap.size = W0.heap.size + 1 + 1 from ⟨heap_alloc2_old W0 _ _, heap_alloc2_new W0 _ _, by show ((W0.alloc _).alloc _).heap.size = _; simp⟩)
  have XB := hid (show ∀ k, (Value.slice b D.length d).ownBlock = some k → k < W0.heap.size from fun k hk => (Ints_lt X2.out k hk).2)
  have q0 := LPD.out.c 0 rfl
  have q1 := LPD.out.c 1 rfl
  have q2 := LPD.out.c 2 rfl
  go_region_held3 (fun w' => w'.cell? ⟨w.heap.size, 0, none⟩ = some (.bool s) ∧ w'.cell? ⟨w.heap.size, 1, none⟩ = some (.slice a A.length c) ∧ w'.cell? ⟨w.heap.size, 2, none⟩ = some (.slice b D.length d)) (first | exact ⟨q0, q1, q2⟩ | exact ⟨LPE.out.c 0 rfl, LPE.out.c 1 rfl, LPE.out.c 2 rfl⟩ | exact ⟨(LP.out.new1).c 0 rfl, (LP.out.new1).c 1 rfl, (LP.out.new1).c 2 rfl⟩ | exact ⟨(LPF.out).c 0 rfl, (LPF.out).c 1 rfl, (LPF.out).c 2 rfl⟩ | exact ⟨(cell_set3 (by omega)).trans q0, (cell_set3 (by omega)).trans q1, (cell_set3 (by omega)).trans q2⟩ | exact ⟨LPF.out.c 0 rfl, LPF.out.c 1 rfl, LPF.out.c 2 rfl⟩ | go_keep) (first | (refine step_append_int (by rfl) _ _ (by rfl) (W0.alloc (.cells #[] 3)).drew W0.heap.size b1 W0.heap.size (.slice a A.length c) A (by rfl) (Ints_lit HE.out.1 (Nat.le_refl _)) (by have := HE.out.2; omega) (by rfl) X1E.out hA ?_; intro v1 w1 i1 o1 hat1; have LR := hid (LRE.out.apart o1 (by omega)); have LP := hid (LPE.out.apart o1 (by omega)); have X2 := hid (Ints_apart X2E.out o1 (fun e => by have := XB.out _ e; omega)); have B := hid (BE.out.trans (Only_below o1 (by omega) BE.out.size)); have hs1 := B.out.size; have I1 := hid i1; have hk1 := hid hat1; have ht1 := LR.out.lt; have hz1 := o1.size; have hcase : w1.heap.size > W0.heap.size := (by have := HE.out.2; omega); have q0 := LP.out.c 0 rfl; have q1 := LP.out.c 1 rfl; have q2 := LP.out.c 2 rfl; obtain ⟨a1, c1, rfl, -⟩ := Ints_form i1; clear i1 o1 hat1) | (refine step_append_int (by rfl) _ _ (by rfl) ((W0.alloc (.cells #[] 3)).alloc (.cells #[] 3)).drew W0.heap.size b1 W0.heap.size (.slice a A.length c) A (by rfl) (Ints_lit HF.out.1 (Nat.le_refl _)) (by have := HF.out.2.2; omega) (by rfl) X1F.out hA ?_; intro v1 w1 i1 o1 hat1; have LR := hid (LRF.out.apart o1 (by omega)); have LP := hid (LPF.out.apart o1 (by omega)); have X2 := hid (Ints_apart X2F.out o1 (fun e => by have := XB.out _ e; omega)); have B := hid (BF.out.trans (Only_below o1 (by omega) BF.out.size)); have hs1 := B.out.size; have I1 := hid i1; have hk1 := hid hat1; have ht1 := LR.out.lt; have hz1 := o1.size; have HG := hid ((o1.block (W0.heap.size + 1) (fun hs => by have := HF.out.2.2; omega)).trans HF.out.2.1); have hg1 : W0.heap.size + 1 < w1.heap.size := (by have := HF.out.2.2; omega); have hn1 := hid (show ∀ k, v1.ownBlock = some k → k ≠ W0.heap.size + 1 from fun k hk => (by have := HF.out.2.2; rcases hat1 with e | e <;> (rw [e] at hk; cases hk; omega))); have q0 := LP.out.c 0 rfl; have q1 := LP.out.c 1 rfl; have q2 := LP.out.c 2 rfl; obtain ⟨a1, c1, rfl, -⟩ := Ints_form i1; clear i1 o1 hat1) | (refine step_append_int (by rfl) _ _ (by rfl) ((W0.alloc (.cells #[] 3)).alloc (.cells #[] 3)).drew (W0.heap.size + 1) b1 W0.heap.size (.slice a A.length c) A (by rfl) (Ints_lit HF.out.2.1 (by omega)) (by have := HF.out.2.2; omega) (by rfl) X1F.out hA ?_; intro v1 w1 i1 o1 hat1; have LR := hid (LRF.out.apart o1 (by omega)); have LP := hid (LPF.out.apart o1 (by omega)); have X2 := hid (Ints_apart X2F.out o1 (fun e => by have := XB.out _ e; omega)); have B := hid (BF.out.trans (Only_below o1 (by omega) BF.out.size)); have hs1 := B.out.size; have I1 := hid i1; have hk1 := hid hat1; have ht1 := LR.out.lt; have hz1 := o1.size; have HG := hid ((o1.block W0.heap.size (fun hs => by have := HF.out.2.2; omega)).trans HF.out.1); have hg1 : W0.heap.size + 1 < w1.heap.size := (by have := HF.out.2.2; omega); have hn1 := hid (show ∀ k, v1.ownBlock = some k → k ≠ W0.heap.size from fun k hk => (by have := HF.out.2.2; rcases hat1 with e | e <;> (rw [e] at hk; cases hk; omega))); have q0 := LP.out.c 0 rfl; have q1 := LP.out.c 1 rfl; have q2 := LP.out.c 2 rfl; obtain ⟨a1, c1, rfl, -⟩ := Ints_form i1; clear i1 o1 hat1) | (refine step_append_int (by rfl) _ _ (by rfl) (w1.alloc (.cells #[] 3)) w1.heap.size b2 w1.heap.size (.slice b D.length d) D (by rfl) (Ints_lit0 rfl) (by simp) (by rfl) (Ints_old X2.out (below_new' (o := .cells #[] 3))) hD ?_; intro v9 w9 i9 o9 hat; clear hat; have LR := hid ((LR.out.new1 (o := .cells #[] 3)).apart o9 (by omega)); have LP := hid ((LP.out.new1 (o := .cells #[] 3)).apart o9 (by omega)); have I1 := hid (Ints_base (Ints_apart (Ints_old I1.out (below_new' (o := .cells #[] 3))) o9 (fun e => by have := (Ints_lt I1.out _ e).2; omega)) hs0); have B := hid ((B.out.alloc hs1 (.cells #[] 3)).trans (Only_below o9 hs1 (by simp; omega))); have I2 := hid (Ints_base i9 hs1); have q0 := LP.out.c 0 rfl; have q1 := LP.out.c 1 rfl; have q2 := LP.out.c 2 rfl; have f0 := LR.out.f 0; have f1 := LR.out.f 1; have f2 := LR.out.f 2; have p0 := LR.out.c 0 rfl; have p1 := LR.out.c 1 rfl; have p2 := LR.out.c 2 rfl; have R := hid (OwnS_out (o := o) (s := s) (N := w.heap.size + 1) (w := w) hE.out.1 hE.out.2.1 hE.out.2.2 (by omega) LR.out (by decide) (Nat.le_refl _) (Nat.le_refl _) I1.out I2.out B.out); obtain ⟨a2, c2, rfl, -⟩ := Ints_form i9; clear i9 o9) | (refine step_append_int (by rfl) _ _ (by rfl) w1 (W0.heap.size + 1) b2 W0.heap.size (.slice b D.length d) D (by rfl) (Ints_lit HG.out (by omega)) (by omega) (by rfl) X2.out hD ?_; intro v9 w9 i9 o9 hat; clear hat; have LR := hid (LR.out.apart o9 (by omega)); have LP := hid (LP.out.apart o9 (by omega)); have I1 := hid (Ints_base (Ints_apart I1.out o9 (fun e => hn1.out _ e rfl)) hs0); have B := hid (B.out.trans (Only_below o9 (by omega) hs1)); have I2 := hid (Ints_base i9 hs0); have q0 := LP.out.c 0 rfl; have q1 := LP.out.c 1 rfl; have q2 := LP.out.c 2 rfl; have f0 := LR.out.f 0; have f1 := LR.out.f 1; have f2 := LR.out.f 2; have p0 := LR.out.c 0 rfl; have p1 := LR.out.c 1 rfl; have p2 := LR.out.c 2 rfl; have R := hid (OwnS_out (o := o) (s := s) (N := w.heap.size + 1) (w := w) hE.out.1 hE.out.2.1 hE.out.2.2 (by omega) LR.out (by decide) (Nat.le_refl _) (Nat.le_refl _) I1.out I2.out B.out); obtain ⟨a2, c2, rfl, -⟩ := Ints_form i9; clear i9 o9) | (refine step_append_int (by rfl) _ _ (by rfl) w1 W0.heap.size b2 W0.heap.size (.slice b D.length d) D (by rfl) (Ints_lit HG.out (by omega)) (by omega) (by rfl) X2.out hD ?_; intro v9 w9 i9 o9 hat; clear hat; have LR := hid (LR.out.apart o9 (by omega)); have LP := hid (LP.out.apart o9 (by omega)); have I1 := hid (Ints_base (Ints_apart I1.out o9 (fun e => hn1.out _ e rfl)) hs0); have B := hid (B.out.trans (Only_below o9 (by omega) hs1)); have I2 := hid (Ints_base i9 hs0); have q0 := LP.out.c 0 rfl; have q1 := LP.out.c 1 rfl; have q2 := LP.out.c 2 rfl; have f0 := LR.out.f 0; have f1 := LR.out.f 1; have f2 := LR.out.f 2; have p0 := LR.out.c 0 rfl; have p1 := LR.out.c 1 rfl; have p2 := LR.out.c 2 rfl; have R := hid (OwnS_out (o := o) (s := s) (N := w.heap.size + 1) (w := w) hE.out.1 hE.out.2.1 hE.out.2.2 (by omega) LR.out (by decide) (Nat.le_refl _) (Nat.le_refl _) I1.out I2.out B.out); obtain ⟨a2, c2, rfl, -⟩ := Ints_form i9; clear i9 o9))
  all_goals
    try clear q0 q1 q2
    go_wp2
    exact bodyPost_ret (v := .agg #[.bool s, .slice a1 _ c1, .slice a2 _ c2]) (by simp [results, Try.results104, go_sem, p0, p1, p2]) rfl R.out
end Go.Proofs.Yteanocjkdehhgaa

/- The reference: the sum of two valid fractions. -/
namespace Go.Proofs.Yteanocjkdehhgaa
open Go.RowKit
open Go.Lib (hid)
set_option linter.unusedVariables false

/-- A struct of a sign and limbs has been laid into a variable of its own, at block g, behind w. -/
def LaidZ (T : TypeId) (W : World) (z : Bool) (R : List Int) (sl : Value) (wx : World) : Prop := ∃ g a c, sl = .pointer (some ⟨g, 0, none⟩) ∧ LocA T wx g #[.bool z, .slice a R.length c] ∧ Ints wx W.heap.size (.slice a R.length c) R ∧ W.heap.size ≤ g ∧ Below W.heap.size W wx
theorem LaidZ_a {T : TypeId} {W wf : World} {z : Bool} {R : List Int} {a : Option Addr} {c B : Nat} (hi : Ints wf B (.slice a R.length c) R) (hB : W.heap.size ≤ B) (hb : Below W.heap.size W wf) :
    LaidZ T W z R (.pointer (some ⟨wf.heap.size, 0, none⟩)) (wf.alloc (.cells #[.bool z, .slice a R.length c] T)) :=
  ⟨wf.heap.size, a, c, rfl, LocA.new, Ints_base (addPre hi) hB, hb.size, hb.alloc hb.size _⟩
theorem LaidZ_b {T : TypeId} {W wf : World} {z : Bool} {R : List Int} {a : Option Addr} {c B N : Nat} (hT : T ≠ 3) (hL : LocA T wf N #[.bool false, .slice none 0 0]) (hN : W.heap.size ≤ N) (hB : W.heap.size ≤ B) (hi : Ints wf B (.slice a R.length c) R) (hb : Below W.heap.size W wf) :
    LaidZ T W z R (.pointer (some ⟨N, 0, none⟩)) ((wf.setCell ⟨N, 0, none⟩ (.bool z)).setCell ⟨N, 1, none⟩ (.slice a R.length c)) := by
  have hne := hL.ne hT hi
  refine ⟨N, a, c, rfl, ?_, Ints_base (Ints_set (Ints_set hi hne) hne) hB, hN, (hb.setCell hN _).setCell hN _⟩
  unfold LocA at hL ⊢
  simp [World.setCell, Array.getElem?_modify, hL]

end Go.Proofs.Yteanocjkdehhgaa

/- The reference: sums, differences, products, quotients, the order, the smaller and the greater fraction. -/
namespace Go.Proofs.Yteanocjkdehhgaa
open Go.RowKit
open Go.Lib (hid)
set_option linter.unusedVariables false

set_option maxRecDepth 100000 in
set_option maxHeartbeats 3200000 in
theorem spec_RatSign (s : Bool) (v u : Value) (A D : List Int) (w : World) (h : RL w v u A D) :
    Calls Try.prog 77 #[.agg #[.bool s, v, u]] w (RetB (.int .i64 (sgnO (rval s A D))) w) := by
  have KO := hid (fun (W : World) (h : RL W v u A D) => spec_RatOk s v u A D W h)
  obtain ⟨z, hz⟩ : ∃ z, z = sgnO (rval s A D) := ⟨_, rfl⟩
  have HZ := hid hz
  rw [← hz]
  clear hz
  have hA : A.length ≤ 1073741824 := by have := h.la; omega
  obtain ⟨a, c, b, d, rfl, rfl⟩ := h.form
  have B := hid (show Below w.heap.size w (w.alloc (.cells #[.bool s, .slice a A.length c, .slice b D.length d] 33)) from (Below.refl _ _).alloc (Nat.le_refl _) _)
  have LP := hid (show LocA 33 (w.alloc (.cells #[.bool s, .slice a A.length c, .slice b D.length d] 33)) (w.heap.size) #[.bool s, .slice a A.length c, .slice b D.length d] from (LocA.at (by simp)))
  have H1 := hid (h.old B.out)
  clear h
  generalize hW : w.alloc (.cells #[.bool s, .slice a A.length c, .slice b D.length d] 33) = W0 at B LP H1
  have HW := hid hW
  clear hW
  have hs0 := B.out.size
  obtain ⟨p, hp⟩ : ∃ p, p = rok s A D := ⟨_, rfl⟩
  rw [← hp] at KO
  cases p with
  | false =>
    have hE := hid (show z = 0 by rw [HZ.out, rval_no hp.symm]; rfl)
    clear hp
    go_enter Try.func77, Try.ntmps77
    have q0 := LP.out.c 0 rfl
    have q1 := LP.out.c 1 rfl
    have q2 := LP.out.c 2 rfl
    go_wp2_with fail
    rw [HW.out]
    (with_reducible refine (KO.out _ H1.out).mono ?_)
    clear q0 q1 q2
    rintro e w1 ⟨rfl, b1⟩
    have LP := hid (LP.out.old b1)
    have B := hid (B.out.trans (b1.mono B.out.size))
    clear b1
    have q0 := LP.out.c 0 rfl
    have q1 := LP.out.c 1 rfl
    go_wp2
    go_ret
    exact ⟨ret_in hE.out.symm, B.out⟩
  | true =>
  obtain ⟨x, ex, n1, -⟩ := rval_yes hp.symm
  have hE0 := hid (show z = sgn (sval s (val A)) by rw [HZ.out, ex, ← n1]; rfl)
  have kA := (rok_iff.1 hp.symm).1
  have nA := (bok_iff.1 kA).1
  have v0 := val_nonneg (nok_lim nA)
  by_cases h0 : A.length = 0
  · have hE := hid (show z = 0 by
      rw [hE0.out, List.length_eq_zero_iff.1 h0]
      cases s <;> rfl)
    have h1 : ((A.length : Int) == 0) = true := by simp [h0]
    clear h0 ex n1 kA nA v0 hp
    go_enter Try.func77, Try.ntmps77
    have q0 := LP.out.c 0 rfl
    have q1 := LP.out.c 1 rfl
    have q2 := LP.out.c 2 rfl
    go_wp2_with fail
    rw [HW.out]
    (with_reducible refine (KO.out _ H1.out).mono ?_)
    clear q0 q1 q2
    rintro e w1 ⟨rfl, b1⟩
    have LP := hid (LP.out.old b1)
    have B := hid (B.out.trans (b1.mono B.out.size))
    clear b1
    have q0 := LP.out.c 0 rfl
    have q1 := LP.out.c 1 rfl
    go_wp2
    go_ret
    exact ⟨ret_in hE.out.symm, B.out⟩
  have h1 : ((A.length : Int) == 0) = false := beq_eq_false_iff_ne.2 (by omega)
  have vp : 0 < val A := vpos nA (fun e => h0 (by rw [e]; rfl))
  cases s with
  | true =>
    have hE := hid (show z = -1 by rw [hE0.out]; unfold sval sgn; rw [if_pos rfl, if_pos (by omega)])
    clear h0 ex n1 kA nA v0 hp vp
    go_enter Try.func77, Try.ntmps77
    have q0 := LP.out.c 0 rfl
    have q1 := LP.out.c 1 rfl
    have q2 := LP.out.c 2 rfl
    go_wp2_with fail
    rw [HW.out]
    (with_reducible refine (KO.out _ H1.out).mono ?_)
    clear q0 q1 q2
    rintro e w1 ⟨rfl, b1⟩
    have LP := hid (LP.out.old b1)
    have B := hid (B.out.trans (b1.mono B.out.size))
    clear b1
    have q0 := LP.out.c 0 rfl
    have q1 := LP.out.c 1 rfl
    go_wp2
    go_ret
    exact ⟨ret_in hE.out.symm, B.out⟩
  | false =>
    have hE := hid (show z = 1 by rw [hE0.out]; show sgn (val A) = 1; unfold sgn; rw [if_neg (by omega), if_pos vp])
    clear h0 ex n1 kA nA v0 hp vp
    go_enter Try.func77, Try.ntmps77
    have q0 := LP.out.c 0 rfl
    have q1 := LP.out.c 1 rfl
    have q2 := LP.out.c 2 rfl
    go_wp2_with fail
    rw [HW.out]
    (with_reducible refine (KO.out _ H1.out).mono ?_)
    clear q0 q1 q2
    rintro e w1 ⟨rfl, b1⟩
    have LP := hid (LP.out.old b1)
    have B := hid (B.out.trans (b1.mono B.out.size))
    clear b1
    have q0 := LP.out.c 0 rfl
    have q1 := LP.out.c 1 rfl
    go_wp2
    go_ret
    exact ⟨ret_in hE.out.symm, B.out⟩
end Go.Proofs.Yteanocjkdehhgaa
