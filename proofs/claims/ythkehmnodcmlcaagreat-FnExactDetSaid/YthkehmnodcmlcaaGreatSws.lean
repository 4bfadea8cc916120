import Derived.Test.YthkehmnodcmlcaaGreatSra
import Derived.Test.YthkehmnodcmlcaaGreatRhi
import Derived.Deep.RegionHeld3
import Derived.Maps.AppendAt
import Derived.Deep.DeepCutAuto
set_option maxRecDepth 100000
set_option maxHeartbeats 12800000
set_option linter.unusedVariables false
set_option linter.unusedSimpArgs false
namespace Go.Proofs.YthkehmnodcmlcaaGreat
open Go.RowKit
open Go.Lib (hid)
theorem run_append_int {o : Oper} {a : Act} {K : Act → World → Prop} {Q : Exit → Act → World → Prop} (s x : Operand)
  (ho : o.op = .call { callee := .builtin .append, args := #[s, x], argTypes := #[23, 23] }) (w : World) (G B B0 : Nat) (v : Value) (L : List Int) (hs : a.eval s = .slice (some ⟨G, 0, none⟩) 0 0) (HX : Ints w B0 (.slice (some ⟨G, 0, none⟩) 0 0) []) (hB0 : B0 ≤ w.heap.size)
  (hx : a.eval x = v) (hv : Ints w B v L) (hL : L.length ≤ 1073741824)
  (h : ∀ v' w', Ints w' B0 v' L → Only (fun k => k = G ∨ w.heap.size ≤ k) w w' → (v'.ownBlock = some G ∨ v'.ownBlock = some w.heap.size) → K (a.put o.dst v') w') : o.wp Tryz.prog a w K Q := by
 obtain ⟨i3, hi, hz0, hz1, hz2⟩ := info_parts Tryz.info3
 rcases Ints_cases hv with ⟨rfl, rfl⟩ | ⟨g, cc, rfl, -, hg, hcc⟩
 ·have hrun := run_append_owned_none (P := Tryz.prog) (w := w) B0 23 o.type 3 i3 1 Tryz.underlying23 hi (.slice (some ⟨G, 0, none⟩) 0 0) 0 [] HX
  unfold Oper.wp
  simp [execOp, ho, resolve, invoke, builtin, hs, hx, hrun, Result.andThen]
  exact h _ _ HX (Only.refl _ _) (.inl rfl)
 ·have hnews : ∀ j u, (L.map (Value.int .i64))[j]? = some u → w.cell? ((⟨g, 0, none⟩ : Addr).add j) = some u := by
   intro j u hu
   rw [Go.WideShapes.add_plain, Nat.zero_add]
   rw [List.getElem?_map] at hu
   obtain ⟨y, hy, rfl⟩ := Option.map_eq_some_iff.1 hu
   obtain ⟨hj, rfl⟩ := List.getElem?_eq_some_iff.1 hy
   exact Ints_cell hv hj
  obtain ⟨v', w', hr, h2, h3, -, h5⟩ := run_append_own_at (P := Tryz.prog) (w := w) B0 23 o.type 3 i3 (.int .i64 0) 1 8 Tryz.underlying23 hi hz0 hz1 hz2 rfl (by decide) (.slice (some ⟨G, 0, none⟩) 0 0) 0 [] HX ⟨g, 0, none⟩ L.length cc (L.map (Value.int .i64)) (by simp) hnews
   (fun u hu => by obtain ⟨y, _, rfl⟩ := List.mem_map.1 hu; rfl) (by unfold maxLen; omega) (by omega) hB0
  unfold Oper.wp execOp
  simp only [ho, resolve, invoke, builtin, Sem.run_bind, Sem.run_pure, Result.andThen_ok, List.map_toArray, List.map_cons, List.map_nil, hs, hx, hr]
  exact h v' w' (by unfold Ints; simpa using h2) ((Only.refl _ _).grown h3 (fun k hk => .inr hk) (fun k hk => .inl (by cases hk; rfl))) h5
theorem step_append_int {ops : Array Oper} {o : Oper} {a : Act} {K : Act → World → Prop} {Q : Exit → Act → World → Prop} {E : Prop} (hgd : o.guard = none) (s x : Operand)
  (ho : o.op = .call { callee := .builtin .append, args := #[s, x], argTypes := #[23, 23] }) (w : World) (G B B0 : Nat) (v : Value) (L : List Int) (hs : a.eval s = .slice (some ⟨G, 0, none⟩) 0 0) (HX : Ints w B0 (.slice (some ⟨G, 0, none⟩) 0 0) []) (hB0 : B0 ≤ w.heap.size)
  (hx : a.eval x = v) (hv : Ints w B v L) (hL : L.length ≤ 1073741824)
  (h : ∀ v' w', Ints w' B0 v' L → Only (fun k => k = G ∨ w.heap.size ≤ k) w w' → (v'.ownBlock = some G ∨ v'.ownBlock = some w.heap.size) → K (a.put o.dst v') w') : if Region.wanted o (yielded ops a.tmps) = true then Oper.wp Tryz.prog o a w K Q else E := by
 have hw : Region.wanted o (yielded ops a.tmps) = true := by simp [Region.wanted, hgd]
 rw [if_pos hw]
 exact run_append_int s x ho w G B B0 v L hs HX hB0 hx hv hL h
theorem Ints_lit {w : World} {G B : Nat} (h : w.heap[G]? = some (.cells #[] 3 (0, 0))) (hB : B ≤ G) : Ints w B (.slice (some ⟨G, 0, none⟩) 0 0) [] :=
 ⟨rfl, .inr ⟨G, 0, #[], rfl, hB, h, Nat.le_refl _, by decide, rfl, rfl⟩⟩
theorem Ints_apart {w w' : World} {B G : Nat} {v : Value} {L : List Int} (h : Ints w B v L) (ho : Only (fun k => k = G ∨ w.heap.size ≤ k) w w') (hG : v.ownBlock ≠ some G) : Ints w' B v L :=
 Ints_only h ho fun k hk hs => by
  rcases hs with rfl | hs
  ·exact hG hk
  ·have := (Ints_lt h k hk).2; omega
theorem LocA.apart {T : TypeId} {w w' : World} {b G : Nat} {cs : Array Value} (h : LocA T w b cs) (ho : Only (fun k => k = G ∨ w.heap.size ≤ k) w w') (hG : b ≠ G) : LocA T w' b cs :=
 h.only ho fun hs => by have := h.lt; rcases hs with hs | hs <;> omega
theorem Only_below {w w' : World} {B G : Nat} (ho : Only (fun k => k = G ∨ w.heap.size ≤ k) w w') (hB : B ≤ G) (hB2 : B ≤ w.heap.size) : Below B w w' :=
 ho.below fun k hk hs => by rcases hs with hs | hs <;> omega
theorem l04Neg_own (s : Bool) (v u : Value) (x : Rat) (w : World) (h : RatX w s v u x) :
  Calls Tryz.prog 130 #[.agg #[.bool s, v, u]] w (OwnS (some (-x)) w) := by
 obtain ⟨A, D, r1, k1, n1, d1, f1⟩ := h
 obtain ⟨a, c, b, d, rfl, rfl⟩ := r1.form
 obtain ⟨b1, i1⟩ := r1.a
 obtain ⟨b2, i2⟩ := r1.d
 obtain ⟨o1, o2, -, -, -, -⟩ := rok_iff.1 k1
 have nA := (bok_iff.1 o1).1
 have hA : A.length ≤ 1073741824 := by have := nok_len nA; omega
 have hD : D.length ≤ 1073741824 := by have := nok_len o2; omega
 clear r1
 have hE := hid (show gzs (sval (!s) (val A)) = gzs (qn (some (-x))) ∧ gzl (sval (!s) (val A)) = gzl (qn (some (-x))) ∧ D = gzl (qd (some (-x))) by
  have e : sval (!s) (val A) = (-x).num := by rw [Rat.neg_num, n1, neg_sval]
  rw [e]
  refine ⟨rfl, rfl, ?_⟩
  show D = gzl (x.den : Int)
  rw [d1]
  exact (gz_of (bok_pos o2)).2.symm)
 obtain ⟨o, ho⟩ : ∃ o, o = some (-x) := ⟨_, rfl⟩
 rw [← ho] at hE ⊢
 obtain ⟨sn, hsn⟩ : ∃ z, z = !s := ⟨_, rfl⟩
 have HSN := hid hsn
 rw [← hsn] at hE
 have KN := hid (fun (W : World) (h : Ints W b1 (.slice a A.length c) A) => l03Make_own sn b1 _ A hA (nok_lim nA) W h)
 obtain ⟨gs, hgs⟩ : ∃ z, z = gzs (sval sn (val A)) := ⟨_, rfl⟩
 obtain ⟨gl, hgl⟩ : ∃ z, z = gzl (sval sn (val A)) := ⟨_, rfl⟩
 rw [← hgs, ← hgl] at KN hE
 clear ho hsn hgs hgl k1 n1 d1 f1 o1 o2 nA
 have B := hid (show Below w.heap.size w ((w.alloc (.cells #[.bool s, .slice a A.length c, .slice b D.length d] 37)).alloc (.cells #[.bool false, .slice none 0 0, .slice none 0 0] 37)) from ((Below.refl _ _).alloc (Nat.le_refl _) _).alloc (by simp) _)
 have LP := hid (show LocA 37 ((w.alloc (.cells #[.bool s, .slice a A.length c, .slice b D.length d] 37)).alloc (.cells #[.bool false, .slice none 0 0, .slice none 0 0] 37)) (w.heap.size) #[.bool s, .slice a A.length c, .slice b D.length d] from (LocA.at (by simp)).new1)
 have LR := hid (show LocA 37 ((w.alloc (.cells #[.bool s, .slice a A.length c, .slice b D.length d] 37)).alloc (.cells #[.bool false, .slice none 0 0, .slice none 0 0] 37)) (w.heap.size + 1) #[.bool false, .slice none 0 0, .slice none 0 0] from (LocA.at (by simp)))
 have X1 := hid (Ints_old i1 B.out)
 have X2 := hid (Ints_old i2 B.out)
 clear i1 i2
 generalize hW : (w.alloc (.cells #[.bool s, .slice a A.length c, .slice b D.length d] 37)).alloc (.cells #[.bool false, .slice none 0 0, .slice none 0 0] 37) = W0 at B LP LR X1 X2
 have HW := hid hW
 clear hW
 have hs0 := B.out.size
 have ht0 := LR.out.lt
 go_enter Tryz.func130, Tryz.ntmps130
 go_wp2_with fail
 rw [HW.out]
 have LPD := hid (LP.out.old (Below_drew1 (Below.refl _ _)))
 have LPE := hid (LP.out.old (Below_drew1 (below_new' (o := .cells #[] 3))))
 have LRD := hid (LR.out.old (Below_drew1 (Below.refl _ _)))
 have LRE := hid (LR.out.old (Below_drew1 (below_new' (o := .cells #[] 3))))
 have X1D := hid (Ints_old X1.out (Below_drew1 (Below.refl _ _)))
 have X1E := hid (Ints_old X1.out (Below_drew1 (below_new' (o := .cells #[] 3))))
 have X2D := hid (Ints_old X2.out (Below_drew1 (Below.refl _ _)))
 have X2E := hid (Ints_old X2.out (Below_drew1 (below_new' (o := .cells #[] 3))))
 have BD := hid (Below_drew1 B.out)
 have BE := hid (show Below w.heap.size w (W0.alloc (.cells #[] 3)).drew from Below_drew1 (B.out.alloc hs0 _))
 have HE := hid (show (W0.alloc (.cells #[] 3)).drew.heap[W0.heap.size]? = some (.cells #[] 3 (0, 0)) ∧ W0.heap.size < (W0.alloc (.cells #[] 3)).drew.heap.size from ⟨heap_alloc_new W0 _, by show W0.heap.size < (W0.alloc _).heap.size; simp⟩)
 skip
 have q0 := LPD.out.c 0 rfl
 have q1 := LPD.out.c 1 rfl
 have q2 := LPD.out.c 2 rfl
 go_region_held3 (fun w' => w'.cell? ⟨w.heap.size, 0, none⟩ = some (.bool s) ∧ w'.cell? ⟨w.heap.size, 1, none⟩ = some (.slice a A.length c) ∧ w'.cell? ⟨w.heap.size, 2, none⟩ = some (.slice b D.length d)) (first | exact ⟨q0, q1, q2⟩ | exact ⟨LPE.out.c 0 rfl, LPE.out.c 1 rfl, LPE.out.c 2 rfl⟩ | exact ⟨(LP.out.new1).c 0 rfl, (LP.out.new1).c 1 rfl, (LP.out.new1).c 2 rfl⟩ | exact ⟨(LPF.out).c 0 rfl, (LPF.out).c 1 rfl, (LPF.out).c 2 rfl⟩ | exact ⟨(cell_set3 (by omega)).trans q0, (cell_set3 (by omega)).trans q1, (cell_set3 (by omega)).trans q2⟩ | go_keep) (first | (go_at_call 170; (rw [← HSN.out]); (with_reducible refine (KN.out _ X1D.out).mono ?_); rintro e w1 ⟨r, rfl, i1, b1⟩; have LP := hid (LPD.out.old b1); have LR := hid (LRD.out.old b1); have X2 := hid (Ints_old X2D.out b1); have B := hid (BD.out.trans (b1.mono BD.out.size)); have hs1 := B.out.size; have ht1 := LR.out.lt; have I1 := hid i1; have q0 := LP.out.c 0 rfl; have q1 := LP.out.c 1 rfl; have q2 := LP.out.c 2 rfl; obtain ⟨a1, c1, rfl, -⟩ := Ints_form i1; clear i1 b1) | (go_at_call 170; (rw [← HSN.out]); (with_reducible refine (KN.out _ X1E.out).mono ?_); rintro e w1 ⟨r, rfl, i1, b1⟩; have LP := hid (LPE.out.old b1); have LR := hid (LRE.out.old b1); have X2 := hid (Ints_old X2E.out b1); have B := hid (BE.out.trans (b1.mono BE.out.size)); have hs1 := B.out.size; have ht1 := LR.out.lt; have I1 := hid i1; have HG := hid ((b1.block _ HE.out.2).trans HE.out.1); have hg1 : W0.heap.size < w1.heap.size := Nat.lt_of_lt_of_le HE.out.2 b1.size; have hn1 := hid (show ∀ k, r.ownBlock = some k → k ≠ W0.heap.size from fun k hk => by have := (Ints_lt i1 k hk).1; have := HE.out.2; omega); have q0 := LP.out.c 0 rfl; have q1 := LP.out.c 1 rfl; have q2 := LP.out.c 2 rfl; obtain ⟨a1, c1, rfl, -⟩ := Ints_form i1; clear i1 b1) | (refine step_append_int (by rfl) _ _ (by rfl) (w1.alloc (.cells #[] 3)) w1.heap.size b2 w1.heap.size (.slice b D.length d) D (by rfl) (Ints_lit0 rfl) (by simp) (by rfl) (Ints_old X2.out (below_new' (o := .cells #[] 3))) hD ?_; intro v9 w9 i9 o9 hat; clear hat; have LR := hid ((LR.out.new1 (o := .cells #[] 3)).apart o9 (by omega)); have LP := hid ((LP.out.new1 (o := .cells #[] 3)).apart o9 (by omega)); have I1 := hid (Ints_base (Ints_apart (Ints_old I1.out (below_new' (o := .cells #[] 3))) o9 (fun e => by have := (Ints_lt I1.out _ e).2; omega)) hs0); have B := hid ((B.out.alloc hs1 (.cells #[] 3)).trans (Only_below o9 hs1 (by simp; omega))); have I2 := hid (Ints_base i9 hs1); have q0 := LP.out.c 0 rfl; have q1 := LP.out.c 1 rfl; have q2 := LP.out.c 2 rfl; have f0 := LR.out.f 0; have f1 := LR.out.f 1; have f2 := LR.out.f 2; have p0 := LR.out.c 0 rfl; have p1 := LR.out.c 1 rfl; have p2 := LR.out.c 2 rfl; have R := hid (OwnS_out (o := o) (s := gs) (N := w.heap.size + 1) (w := w) hE.out.1 hE.out.2.1 hE.out.2.2 (by omega) LR.out (by decide) (Nat.le_refl _) (Nat.le_refl _) I1.out I2.out B.out); obtain ⟨a2, c2, rfl, -⟩ := Ints_form i9; clear i9 o9) | (refine step_append_int (by rfl) _ _ (by rfl) w1 W0.heap.size b2 W0.heap.size (.slice b D.length d) D (by rfl) (Ints_lit HG.out (Nat.le_refl _)) (by omega) (by rfl) X2.out hD ?_; intro v9 w9 i9 o9 hat; clear hat; have LR := hid (LR.out.apart o9 (by omega)); have LP := hid (LP.out.apart o9 (by omega)); have I1 := hid (Ints_base (Ints_apart I1.out o9 (fun e => hn1.out _ e rfl)) (show w.heap.size ≤ (W0.alloc (.cells #[] 3)).drew.heap.size from by have := HE.out.2; omega)); have B := hid (B.out.trans (Only_below o9 hs0 hs1)); have I2 := hid (Ints_base i9 hs0); have q0 := LP.out.c 0 rfl; have q1 := LP.out.c 1 rfl; have q2 := LP.out.c 2 rfl; have f0 := LR.out.f 0; have f1 := LR.out.f 1; have f2 := LR.out.f 2; have p0 := LR.out.c 0 rfl; have p1 := LR.out.c 1 rfl; have p2 := LR.out.c 2 rfl; have R := hid (OwnS_out (o := o) (s := gs) (N := w.heap.size + 1) (w := w) hE.out.1 hE.out.2.1 hE.out.2.2 (by omega) LR.out (by decide) (Nat.le_refl _) (Nat.le_refl _) I1.out I2.out B.out); obtain ⟨a2, c2, rfl, -⟩ := Ints_form i9; clear i9 o9))
 all_goals
  try clear q0 q1 q2
  go_wp2
  exact bodyPost_ret (v := .agg #[.bool gs, .slice a1 _ c1, .slice a2 _ c2]) (by simp [results, Tryz.results130, go_sem, p0, p1, p2]) rfl R.out
end Go.Proofs.YthkehmnodcmlcaaGreat
namespace Go.Proofs.YthkehmnodcmlcaaGreat
open Go.RowKit
open Go.Lib (hid)
theorem l04Copy_own (s : Bool) (v u : Value) (x : Rat) (w : World) (h : RatX w s v u x) :
  Calls Tryz.prog 189 #[.agg #[.bool s, v, u]] w (OwnS (some x) w) := by
 obtain ⟨A, D, r1, k1, n1, d1, f1⟩ := h
 obtain ⟨a, c, b, d, rfl, rfl⟩ := r1.form
 obtain ⟨b1, i1⟩ := r1.a
 obtain ⟨b2, i2⟩ := r1.d
 obtain ⟨o1, o2, -, -, -, -⟩ := rok_iff.1 k1
 have nA := (bok_iff.1 o1).1
 have hA : A.length ≤ 1073741824 := by have := nok_len nA; omega
 have hD : D.length ≤ 1073741824 := by have := nok_len o2; omega
 clear r1
 have hE := hid (show s = gzs (qn (some x)) ∧ A = gzl (qn (some x)) ∧ D = gzl (qd (some x)) by
  have e1 := gz_of o1
  have e2 := gz_of (bok_pos o2)
  refine ⟨?_, ?_, ?_⟩
  ·show s = gzs x.num; rw [n1]; exact e1.1.symm
  ·show A = gzl x.num; rw [n1]; exact e1.2.symm
  ·show D = gzl (x.den : Int); rw [d1]; exact e2.2.symm)
 obtain ⟨o, ho⟩ : ∃ o, o = some x := ⟨_, rfl⟩
 rw [← ho] at hE ⊢
 clear ho k1 n1 d1 f1 o1 o2 nA
 have B := hid (show Below w.heap.size w ((w.alloc (.cells #[.bool s, .slice a A.length c, .slice b D.length d] 37)).alloc (.cells #[.bool false, .slice none 0 0, .slice none 0 0] 37)) from ((Below.refl _ _).alloc (Nat.le_refl _) _).alloc (by simp) _)
 have LP := hid (show LocA 37 ((w.alloc (.cells #[.bool s, .slice a A.length c, .slice b D.length d] 37)).alloc (.cells #[.bool false, .slice none 0 0, .slice none 0 0] 37)) (w.heap.size) #[.bool s, .slice a A.length c, .slice b D.length d] from (LocA.at (by simp)).new1)
 have LR := hid (show LocA 37 ((w.alloc (.cells #[.bool s, .slice a A.length c, .slice b D.length d] 37)).alloc (.cells #[.bool false, .slice none 0 0, .slice none 0 0] 37)) (w.heap.size + 1) #[.bool false, .slice none 0 0, .slice none 0 0] from (LocA.at (by simp)))
 have X1 := hid (Ints_old i1 B.out)
 have X2 := hid (Ints_old i2 B.out)
 clear i1 i2
 generalize hW : (w.alloc (.cells #[.bool s, .slice a A.length c, .slice b D.length d] 37)).alloc (.cells #[.bool false, .slice none 0 0, .slice none 0 0] 37) = W0 at B LP LR X1 X2
 have HW := hid hW
 clear hW
 have hs0 := B.out.size
 have ht0 := LR.out.lt
 go_enter Tryz.func189, Tryz.ntmps189
 go_wp2_with fail
 rw [HW.out]
 have LPD := hid (LP.out.old (Below_drew1 (Below.refl _ _)))
 have LPE := hid (LP.out.old (Below_drew1 (below_new' (o := .cells #[] 3))))
 have LRD := hid (LR.out.old (Below_drew1 (Below.refl _ _)))
 have LRE := hid (LR.out.old (Below_drew1 (below_new' (o := .cells #[] 3))))
 have X1D := hid (Ints_old X1.out (Below_drew1 (Below.refl _ _)))
 have X1E := hid (Ints_old X1.out (Below_drew1 (below_new' (o := .cells #[] 3))))
 have X2D := hid (Ints_old X2.out (Below_drew1 (Below.refl _ _)))
 have X2E := hid (Ints_old X2.out (Below_drew1 (below_new' (o := .cells #[] 3))))
 have BD := hid (Below_drew1 B.out)
 have BE := hid (show Below w.heap.size w (W0.alloc (.cells #[] 3)).drew from Below_drew1 (B.out.alloc hs0 _))
 have HE := hid (show (W0.alloc (.cells #[] 3)).drew.heap[W0.heap.size]? = some (.cells #[] 3 (0, 0)) ∧ W0.heap.size < (W0.alloc (.cells #[] 3)).drew.heap.size from ⟨heap_alloc_new W0 _, by show W0.heap.size < (W0.alloc _).heap.size; simp⟩)
 have LPF := hid (LP.out.old (Below_drew1 (below_new2 (o := .cells #[] 3) (o' := .cells #[] 3))))
 have LRF := hid (LR.out.old (Below_drew1 (below_new2 (o := .cells #[] 3) (o' := .cells #[] 3))))
 have X1F := hid (Ints_old X1.out (Below_drew1 (below_new2 (o := .cells #[] 3) (o' := .cells #[] 3))))
 have X2F := hid (Ints_old X2.out (Below_drew1 (below_new2 (o := .cells #[] 3) (o' := .cells #[] 3))))
 have BF := hid (show Below w.heap.size w ((W0.alloc (.cells #[] 3)).alloc (.cells #[] 3)).drew from Below_drew1 ((B.out.alloc hs0 _).alloc (by simp; omega) _))
 have HF := hid (show ((W0.alloc (.cells #[] 3)).alloc (.cells #[] 3)).drew.heap[W0.heap.size]? = some (.cells #[] 3 (0, 0)) ∧ ((W0.alloc (.cells #[] 3)).alloc (.cells #[] 3)).drew.heap[W0.heap.size + 1]? = some (.cells #[] 3 (0, 0)) ∧ ((W0.alloc (.cells #[] 3)).alloc (.cells #[] 3)).drew.heap.size = W0.heap.size + 1 + 1 from ⟨heap_alloc2_old W0 _ _, heap_alloc2_new W0 _ _, by show ((W0.alloc _).alloc _).heap.size = _; simp⟩)
 have XB := hid (show ∀ k, (Value.slice b D.length d).ownBlock = some k → k < W0.heap.size from fun k hk => (Ints_lt X2.out k hk).2)
 have q0 := LPD.out.c 0 rfl
 have q1 := LPD.out.c 1 rfl
 have q2 := LPD.out.c 2 rfl
 go_region_held3 (fun w' => w'.cell? ⟨w.heap.size, 0, none⟩ = some (.bool s) ∧ w'.cell? ⟨w.heap.size, 1, none⟩ = some (.slice a A.length c) ∧ w'.cell? ⟨w.heap.size, 2, none⟩ = some (.slice b D.length d)) (first | exact ⟨q0, q1, q2⟩ | exact ⟨LPE.out.c 0 rfl, LPE.out.c 1 rfl, LPE.out.c 2 rfl⟩ | exact ⟨(LP.out.new1).c 0 rfl, (LP.out.new1).c 1 rfl, (LP.out.new1).c 2 rfl⟩ | exact ⟨(LPF.out).c 0 rfl, (LPF.out).c 1 rfl, (LPF.out).c 2 rfl⟩ | exact ⟨(cell_set3 (by omega)).trans q0, (cell_set3 (by omega)).trans q1, (cell_set3 (by omega)).trans q2⟩ | exact ⟨LPF.out.c 0 rfl, LPF.out.c 1 rfl, LPF.out.c 2 rfl⟩ | go_keep) (first | (refine step_append_int (by rfl) _ _ (by rfl) (W0.alloc (.cells #[] 3)).drew W0.heap.size b1 W0.heap.size (.slice a A.length c) A (by rfl) (Ints_lit HE.out.1 (Nat.le_refl _)) (by have := HE.out.2; omega) (by rfl) X1E.out hA ?_; intro v1 w1 i1 o1 hat1; have LR := hid (LRE.out.apart o1 (by omega)); have LP := hid (LPE.out.apart o1 (by omega)); have X2 := hid (Ints_apart X2E.out o1 (fun e => by have := XB.out _ e; omega)); have B := hid (BE.out.trans (Only_below o1 (by omega) BE.out.size)); have hs1 := B.out.size; have I1 := hid i1; have hk1 := hid hat1; have ht1 := LR.out.lt; have hz1 := o1.size; have hcase : w1.heap.size > W0.heap.size := (by have := HE.out.2; omega); have q0 := LP.out.c 0 rfl; have q1 := LP.out.c 1 rfl; have q2 := LP.out.c 2 rfl; obtain ⟨a1, c1, rfl, -⟩ := Ints_form i1; clear i1 o1 hat1) | (refine step_append_int (by rfl) _ _ (by rfl) ((W0.alloc (.cells #[] 3)).alloc (.cells #[] 3)).drew W0.heap.size b1 W0.heap.size (.slice a A.length c) A (by rfl) (Ints_lit HF.out.1 (Nat.le_refl _)) (by have := HF.out.2.2; omega) (by rfl) X1F.out hA ?_; intro v1 w1 i1 o1 hat1; have LR := hid (LRF.out.apart o1 (by omega)); have LP := hid (LPF.out.apart o1 (by omega)); have X2 := hid (Ints_apart X2F.out o1 (fun e => by have := XB.out _ e; omega)); have B := hid (BF.out.trans (Only_below o1 (by omega) BF.out.size)); have hs1 := B.out.size; have I1 := hid i1; have hk1 := hid hat1; have ht1 := LR.out.lt; have hz1 := o1.size; have HG := hid ((o1.block (W0.heap.size + 1) (fun hs => by have := HF.out.2.2; omega)).trans HF.out.2.1); have hg1 : W0.heap.size + 1 < w1.heap.size := (by have := HF.out.2.2; omega); have hn1 := hid (show ∀ k, v1.ownBlock = some k → k ≠ W0.heap.size + 1 from fun k hk => (by have := HF.out.2.2; rcases hat1 with e | e <;> (rw [e] at hk; cases hk; omega))); have q0 := LP.out.c 0 rfl; have q1 := LP.out.c 1 rfl; have q2 := LP.out.c 2 rfl; obtain ⟨a1, c1, rfl, -⟩ := Ints_form i1; clear i1 o1 hat1) | (refine step_append_int (by rfl) _ _ (by rfl) ((W0.alloc (.cells #[] 3)).alloc (.cells #[] 3)).drew (W0.heap.size + 1) b1 W0.heap.size (.slice a A.length c) A (by rfl) (Ints_lit HF.out.2.1 (by omega)) (by have := HF.out.2.2; omega) (by rfl) X1F.out hA ?_; intro v1 w1 i1 o1 hat1; have LR := hid (LRF.out.apart o1 (by omega)); have LP := hid (LPF.out.apart o1 (by omega)); have X2 := hid (Ints_apart X2F.out o1 (fun e => by have := XB.out _ e; omega)); have B := hid (BF.out.trans (Only_below o1 (by omega) BF.out.size)); have hs1 := B.out.size; have I1 := hid i1; have hk1 := hid hat1; have ht1 := LR.out.lt; have hz1 := o1.size; have HG := hid ((o1.block W0.heap.size (fun hs => by have := HF.out.2.2; omega)).trans HF.out.1); have hg1 : W0.heap.size + 1 < w1.heap.size := (by have := HF.out.2.2; omega); have hn1 := hid (show ∀ k, v1.ownBlock = some k → k ≠ W0.heap.size from fun k hk => (by have := HF.out.2.2; rcases hat1 with e | e <;> (rw [e] at hk; cases hk; omega))); have q0 := LP.out.c 0 rfl; have q1 := LP.out.c 1 rfl; have q2 := LP.out.c 2 rfl; obtain ⟨a1, c1, rfl, -⟩ := Ints_form i1; clear i1 o1 hat1) | (refine step_append_int (by rfl) _ _ (by rfl) (w1.alloc (.cells #[] 3)) w1.heap.size b2 w1.heap.size (.slice b D.length d) D (by rfl) (Ints_lit0 rfl) (by simp) (by rfl) (Ints_old X2.out (below_new' (o := .cells #[] 3))) hD ?_; intro v9 w9 i9 o9 hat; clear hat; have LR := hid ((LR.out.new1 (o := .cells #[] 3)).apart o9 (by omega)); have LP := hid ((LP.out.new1 (o := .cells #[] 3)).apart o9 (by omega)); have I1 := hid (Ints_base (Ints_apart (Ints_old I1.out (below_new' (o := .cells #[] 3))) o9 (fun e => by have := (Ints_lt I1.out _ e).2; omega)) hs0); have B := hid ((B.out.alloc hs1 (.cells #[] 3)).trans (Only_below o9 hs1 (by simp; omega))); have I2 := hid (Ints_base i9 hs1); have q0 := LP.out.c 0 rfl; have q1 := LP.out.c 1 rfl; have q2 := LP.out.c 2 rfl; have f0 := LR.out.f 0; have f1 := LR.out.f 1; have f2 := LR.out.f 2; have p0 := LR.out.c 0 rfl; have p1 := LR.out.c 1 rfl; have p2 := LR.out.c 2 rfl; have R := hid (OwnS_out (o := o) (s := s) (N := w.heap.size + 1) (w := w) hE.out.1 hE.out.2.1 hE.out.2.2 (by omega) LR.out (by decide) (Nat.le_refl _) (Nat.le_refl _) I1.out I2.out B.out); obtain ⟨a2, c2, rfl, -⟩ := Ints_form i9; clear i9 o9) | (refine step_append_int (by rfl) _ _ (by rfl) w1 (W0.heap.size + 1) b2 W0.heap.size (.slice b D.length d) D (by rfl) (Ints_lit HG.out (by omega)) (by omega) (by rfl) X2.out hD ?_; intro v9 w9 i9 o9 hat; clear hat; have LR := hid (LR.out.apart o9 (by omega)); have LP := hid (LP.out.apart o9 (by omega)); have I1 := hid (Ints_base (Ints_apart I1.out o9 (fun e => hn1.out _ e rfl)) hs0); have B := hid (B.out.trans (Only_below o9 (by omega) hs1)); have I2 := hid (Ints_base i9 hs0); have q0 := LP.out.c 0 rfl; have q1 := LP.out.c 1 rfl; have q2 := LP.out.c 2 rfl; have f0 := LR.out.f 0; have f1 := LR.out.f 1; have f2 := LR.out.f 2; have p0 := LR.out.c 0 rfl; have p1 := LR.out.c 1 rfl; have p2 := LR.out.c 2 rfl; have R := hid (OwnS_out (o := o) (s := s) (N := w.heap.size + 1) (w := w) hE.out.1 hE.out.2.1 hE.out.2.2 (by omega) LR.out (by decide) (Nat.le_refl _) (Nat.le_refl _) I1.out I2.out B.out); obtain ⟨a2, c2, rfl, -⟩ := Ints_form i9; clear i9 o9) | (refine step_append_int (by rfl) _ _ (by rfl) w1 W0.heap.size b2 W0.heap.size (.slice b D.length d) D (by rfl) (Ints_lit HG.out (by omega)) (by omega) (by rfl) X2.out hD ?_; intro v9 w9 i9 o9 hat; clear hat; have LR := hid (LR.out.apart o9 (by omega)); have LP := hid (LP.out.apart o9 (by omega)); have I1 := hid (Ints_base (Ints_apart I1.out o9 (fun e => hn1.out _ e rfl)) hs0); have B := hid (B.out.trans (Only_below o9 (by omega) hs1)); have I2 := hid (Ints_base i9 hs0); have q0 := LP.out.c 0 rfl; have q1 := LP.out.c 1 rfl; have q2 := LP.out.c 2 rfl; have f0 := LR.out.f 0; have f1 := LR.out.f 1; have f2 := LR.out.f 2; have p0 := LR.out.c 0 rfl; have p1 := LR.out.c 1 rfl; have p2 := LR.out.c 2 rfl; have R := hid (OwnS_out (o := o) (s := s) (N := w.heap.size + 1) (w := w) hE.out.1 hE.out.2.1 hE.out.2.2 (by omega) LR.out (by decide) (Nat.le_refl _) (Nat.le_refl _) I1.out I2.out B.out); obtain ⟨a2, c2, rfl, -⟩ := Ints_form i9; clear i9 o9))
 all_goals
  try clear q0 q1 q2
  go_wp2
  exact bodyPost_ret (v := .agg #[.bool s, .slice a1 _ c1, .slice a2 _ c2]) (by simp [results, Tryz.results189, go_sem, p0, p1, p2]) rfl R.out
end Go.Proofs.YthkehmnodcmlcaaGreat
namespace Go.Proofs.YthkehmnodcmlcaaGreat
open Go.RowKit
open Go.Lib (hid)
def LaidZ (T : TypeId) (W : World) (z : Bool) (R : List Int) (sl : Value) (wx : World) : Prop := ∃ g a c, sl = .pointer (some ⟨g, 0, none⟩) ∧ LocA T wx g #[.bool z, .slice a R.length c] ∧ Ints wx W.heap.size (.slice a R.length c) R ∧ W.heap.size ≤ g ∧ Below W.heap.size W wx
theorem LaidZ_a {T : TypeId} {W wf : World} {z : Bool} {R : List Int} {a : Option Addr} {c B : Nat} (hi : Ints wf B (.slice a R.length c) R) (hB : W.heap.size ≤ B) (hb : Below W.heap.size W wf) :
  LaidZ T W z R (.pointer (some ⟨wf.heap.size, 0, none⟩)) (wf.alloc (.cells #[.bool z, .slice a R.length c] T)) :=
 ⟨wf.heap.size, a, c, rfl, LocA.new, Ints_base (addPre hi) hB, hb.size, hb.alloc hb.size _⟩
theorem LaidZ_b {T : TypeId} {W wf : World} {z : Bool} {R : List Int} {a : Option Addr} {c B N : Nat} (hT : T ≠ 3) (hL : LocA T wf N #[.bool false, .slice none 0 0]) (hN : W.heap.size ≤ N) (hB : W.heap.size ≤ B) (hi : Ints wf B (.slice a R.length c) R) (hb : Below W.heap.size W wf) :
  LaidZ T W z R (.pointer (some ⟨N, 0, none⟩)) ((wf.setCell ⟨N, 0, none⟩ (.bool z)).setCell ⟨N, 1, none⟩ (.slice a R.length c)) := by
 have hne := hL.ne hT hi
 refine ⟨N, a, c, rfl, ?_, Ints_base (Ints_set (Ints_set hi hne) hne) hB, hN, (hb.setCell hN _).setCell hN _⟩
 unfold LocA at hL ⊢
 simp [World.setCell, Array.getElem?_modify, hL]
theorem l04Add_own (s t : Bool) (v u v' u' : Value) (x y : Rat) (w : World) (h : RatX w s v u x) (h' : RatX w t v' u' y) :
  Calls Tryz.prog 129 #[.agg #[.bool s, v, u], .agg #[.bool t, v', u']] w (OwnS (addF x y) w) := by
 obtain ⟨A, D, r1, k1, n1, d1, f1⟩ := h
 obtain ⟨A', D', r2, k2, n2, d2, f2⟩ := h'
 obtain ⟨a, c, b, d, rfl, rfl⟩ := r1.form
 obtain ⟨a', c', b', d', rfl, rfl⟩ := r2.form
 obtain ⟨b1, i1⟩ := r1.a
 obtain ⟨b2, i2⟩ := r1.d
 obtain ⟨b3, i3⟩ := r2.a
 obtain ⟨b4, i4⟩ := r2.d
 obtain ⟨o1, o2, -, -, -, -⟩ := rok_iff.1 k1
 obtain ⟨o3, o4, -, -, -, -⟩ := rok_iff.1 k2
 have nA := (bok_iff.1 o1).1
 have nA' := (bok_iff.1 o3).1
 clear r1 r2
 obtain ⟨q1, q2⟩ := rok_lt k1
 obtain ⟨q3, q4⟩ := rok_lt k2
 obtain ⟨o, ho⟩ : ∃ o, o = addF x y := ⟨_, rfl⟩
 have HO := hid ho
 rw [← ho]
 clear ho
 have hD : D.length ≤ 1073741824 := by have := nok_len o2; omega
 have hD' : D'.length ≤ 1073741824 := by have := nok_len o4; omega
 have KO1 := hid (fun (W : World) (h : Ints W b2 (.slice b D.length d) D) => l04One_own _ D hD b2 W h)
 have KO2 := hid (fun (W : World) (h : Ints W b4 (.slice b' D'.length d') D') => l04One_own _ D' hD' b4 W h)
 obtain ⟨gs, hgs⟩ : ∃ g, g = gzs (qn o) := ⟨_, rfl⟩
 have HGS := hid hgs
 clear hgs
 have B := hid (show Below w.heap.size w (((w.alloc (.cells #[.bool s, .slice a A.length c, .slice b D.length d] 37)).alloc (.cells #[.bool t, .slice a' A'.length c', .slice b' D'.length d'] 37)).alloc (.cells #[.bool false, .slice none 0 0, .slice none 0 0] 37)) from (((Below.refl _ _).alloc (Nat.le_refl _) _).alloc (by simp) _).alloc (by simp; try omega) _)
 have LP := hid (show LocA 37 (((w.alloc (.cells #[.bool s, .slice a A.length c, .slice b D.length d] 37)).alloc (.cells #[.bool t, .slice a' A'.length c', .slice b' D'.length d'] 37)).alloc (.cells #[.bool false, .slice none 0 0, .slice none 0 0] 37)) (w.heap.size) #[.bool s, .slice a A.length c, .slice b D.length d] from (LocA.at (by simp)).new1.new1)
 have LQ := hid (show LocA 37 (((w.alloc (.cells #[.bool s, .slice a A.length c, .slice b D.length d] 37)).alloc (.cells #[.bool t, .slice a' A'.length c', .slice b' D'.length d'] 37)).alloc (.cells #[.bool false, .slice none 0 0, .slice none 0 0] 37)) (w.heap.size + 1) #[.bool t, .slice a' A'.length c', .slice b' D'.length d'] from (LocA.at (by simp)).new1)
 have LR := hid (show LocA 37 (((w.alloc (.cells #[.bool s, .slice a A.length c, .slice b D.length d] 37)).alloc (.cells #[.bool t, .slice a' A'.length c', .slice b' D'.length d'] 37)).alloc (.cells #[.bool false, .slice none 0 0, .slice none 0 0] 37)) (w.heap.size + 1 + 1) #[.bool false, .slice none 0 0, .slice none 0 0] from (LocA.at (by simp)))
 have I1 := hid (Ints_old i1 B.out)
 have I2 := hid (Ints_old i2 B.out)
 have I3 := hid (Ints_old i3 B.out)
 have I4 := hid (Ints_old i4 B.out)
 clear i1 i2 i3 i4
 generalize hW : ((w.alloc (.cells #[.bool s, .slice a A.length c, .slice b D.length d] 37)).alloc (.cells #[.bool t, .slice a' A'.length c', .slice b' D'.length d'] 37)).alloc (.cells #[.bool false, .slice none 0 0, .slice none 0 0] 37) = W0 at B LP LQ LR I1 I2 I3 I4
 have HW := hid hW
 clear hW
 have hs0 := B.out.size
 by_cases h1 : D = [1] ∧ D' = [1]
 ·obtain ⟨e1, e2⟩ := h1
  rw [decide_eq_true e1] at KO1
  rw [decide_eq_true e2] at KO2
  have hE := hid (show o = mkFr (sval s (val A) + sval t (val A')) 1 by
   rw [HO.out, ← mkFr_add, n1, n2, d1, d2, e1, e2, show val [1] = 1 by decide]
   simp only [Int.mul_one])
  have KA := hid (fun (W : World) (h1 : Ints W b1 (.slice a A.length c) A) (h2 : Ints W b3 (.slice a' A'.length c') A') => l03Add_own s t _ _ A A' nA nA' b1 b3 W h1 h2)
  have e3 : ((sval s (val A) + sval t (val A')).natAbs : Int) < pw 60 := by
   have := sval_abs (s := s) q1.1
   have := sval_abs (s := t) q3.1
   have h2 : pw 24 + pw 24 < pw 60 := by decide
   omega
  obtain ⟨Z, hZ⟩ : ∃ Z, Z = sval s (val A) + sval t (val A') := ⟨_, rfl⟩
  rw [← hZ] at KA hE e3
  have KL := hid (fun (W : World) (x y : Value) (b1 b2 : Nat) (h1 : Ints W b1 x (gzl Z)) (h2 : Ints W b2 y (rep (1 : Int).toNat)) => low_z h1 h2 e3 (by decide) (by decide))
  rw [← hE.out, show rep (1 : Int).toNat = [1] from rep_one.2 rfl] at KL
  obtain ⟨gz, hgz⟩ : ∃ z, z = gzs Z := ⟨_, rfl⟩
  obtain ⟨lz, hlz⟩ : ∃ z, z = gzl Z := ⟨_, rfl⟩
  rw [← hgz] at KA KL
  rw [← hlz] at KA KL
  clear e1 e2 hE hZ e3 hgz hlz q1 q2 q3 q4 k1 k2 n1 n2 d1 d2 f1 f2 o1 o2 o3 o4 nA nA' HO
  go_enter Tryz.func129, Tryz.ntmps129
  have q0 := LP.out.c 2 rfl
  go_wp2_with fail
  rw [HW.out]
  (with_reducible refine (KO1.out _ I2.out).mono ?_)
  clear q0
  rintro e w0x ⟨rfl, rfl⟩
  have q0 := LQ.out.c 2 rfl
  go_wp2_with fail
  (with_reducible refine (KO2.out _ I4.out).mono ?_)
  clear q0
  rintro e w0x ⟨rfl, rfl⟩
  have q0 := LP.out.c 0 rfl
  have q1 := LP.out.c 1 rfl
  have q2 := LQ.out.c 0 rfl
  have q3 := LQ.out.c 1 rfl
  go_wp2_with fail
  (with_reducible refine (KA.out _ I1.out I3.out).mono ?_)
  clear q0 q1 q2 q3
  rintro e w1 ⟨r, rfl, i1, b1⟩
  have LP := hid (LP.out.old b1)
  have LQ := hid (LQ.out.old b1)
  have LR := hid (LR.out.old b1)
  have I1 := hid (Ints_old I1.out b1)
  have I2 := hid (Ints_old I2.out b1)
  have I3 := hid (Ints_old I3.out b1)
  have I4 := hid (Ints_old I4.out b1)
  have B := hid (B.out.trans (b1.mono B.out.size))
  have J1 := hid i1
  obtain ⟨a1, c1, rfl, -⟩ := Ints_form i1
  clear i1 b1
  have hs1 := B.out.size
  have BB := hid (show Below w1.heap.size w1 ((w1.alloc (.cells #[.bool gz, .slice a1 lz.length c1] 35)).alloc (.cells #[.int .i64 1] 3)) from below_new2)
  have J1 := hid (Ints_old J1.out BB.out)
  have LR := hid (LR.out.old BB.out)
  have LV := hid (show LocA 35 ((w1.alloc (.cells #[.bool gz, .slice a1 lz.length c1] 35)).alloc (.cells #[.int .i64 1] 3)) w1.heap.size #[.bool gz, .slice a1 lz.length c1] from (LocA.new).new1)
  have J2 := hid (show Ints ((w1.alloc (.cells #[.bool gz, .slice a1 lz.length c1] 35)).alloc (.cells #[.int .i64 1] 3)) w1.heap.size (.slice (some ⟨w1.heap.size + 1, 0, none⟩) 1 1) [1] from by have := Ints_lit1 (w := w1.alloc (.cells #[.bool gz, .slice a1 lz.length c1] 35)) (B := w1.heap.size) 1 (by simp); simpa using this)
  have B := hid (B.out.trans (BB.out.mono hs1))
  have hs2 := B.out.size
  have KL2 := hid (KL.out _ _ _ _ _ J1.out J2.out)
  go_wp2_with fail
  (with_reducible refine (KL2.out).mono ?_)
  rintro e w2 ⟨v1, u1, rfl, j1, j2, b1⟩
  have LR := hid (LR.out.old b1)
  have B := hid (B.out.trans (b1.mono B.out.size))
  rw [← HGS.out]
  have f0 := LR.out.f 0
  have f1 := LR.out.f 1
  have f2 := LR.out.f 2
  have p0 := LR.out.c 0 rfl
  have p1 := LR.out.c 1 rfl
  have p2 := LR.out.c 2 rfl
  have R := hid (OwnS_out (o := o) (N := w.heap.size + 1 + 1) HGS.out rfl rfl (by omega) LR.out (by decide) hs2 hs2 j1 j2 B.out)
  obtain ⟨e1, d1, rfl, -⟩ := Ints_form j1
  obtain ⟨e2, d2, rfl, -⟩ := Ints_form j2
  clear j1 j2 b1
  go_wp2
  exact bodyPost_ret (v := .agg #[.bool gs, .slice e1 _ d1, .slice e2 _ d2]) (by simp [results, Tryz.results129, go_sem, p0, p1, p2]) rfl R.out
 have hE := hid (show o = mkFr (sval s (val A * val D') + sval t (val A' * val D)) (val D * val D') by
  rw [HO.out, ← mkFr_add, n1, n2, d1, d2]
  congr 1
  cases s <;> cases t <;> simp [sval, Int.neg_mul])
 have KM1 := hid (fun (W : World) (h1 : Ints W b1 (.slice a A.length c) A) (h2 : Ints W b4 (.slice b' D'.length d') D') => mul_p h1 h2 nA o4)
 have KM2 := hid (fun (W : World) (h1 : Ints W b3 (.slice a' A'.length c') A') (h2 : Ints W b2 (.slice b D.length d) D) => mul_p h1 h2 nA' o2)
 have KM3 := hid (fun (W : World) (h1 : Ints W b2 (.slice b D.length d) D) (h2 : Ints W b4 (.slice b' D'.length d') D') => mul_p h1 h2 o2 o4)
 have e1 := mul48 q1 q4
 have e2 := mul48 q3 q2
 have e3 := mul48 q2 q4
 have m1 : val A * val D' < pw 48 := by have := (mul_bd q1.1 q1.2 q4.1 q4.2).2; rw [show pw 24 * pw 24 = pw 48 by decide] at this; exact this
 have m2 : val A' * val D < pw 48 := by have := (mul_bd q3.1 q3.2 q2.1 q2.2).2; rw [show pw 24 * pw 24 = pw 48 by decide] at this; exact this
 have p48 := pw48
 obtain ⟨X, hX⟩ : ∃ X, X = val A * val D' := ⟨_, rfl⟩
 obtain ⟨Y, hY⟩ : ∃ Y, Y = val A' * val D := ⟨_, rfl⟩
 obtain ⟨V, hV⟩ : ∃ V, V = val D * val D' := ⟨_, rfl⟩
 rw [← hX] at KM1 hE e1 m1
 rw [← hY] at KM2 hE e2 m2
 rw [← hV] at KM3 hE e3
 have KK1 := hid (fun (W : World) (x : Value) (b : Nat) (h : Ints W b x (rep X.toNat)) => make_z (s := s) h e1.1 e1.2)
 have KK2 := hid (fun (W : World) (x : Value) (b : Nat) (h : Ints W b x (rep Y.toNat)) => make_z (s := t) h e2.1 e2.2)
 have g1 := sval_abs (s := s) e1.1
 have g2 := sval_abs (s := t) e2.1
 have KA := hid (fun (W : World) (x y : Value) (b1 b2 : Nat) (h1 : Ints W b1 x (gzl (sval s X))) (h2 : Ints W b2 y (gzl (sval t Y))) => sadd_z h1 h2 (by omega) (by omega))
 have gz : ((sval s X + sval t Y).natAbs : Int) < pw 60 := by omega
 have KL := hid (fun (W : World) (x y : Value) (b1 b2 : Nat) (h1 : Ints W b1 x (gzl (sval s X + sval t Y))) (h2 : Ints W b2 y (rep V.toNat)) => low_z h1 h2 gz e3.1 e3.2)
 rw [← hE.out] at KL
 unfold OwnZ at KK1 KK2 KA
 obtain ⟨sx, hsx⟩ : ∃ z, z = gzs (sval s X) := ⟨_, rfl⟩
 obtain ⟨sy, hsy⟩ : ∃ z, z = gzs (sval t Y) := ⟨_, rfl⟩
 obtain ⟨sz, hsz⟩ : ∃ z, z = gzs (sval s X + sval t Y) := ⟨_, rfl⟩
 obtain ⟨lx, hlx⟩ : ∃ z, z = gzl (sval s X) := ⟨_, rfl⟩
 obtain ⟨ly, hly⟩ : ∃ z, z = gzl (sval t Y) := ⟨_, rfl⟩
 obtain ⟨lz, hlz⟩ : ∃ z, z = gzl (sval s X + sval t Y) := ⟨_, rfl⟩
 rw [← hsz, ← hlz] at KA KL
 rw [← hsx, ← hlx] at KK1 KA
 rw [← hsy, ← hly] at KK2 KA
 obtain ⟨L1, hL1⟩ : ∃ L, L = rep X.toNat := ⟨_, rfl⟩
 obtain ⟨L2, hL2⟩ : ∃ L, L = rep Y.toNat := ⟨_, rfl⟩
 obtain ⟨L3, hL3⟩ : ∃ L, L = rep V.toNat := ⟨_, rfl⟩
 rw [← hL1] at KM1 KK1
 rw [← hL2] at KM2 KK2
 rw [← hL3] at KM3 KL
 obtain ⟨p1, hp1⟩ : ∃ p, p = decide (D = [1]) := ⟨_, rfl⟩
 obtain ⟨p2, hp2⟩ : ∃ p, p = decide (D' = [1]) := ⟨_, rfl⟩
 have hpp : (p1 && p2) = false := by
  rw [hp1, hp2]
  cases hh : decide (D = [1]) && decide (D' = [1]) with
  | false => rfl
  | true => exact absurd (by simpa using hh) h1
 rw [← hp1] at KO1
 rw [← hp2] at KO2
 clear hE hX hY hV e1 e2 e3 m1 m2 p48 g1 g2 gz q1 q2 q3 q4 k1 k2 n1 n2 d1 d2 f1 f2 o1 o2 o3 o4 nA nA' hsx hsy hsz hlx hly hlz hL1 hL2 hL3 HO hp1 hp2 h1
 cases p1 with
 |false =>
  go_enter Tryz.func129, Tryz.ntmps129
  have q0 := LP.out.c 2 rfl
  go_wp2_with fail
  rw [HW.out]
  (with_reducible refine (KO1.out _ I2.out).mono ?_)
  clear q0
  rintro e w0x ⟨rfl, rfl⟩
  go_upto_region 4 with fail
  go_cut [6] (fun sl wx => LaidZ 35 W0 sx lx sl wx)
  case first =>
   have LPD := hid (LP.out.old (Below_drew1 (Below.refl _ _)))
   have LPE := hid (LP.out.old (Below_drew1 (below_new' (o := .cells #[.bool false, .slice none 0 0] 35))))
   have LQD := hid (LQ.out.old (Below_drew1 (Below.refl _ _)))
   have LQE := hid (LQ.out.old (Below_drew1 (below_new' (o := .cells #[.bool false, .slice none 0 0] 35))))
   have LRD := hid (LR.out.old (Below_drew1 (Below.refl _ _)))
   have LRE := hid (LR.out.old (Below_drew1 (below_new' (o := .cells #[.bool false, .slice none 0 0] 35))))
   have I1D := hid (Ints_old I1.out (Below_drew1 (Below.refl _ _)))
   have I1E := hid (Ints_old I1.out (Below_drew1 (below_new' (o := .cells #[.bool false, .slice none 0 0] 35))))
   have I2D := hid (Ints_old I2.out (Below_drew1 (Below.refl _ _)))
   have I2E := hid (Ints_old I2.out (Below_drew1 (below_new' (o := .cells #[.bool false, .slice none 0 0] 35))))
   have I3D := hid (Ints_old I3.out (Below_drew1 (Below.refl _ _)))
   have I3E := hid (Ints_old I3.out (Below_drew1 (below_new' (o := .cells #[.bool false, .slice none 0 0] 35))))
   have I4D := hid (Ints_old I4.out (Below_drew1 (Below.refl _ _)))
   have I4E := hid (Ints_old I4.out (Below_drew1 (below_new' (o := .cells #[.bool false, .slice none 0 0] 35))))
   have CD := hid (show Below W0.heap.size W0 W0.drew from Below_drew1 (Below.refl _ _))
   have CE := hid (show Below W0.heap.size W0 (W0.alloc (.cells #[.bool false, .slice none 0 0] 35)).drew from Below_drew1 below_new')
   have NE := hid (show LocA 35 (W0.alloc (.cells #[.bool false, .slice none 0 0] 35)).drew W0.heap.size #[.bool false, .slice none 0 0] from LocA.new)
   have hNW : W0.heap.size ≤ W0.heap.size := Nat.le_refl _
   have hLT1 := LP.out.lt
   have hLT2 := LQ.out.lt
   have q0 := LPD.out.c 0 rfl
   have q1 := LPD.out.c 1 rfl
   have q2 := LQD.out.c 2 rfl
   go_region_held3 (fun w' => w'.cell? ⟨w.heap.size, 0, none⟩ = some (.bool s) ∧ w'.cell? ⟨w.heap.size, 1, none⟩ = some (.slice a A.length c) ∧ w'.cell? ⟨w.heap.size + 1, 2, none⟩ = some (.slice b' D'.length d')) (first | exact ⟨q0, q1, q2⟩ | exact ⟨LPE.out.c 0 rfl, LPE.out.c 1 rfl, LQE.out.c 2 rfl⟩ | exact ⟨(LPC.out.new1).c 0 rfl, (LPC.out.new1).c 1 rfl, (LQC.out.new1).c 2 rfl⟩ | exact ⟨(cell_set2 (by omega)).trans q0, (cell_set2 (by omega)).trans q1, (cell_set2 (by omega)).trans q2⟩ | go_keep) (first | (go_at_call 160; (with_reducible refine (KM1.out _ I1D.out I4D.out).mono ?_); rintro e wm ⟨r, rfl, i1, b1⟩; have CC := hid (CD.out.trans (b1.mono CD.out.size)); have LPC := hid (LPD.out.old b1); have LQC := hid (LQD.out.old b1); have M1 := hid i1; have q0 := LPC.out.c 0 rfl; have q1 := LPC.out.c 1 rfl; have q2 := LQC.out.c 2 rfl; obtain ⟨am, cm, rfl, -⟩ := Ints_form i1; clear i1 b1) | (go_at_call 160; (with_reducible refine (KM1.out _ I1E.out I4E.out).mono ?_); rintro e wm ⟨r, rfl, i1, b1⟩; have CC := hid (CE.out.trans (b1.mono CE.out.size)); have NZ := hid (NE.out.old b1); have LPC := hid (LPE.out.old b1); have LQC := hid (LQE.out.old b1); have M1 := hid i1; have q0 := LPC.out.c 0 rfl; have q1 := LPC.out.c 1 rfl; have q2 := LQC.out.c 2 rfl; obtain ⟨am, cm, rfl, -⟩ := Ints_form i1; clear i1 b1) | (go_at_call 170; (with_reducible refine (KK1.out _ _ _ M1.out).mono ?_); rintro e wf ⟨r, rfl, i1, b1⟩; (try (have hNZl := NZ.out.lt; have NZ := hid (NZ.out.old b1); have f0 := NZ.out.f 0; have f1 := NZ.out.f 1; have p0 := NZ.out.c 0 rfl; have p1x := NZ.out.c 1 rfl; skip)); have hsB := CC.out.size; have CC := hid (CC.out.trans (b1.mono CC.out.size)); have LPC := hid (LPC.out.old b1); have LQC := hid (LQC.out.old b1); have IR := hid i1; have q0 := LPC.out.c 0 rfl; have q1 := LPC.out.c 1 rfl; have q2 := LQC.out.c 2 rfl; obtain ⟨af, cf, rfl, -⟩ := Ints_form i1; clear i1 b1) | (go_at_call 170; (with_reducible refine (KK1.out _ _ _ (addPre (o := .cells #[.bool false, .slice none 0 0] 35) M1.out)).mono ?_); rintro e wf ⟨r, rfl, i1, b1⟩; have hNZ : W0.heap.size ≤ wm.heap.size := CC.out.size; have NZ := hid (LocA.new (w := wm) (T := 35) (cs := #[.bool false, .slice none 0 0])); have LPC := hid (LPC.out.new1 (o := .cells #[.bool false, .slice none 0 0] 35)); have LQC := hid (LQC.out.new1 (o := .cells #[.bool false, .slice none 0 0] 35)); have CC := hid (CC.out.alloc CC.out.size (.cells #[.bool false, .slice none 0 0] 35)); have hNZl := NZ.out.lt; have NZ := hid (NZ.out.old b1); have f0 := NZ.out.f 0; have f1 := NZ.out.f 1; have p0 := NZ.out.c 0 rfl; have p1x := NZ.out.c 1 rfl; have hsB := CC.out.size; have CC := hid (CC.out.trans (b1.mono CC.out.size)); have LPC := hid (LPC.out.old b1); have LQC := hid (LQC.out.old b1); have IR := hid i1; have q0 := LPC.out.c 0 rfl; have q1 := LPC.out.c 1 rfl; have q2 := LQC.out.c 2 rfl; obtain ⟨af, cf, rfl, -⟩ := Ints_form i1; clear i1 b1))
   all_goals
    go_wp2_with fail
    go_meet
    first | exact LaidZ_a IR.out hsB CC.out | exact LaidZ_b (by decide) NZ.out (by omega) hsB IR.out CC.out
  case rest =>
   generalize wc = w1 at hcut ⊢
   obtain ⟨g1, a1, c1, rfl, hL, hI, hg, b1⟩ := hcut
   have LZA := hid hL
   have ZA := hid hI
   have hh1 := b1.size
   have LP := hid (LP.out.old b1)
   have LQ := hid (LQ.out.old b1)
   have LR := hid (LR.out.old b1)
   have I1 := hid (Ints_old I1.out b1)
   have I2 := hid (Ints_old I2.out b1)
   have I3 := hid (Ints_old I3.out b1)
   have I4 := hid (Ints_old I4.out b1)
   have B := hid (B.out.trans (b1.mono B.out.size))
   clear hL hI b1
   go_upto_region 5 with fail
   go_cut [7] (fun sl wx => LaidZ 35 w1 sy ly sl wx)
   case first =>
    have LPD := hid (LP.out.old (Below_drew1 (Below.refl _ _)))
    have LPE := hid (LP.out.old (Below_drew1 (below_new' (o := .cells #[.bool false, .slice none 0 0] 35))))
    have LQD := hid (LQ.out.old (Below_drew1 (Below.refl _ _)))
    have LQE := hid (LQ.out.old (Below_drew1 (below_new' (o := .cells #[.bool false, .slice none 0 0] 35))))
    have LRD := hid (LR.out.old (Below_drew1 (Below.refl _ _)))
    have LRE := hid (LR.out.old (Below_drew1 (below_new' (o := .cells #[.bool false, .slice none 0 0] 35))))
    have I1D := hid (Ints_old I1.out (Below_drew1 (Below.refl _ _)))
    have I1E := hid (Ints_old I1.out (Below_drew1 (below_new' (o := .cells #[.bool false, .slice none 0 0] 35))))
    have I2D := hid (Ints_old I2.out (Below_drew1 (Below.refl _ _)))
    have I2E := hid (Ints_old I2.out (Below_drew1 (below_new' (o := .cells #[.bool false, .slice none 0 0] 35))))
    have I3D := hid (Ints_old I3.out (Below_drew1 (Below.refl _ _)))
    have I3E := hid (Ints_old I3.out (Below_drew1 (below_new' (o := .cells #[.bool false, .slice none 0 0] 35))))
    have I4D := hid (Ints_old I4.out (Below_drew1 (Below.refl _ _)))
    have I4E := hid (Ints_old I4.out (Below_drew1 (below_new' (o := .cells #[.bool false, .slice none 0 0] 35))))
    have ZAD := hid (Ints_old ZA.out (Below_drew1 (Below.refl _ _)))
    have ZAE := hid (Ints_old ZA.out (Below_drew1 (below_new' (o := .cells #[.bool false, .slice none 0 0] 35))))
    have LZAD := hid (LZA.out.old (Below_drew1 (Below.refl _ _)))
    have LZAE := hid (LZA.out.old (Below_drew1 (below_new' (o := .cells #[.bool false, .slice none 0 0] 35))))
    have CD := hid (show Below w1.heap.size w1 w1.drew from Below_drew1 (Below.refl _ _))
    have CE := hid (show Below w1.heap.size w1 (w1.alloc (.cells #[.bool false, .slice none 0 0] 35)).drew from Below_drew1 below_new')
    have NE := hid (show LocA 35 (w1.alloc (.cells #[.bool false, .slice none 0 0] 35)).drew w1.heap.size #[.bool false, .slice none 0 0] from LocA.new)
    have hNW : w1.heap.size ≤ w1.heap.size := Nat.le_refl _
    have hLT1 := LP.out.lt
    have hLT2 := LQ.out.lt
    have q0 := LQD.out.c 0 rfl
    have q1 := LQD.out.c 1 rfl
    have q2 := LPD.out.c 2 rfl
    go_region_held3 (fun w' => w'.cell? ⟨w.heap.size + 1, 0, none⟩ = some (.bool t) ∧ w'.cell? ⟨w.heap.size + 1, 1, none⟩ = some (.slice a' A'.length c') ∧ w'.cell? ⟨w.heap.size, 2, none⟩ = some (.slice b D.length d)) (first | exact ⟨q0, q1, q2⟩ | exact ⟨LQE.out.c 0 rfl, LQE.out.c 1 rfl, LPE.out.c 2 rfl⟩ | exact ⟨(LQC.out.new1).c 0 rfl, (LQC.out.new1).c 1 rfl, (LPC.out.new1).c 2 rfl⟩ | exact ⟨(cell_set2 (by omega)).trans q0, (cell_set2 (by omega)).trans q1, (cell_set2 (by omega)).trans q2⟩ | go_keep) (first | (go_at_call 160; (with_reducible refine (KM2.out _ I3D.out I2D.out).mono ?_); rintro e wm ⟨r, rfl, i1, b1⟩; have CC := hid (CD.out.trans (b1.mono CD.out.size)); have LQC := hid (LQD.out.old b1); have LPC := hid (LPD.out.old b1); have M1 := hid i1; have q0 := LQC.out.c 0 rfl; have q1 := LQC.out.c 1 rfl; have q2 := LPC.out.c 2 rfl; obtain ⟨am, cm, rfl, -⟩ := Ints_form i1; clear i1 b1) | (go_at_call 160; (with_reducible refine (KM2.out _ I3E.out I2E.out).mono ?_); rintro e wm ⟨r, rfl, i1, b1⟩; have CC := hid (CE.out.trans (b1.mono CE.out.size)); have NZ := hid (NE.out.old b1); have LQC := hid (LQE.out.old b1); have LPC := hid (LPE.out.old b1); have M1 := hid i1; have q0 := LQC.out.c 0 rfl; have q1 := LQC.out.c 1 rfl; have q2 := LPC.out.c 2 rfl; obtain ⟨am, cm, rfl, -⟩ := Ints_form i1; clear i1 b1) | (go_at_call 170; (with_reducible refine (KK2.out _ _ _ M1.out).mono ?_); rintro e wf ⟨r, rfl, i1, b1⟩; (try (have hNZl := NZ.out.lt; have NZ := hid (NZ.out.old b1); have f0 := NZ.out.f 0; have f1 := NZ.out.f 1; have p0 := NZ.out.c 0 rfl; have p1x := NZ.out.c 1 rfl; skip)); have hsB := CC.out.size; have CC := hid (CC.out.trans (b1.mono CC.out.size)); have LQC := hid (LQC.out.old b1); have LPC := hid (LPC.out.old b1); have IR := hid i1; have q0 := LQC.out.c 0 rfl; have q1 := LQC.out.c 1 rfl; have q2 := LPC.out.c 2 rfl; obtain ⟨af, cf, rfl, -⟩ := Ints_form i1; clear i1 b1) | (go_at_call 170; (with_reducible refine (KK2.out _ _ _ (addPre (o := .cells #[.bool false, .slice none 0 0] 35) M1.out)).mono ?_); rintro e wf ⟨r, rfl, i1, b1⟩; have hNZ : w1.heap.size ≤ wm.heap.size := CC.out.size; have NZ := hid (LocA.new (w := wm) (T := 35) (cs := #[.bool false, .slice none 0 0])); have LQC := hid (LQC.out.new1 (o := .cells #[.bool false, .slice none 0 0] 35)); have LPC := hid (LPC.out.new1 (o := .cells #[.bool false, .slice none 0 0] 35)); have CC := hid (CC.out.alloc CC.out.size (.cells #[.bool false, .slice none 0 0] 35)); have hNZl := NZ.out.lt; have NZ := hid (NZ.out.old b1); have f0 := NZ.out.f 0; have f1 := NZ.out.f 1; have p0 := NZ.out.c 0 rfl; have p1x := NZ.out.c 1 rfl; have hsB := CC.out.size; have CC := hid (CC.out.trans (b1.mono CC.out.size)); have LQC := hid (LQC.out.old b1); have LPC := hid (LPC.out.old b1); have IR := hid i1; have q0 := LQC.out.c 0 rfl; have q1 := LQC.out.c 1 rfl; have q2 := LPC.out.c 2 rfl; obtain ⟨af, cf, rfl, -⟩ := Ints_form i1; clear i1 b1))
    all_goals
     go_wp2_with fail
     go_meet
     first | exact LaidZ_a IR.out hsB CC.out | exact LaidZ_b (by decide) NZ.out (by omega) hsB IR.out CC.out
   case rest =>
    generalize wc = w2 at hcut ⊢
    obtain ⟨g2, a2, c2, rfl, hL, hI, hg, b1⟩ := hcut
    have LZB := hid hL
    have ZB := hid hI
    have hh2 := b1.size
    have LP := hid (LP.out.old b1)
    have LQ := hid (LQ.out.old b1)
    have LR := hid (LR.out.old b1)
    have I1 := hid (Ints_old I1.out b1)
    have I2 := hid (Ints_old I2.out b1)
    have I3 := hid (Ints_old I3.out b1)
    have I4 := hid (Ints_old I4.out b1)
    have ZA := hid (Ints_old ZA.out b1)
    have LZA := hid (LZA.out.old b1)
    have B := hid (B.out.trans (b1.mono B.out.size))
    clear hL hI b1
    have q0 := LZA.out.c 0 rfl
    have q1 := LZA.out.c 1 rfl
    have q2 := LZB.out.c 0 rfl
    have q3 := LZB.out.c 1 rfl
    go_wp2_with fail
    (with_reducible refine (KA.out _ _ _ _ _ ZA.out ZB.out).mono ?_)
    clear q0 q1 q2 q3
    rintro e w3 ⟨r, rfl, i1, b1⟩
    have LP := hid (LP.out.old b1)
    have LQ := hid (LQ.out.old b1)
    have LR := hid (LR.out.old b1)
    have I1 := hid (Ints_old I1.out b1)
    have I2 := hid (Ints_old I2.out b1)
    have I3 := hid (Ints_old I3.out b1)
    have I4 := hid (Ints_old I4.out b1)
    have ZA := hid (Ints_old ZA.out b1)
    have LZA := hid (LZA.out.old b1)
    have ZB := hid (Ints_old ZB.out b1)
    have LZB := hid (LZB.out.old b1)
    have B := hid (B.out.trans (b1.mono B.out.size))
    have N1 := hid i1
    obtain ⟨an, cn, rfl, -⟩ := Ints_form i1
    clear i1 b1
    have hs5 := B.out.size
    have hL1 := LP.out.lt
    have hL2 := LQ.out.lt
    have hL3 := LR.out.lt
    have LP := hid (LP.out.new1 (o := .cells #[.bool sz, .slice an lz.length cn] 35))
    have LQ := hid (LQ.out.new1 (o := .cells #[.bool sz, .slice an lz.length cn] 35))
    have LR := hid (LR.out.new1 (o := .cells #[.bool sz, .slice an lz.length cn] 35))
    have I2 := hid (Ints_old I2.out (below_new' (o := .cells #[.bool sz, .slice an lz.length cn] 35)))
    have I4 := hid (Ints_old I4.out (below_new' (o := .cells #[.bool sz, .slice an lz.length cn] 35)))
    have N1 := hid (Ints_old N1.out (below_new' (o := .cells #[.bool sz, .slice an lz.length cn] 35)))
    have B := hid (B.out.alloc hs5 (.cells #[.bool sz, .slice an lz.length cn] 35))
    have LN := hid (LocA.new (w := w3) (T := 35) (cs := #[.bool sz, .slice an lz.length cn]))
    have hLN := LN.out.lt
    go_wp2_with fail
    have LP := hid (LP.out.old (Below_drew1 (Below.refl _ _)))
    have LQ := hid (LQ.out.old (Below_drew1 (Below.refl _ _)))
    have LR := hid (LR.out.old (Below_drew1 (Below.refl _ _)))
    have I2 := hid (Ints_old I2.out (Below_drew1 (Below.refl _ _)))
    have I4 := hid (Ints_old I4.out (Below_drew1 (Below.refl _ _)))
    have N1 := hid (Ints_old N1.out (Below_drew1 (Below.refl _ _)))
    have LN := hid (LN.out.old (Below_drew1 (Below.refl _ _)))
    have B := hid (Below_drew1 B.out)
    have q0 := LN.out.c 0 rfl
    have q1 := LN.out.c 1 rfl
    have q2 := LP.out.c 2 rfl
    have q3 := LQ.out.c 2 rfl
    go_region_held3 (fun w' => w'.cell? ⟨w3.heap.size, 0, none⟩ = some (.bool sz) ∧ w'.cell? ⟨w3.heap.size, 1, none⟩ = some (.slice an lz.length cn) ∧ w'.cell? ⟨w.heap.size, 2, none⟩ = some (.slice b D.length d) ∧ w'.cell? ⟨w.heap.size + 1, 2, none⟩ = some (.slice b' D'.length d')) (first | exact ⟨q0, q1, q2, q3⟩ | exact ⟨(cell_set3 (by omega)).trans q0, (cell_set3 (by omega)).trans q1, (cell_set3 (by omega)).trans q2, (cell_set3 (by omega)).trans q3⟩ | go_keep) (first | (go_at_call 160; (with_reducible refine (KM3.out _ I2.out I4.out).mono ?_); rintro e w4 ⟨r, rfl, i1, b1⟩; have LP := hid (LP.out.old b1); have LQ := hid (LQ.out.old b1); have LR := hid (LR.out.old b1); have I2 := hid (Ints_old I2.out b1); have I4 := hid (Ints_old I4.out b1); have N1 := hid (Ints_old N1.out b1); have LN := hid (LN.out.old b1); have B := hid (B.out.trans (b1.mono B.out.size)); have J2 := hid i1; obtain ⟨a9, c9, rfl, -⟩ := Ints_form i1; clear i1 b1; have hs6 := B.out.size; have q0 := LN.out.c 0 rfl; have q1 := LN.out.c 1 rfl; have q2 := LP.out.c 2 rfl; have q3 := LQ.out.c 2 rfl) | (go_at_call 159; (with_reducible refine (KL.out _ _ _ _ _ N1.out J2.out).mono ?_); rintro e w5 ⟨v1, u1, rfl, j1, j2, b1⟩; have LP := hid (LP.out.old b1); have LQ := hid (LQ.out.old b1); have LR := hid (LR.out.old b1); have I2 := hid (Ints_old I2.out b1); have I4 := hid (Ints_old I4.out b1); have N1 := hid (Ints_old N1.out b1); have LN := hid (LN.out.old b1); have B := hid (B.out.trans (b1.mono B.out.size)); clear b1; have q0 := LN.out.c 0 rfl; have q1 := LN.out.c 1 rfl; have q2 := LP.out.c 2 rfl; have q3 := LQ.out.c 2 rfl; have f0 := LR.out.f 0; have f1 := LR.out.f 1; have f2 := LR.out.f 2; have p0 := LR.out.c 0 rfl; have p1 := LR.out.c 1 rfl; have p2 := LR.out.c 2 rfl; rw [← HGS.out]; have R := hid (OwnS_out (o := o) (N := w.heap.size + 1 + 1) HGS.out rfl rfl (by omega) LR.out (by decide) hs6 hs6 j1 j2 B.out); obtain ⟨e1, d1, rfl, -⟩ := Ints_form j1; obtain ⟨e2, d2, rfl, -⟩ := Ints_form j2; clear j1 j2))
    clear q0 q1 q2 q3
    go_wp2
    exact bodyPost_ret (v := .agg #[.bool gs, .slice e1 _ d1, .slice e2 _ d2]) (by simp [results, Tryz.results129, go_sem, p0, p1, p2]) rfl R.out
 | true =>
 obtain rfl : p2 = false := by simpa using hpp
 go_enter Tryz.func129, Tryz.ntmps129
 have q0 := LP.out.c 2 rfl
 go_wp2_with fail
 rw [HW.out]
 (with_reducible refine (KO1.out _ I2.out).mono ?_)
 clear q0
 rintro e w0x ⟨rfl, rfl⟩
 have q0 := LQ.out.c 2 rfl
 go_wp2_with fail
 (with_reducible refine (KO2.out _ I4.out).mono ?_)
 clear q0
 rintro e w0x ⟨rfl, rfl⟩
 go_upto_region 4 with fail
 go_cut [6] (fun sl wx => LaidZ 35 W0 sx lx sl wx)
 case first =>
  have LPD := hid (LP.out.old (Below_drew1 (Below.refl _ _)))
  have LPE := hid (LP.out.old (Below_drew1 (below_new' (o := .cells #[.bool false, .slice none 0 0] 35))))
  have LQD := hid (LQ.out.old (Below_drew1 (Below.refl _ _)))
  have LQE := hid (LQ.out.old (Below_drew1 (below_new' (o := .cells #[.bool false, .slice none 0 0] 35))))
  have LRD := hid (LR.out.old (Below_drew1 (Below.refl _ _)))
  have LRE := hid (LR.out.old (Below_drew1 (below_new' (o := .cells #[.bool false, .slice none 0 0] 35))))
  have I1D := hid (Ints_old I1.out (Below_drew1 (Below.refl _ _)))
  have I1E := hid (Ints_old I1.out (Below_drew1 (below_new' (o := .cells #[.bool false, .slice none 0 0] 35))))
  have I2D := hid (Ints_old I2.out (Below_drew1 (Below.refl _ _)))
  have I2E := hid (Ints_old I2.out (Below_drew1 (below_new' (o := .cells #[.bool false, .slice none 0 0] 35))))
  have I3D := hid (Ints_old I3.out (Below_drew1 (Below.refl _ _)))
  have I3E := hid (Ints_old I3.out (Below_drew1 (below_new' (o := .cells #[.bool false, .slice none 0 0] 35))))
  have I4D := hid (Ints_old I4.out (Below_drew1 (Below.refl _ _)))
  have I4E := hid (Ints_old I4.out (Below_drew1 (below_new' (o := .cells #[.bool false, .slice none 0 0] 35))))
  have CD := hid (show Below W0.heap.size W0 W0.drew from Below_drew1 (Below.refl _ _))
  have CE := hid (show Below W0.heap.size W0 (W0.alloc (.cells #[.bool false, .slice none 0 0] 35)).drew from Below_drew1 below_new')
  have NE := hid (show LocA 35 (W0.alloc (.cells #[.bool false, .slice none 0 0] 35)).drew W0.heap.size #[.bool false, .slice none 0 0] from LocA.new)
  have hNW : W0.heap.size ≤ W0.heap.size := Nat.le_refl _
  have hLT1 := LP.out.lt
  have hLT2 := LQ.out.lt
  have q0 := LPD.out.c 0 rfl
  have q1 := LPD.out.c 1 rfl
  have q2 := LQD.out.c 2 rfl
  go_region_held3 (fun w' => w'.cell? ⟨w.heap.size, 0, none⟩ = some (.bool s) ∧ w'.cell? ⟨w.heap.size, 1, none⟩ = some (.slice a A.length c) ∧ w'.cell? ⟨w.heap.size + 1, 2, none⟩ = some (.slice b' D'.length d')) (first | exact ⟨q0, q1, q2⟩ | exact ⟨LPE.out.c 0 rfl, LPE.out.c 1 rfl, LQE.out.c 2 rfl⟩ | exact ⟨(LPC.out.new1).c 0 rfl, (LPC.out.new1).c 1 rfl, (LQC.out.new1).c 2 rfl⟩ | exact ⟨(cell_set2 (by omega)).trans q0, (cell_set2 (by omega)).trans q1, (cell_set2 (by omega)).trans q2⟩ | go_keep) (first | (go_at_call 160; (with_reducible refine (KM1.out _ I1D.out I4D.out).mono ?_); rintro e wm ⟨r, rfl, i1, b1⟩; have CC := hid (CD.out.trans (b1.mono CD.out.size)); have LPC := hid (LPD.out.old b1); have LQC := hid (LQD.out.old b1); have M1 := hid i1; have q0 := LPC.out.c 0 rfl; have q1 := LPC.out.c 1 rfl; have q2 := LQC.out.c 2 rfl; obtain ⟨am, cm, rfl, -⟩ := Ints_form i1; clear i1 b1) | (go_at_call 160; (with_reducible refine (KM1.out _ I1E.out I4E.out).mono ?_); rintro e wm ⟨r, rfl, i1, b1⟩; have CC := hid (CE.out.trans (b1.mono CE.out.size)); have NZ := hid (NE.out.old b1); have LPC := hid (LPE.out.old b1); have LQC := hid (LQE.out.old b1); have M1 := hid i1; have q0 := LPC.out.c 0 rfl; have q1 := LPC.out.c 1 rfl; have q2 := LQC.out.c 2 rfl; obtain ⟨am, cm, rfl, -⟩ := Ints_form i1; clear i1 b1) | (go_at_call 170; (with_reducible refine (KK1.out _ _ _ M1.out).mono ?_); rintro e wf ⟨r, rfl, i1, b1⟩; (try (have hNZl := NZ.out.lt; have NZ := hid (NZ.out.old b1); have f0 := NZ.out.f 0; have f1 := NZ.out.f 1; have p0 := NZ.out.c 0 rfl; have p1x := NZ.out.c 1 rfl; skip)); have hsB := CC.out.size; have CC := hid (CC.out.trans (b1.mono CC.out.size)); have LPC := hid (LPC.out.old b1); have LQC := hid (LQC.out.old b1); have IR := hid i1; have q0 := LPC.out.c 0 rfl; have q1 := LPC.out.c 1 rfl; have q2 := LQC.out.c 2 rfl; obtain ⟨af, cf, rfl, -⟩ := Ints_form i1; clear i1 b1) | (go_at_call 170; (with_reducible refine (KK1.out _ _ _ (addPre (o := .cells #[.bool false, .slice none 0 0] 35) M1.out)).mono ?_); rintro e wf ⟨r, rfl, i1, b1⟩; have hNZ : W0.heap.size ≤ wm.heap.size := CC.out.size; have NZ := hid (LocA.new (w := wm) (T := 35) (cs := #[.bool false, .slice none 0 0])); have LPC := hid (LPC.out.new1 (o := .cells #[.bool false, .slice none 0 0] 35)); have LQC := hid (LQC.out.new1 (o := .cells #[.bool false, .slice none 0 0] 35)); have CC := hid (CC.out.alloc CC.out.size (.cells #[.bool false, .slice none 0 0] 35)); have hNZl := NZ.out.lt; have NZ := hid (NZ.out.old b1); have f0 := NZ.out.f 0; have f1 := NZ.out.f 1; have p0 := NZ.out.c 0 rfl; have p1x := NZ.out.c 1 rfl; have hsB := CC.out.size; have CC := hid (CC.out.trans (b1.mono CC.out.size)); have LPC := hid (LPC.out.old b1); have LQC := hid (LQC.out.old b1); have IR := hid i1; have q0 := LPC.out.c 0 rfl; have q1 := LPC.out.c 1 rfl; have q2 := LQC.out.c 2 rfl; obtain ⟨af, cf, rfl, -⟩ := Ints_form i1; clear i1 b1))
  all_goals
   go_wp2_with fail
   go_meet
   first | exact LaidZ_a IR.out hsB CC.out | exact LaidZ_b (by decide) NZ.out (by omega) hsB IR.out CC.out
 case rest =>
  generalize wc = w1 at hcut ⊢
  obtain ⟨g1, a1, c1, rfl, hL, hI, hg, b1⟩ := hcut
  have LZA := hid hL
  have ZA := hid hI
  have hh1 := b1.size
  have LP := hid (LP.out.old b1)
  have LQ := hid (LQ.out.old b1)
  have LR := hid (LR.out.old b1)
  have I1 := hid (Ints_old I1.out b1)
  have I2 := hid (Ints_old I2.out b1)
  have I3 := hid (Ints_old I3.out b1)
  have I4 := hid (Ints_old I4.out b1)
  have B := hid (B.out.trans (b1.mono B.out.size))
  clear hL hI b1
  go_upto_region 5 with fail
  go_cut [7] (fun sl wx => LaidZ 35 w1 sy ly sl wx)
  case first =>
   have LPD := hid (LP.out.old (Below_drew1 (Below.refl _ _)))
   have LPE := hid (LP.out.old (Below_drew1 (below_new' (o := .cells #[.bool false, .slice none 0 0] 35))))
   have LQD := hid (LQ.out.old (Below_drew1 (Below.refl _ _)))
   have LQE := hid (LQ.out.old (Below_drew1 (below_new' (o := .cells #[.bool false, .slice none 0 0] 35))))
   have LRD := hid (LR.out.old (Below_drew1 (Below.refl _ _)))
   have LRE := hid (LR.out.old (Below_drew1 (below_new' (o := .cells #[.bool false, .slice none 0 0] 35))))
   have I1D := hid (Ints_old I1.out (Below_drew1 (Below.refl _ _)))
   have I1E := hid (Ints_old I1.out (Below_drew1 (below_new' (o := .cells #[.bool false, .slice none 0 0] 35))))
   have I2D := hid (Ints_old I2.out (Below_drew1 (Below.refl _ _)))
   have I2E := hid (Ints_old I2.out (Below_drew1 (below_new' (o := .cells #[.bool false, .slice none 0 0] 35))))
   have I3D := hid (Ints_old I3.out (Below_drew1 (Below.refl _ _)))
   have I3E := hid (Ints_old I3.out (Below_drew1 (below_new' (o := .cells #[.bool false, .slice none 0 0] 35))))
   have I4D := hid (Ints_old I4.out (Below_drew1 (Below.refl _ _)))
   have I4E := hid (Ints_old I4.out (Below_drew1 (below_new' (o := .cells #[.bool false, .slice none 0 0] 35))))
   have ZAD := hid (Ints_old ZA.out (Below_drew1 (Below.refl _ _)))
   have ZAE := hid (Ints_old ZA.out (Below_drew1 (below_new' (o := .cells #[.bool false, .slice none 0 0] 35))))
   have LZAD := hid (LZA.out.old (Below_drew1 (Below.refl _ _)))
   have LZAE := hid (LZA.out.old (Below_drew1 (below_new' (o := .cells #[.bool false, .slice none 0 0] 35))))
   have CD := hid (show Below w1.heap.size w1 w1.drew from Below_drew1 (Below.refl _ _))
   have CE := hid (show Below w1.heap.size w1 (w1.alloc (.cells #[.bool false, .slice none 0 0] 35)).drew from Below_drew1 below_new')
   have NE := hid (show LocA 35 (w1.alloc (.cells #[.bool false, .slice none 0 0] 35)).drew w1.heap.size #[.bool false, .slice none 0 0] from LocA.new)
   have hNW : w1.heap.size ≤ w1.heap.size := Nat.le_refl _
   have hLT1 := LP.out.lt
   have hLT2 := LQ.out.lt
   have q0 := LQD.out.c 0 rfl
   have q1 := LQD.out.c 1 rfl
   have q2 := LPD.out.c 2 rfl
   go_region_held3 (fun w' => w'.cell? ⟨w.heap.size + 1, 0, none⟩ = some (.bool t) ∧ w'.cell? ⟨w.heap.size + 1, 1, none⟩ = some (.slice a' A'.length c') ∧ w'.cell? ⟨w.heap.size, 2, none⟩ = some (.slice b D.length d)) (first | exact ⟨q0, q1, q2⟩ | exact ⟨LQE.out.c 0 rfl, LQE.out.c 1 rfl, LPE.out.c 2 rfl⟩ | exact ⟨(LQC.out.new1).c 0 rfl, (LQC.out.new1).c 1 rfl, (LPC.out.new1).c 2 rfl⟩ | exact ⟨(cell_set2 (by omega)).trans q0, (cell_set2 (by omega)).trans q1, (cell_set2 (by omega)).trans q2⟩ | go_keep) (first | (go_at_call 160; (with_reducible refine (KM2.out _ I3D.out I2D.out).mono ?_); rintro e wm ⟨r, rfl, i1, b1⟩; have CC := hid (CD.out.trans (b1.mono CD.out.size)); have LQC := hid (LQD.out.old b1); have LPC := hid (LPD.out.old b1); have M1 := hid i1; have q0 := LQC.out.c 0 rfl; have q1 := LQC.out.c 1 rfl; have q2 := LPC.out.c 2 rfl; obtain ⟨am, cm, rfl, -⟩ := Ints_form i1; clear i1 b1) | (go_at_call 160; (with_reducible refine (KM2.out _ I3E.out I2E.out).mono ?_); rintro e wm ⟨r, rfl, i1, b1⟩; have CC := hid (CE.out.trans (b1.mono CE.out.size)); have NZ := hid (NE.out.old b1); have LQC := hid (LQE.out.old b1); have LPC := hid (LPE.out.old b1); have M1 := hid i1; have q0 := LQC.out.c 0 rfl; have q1 := LQC.out.c 1 rfl; have q2 := LPC.out.c 2 rfl; obtain ⟨am, cm, rfl, -⟩ := Ints_form i1; clear i1 b1) | (go_at_call 170; (with_reducible refine (KK2.out _ _ _ M1.out).mono ?_); rintro e wf ⟨r, rfl, i1, b1⟩; (try (have hNZl := NZ.out.lt; have NZ := hid (NZ.out.old b1); have f0 := NZ.out.f 0; have f1 := NZ.out.f 1; have p0 := NZ.out.c 0 rfl; have p1x := NZ.out.c 1 rfl; skip)); have hsB := CC.out.size; have CC := hid (CC.out.trans (b1.mono CC.out.size)); have LQC := hid (LQC.out.old b1); have LPC := hid (LPC.out.old b1); have IR := hid i1; have q0 := LQC.out.c 0 rfl; have q1 := LQC.out.c 1 rfl; have q2 := LPC.out.c 2 rfl; obtain ⟨af, cf, rfl, -⟩ := Ints_form i1; clear i1 b1) | (go_at_call 170; (with_reducible refine (KK2.out _ _ _ (addPre (o := .cells #[.bool false, .slice none 0 0] 35) M1.out)).mono ?_); rintro e wf ⟨r, rfl, i1, b1⟩; have hNZ : w1.heap.size ≤ wm.heap.size := CC.out.size; have NZ := hid (LocA.new (w := wm) (T := 35) (cs := #[.bool false, .slice none 0 0])); have LQC := hid (LQC.out.new1 (o := .cells #[.bool false, .slice none 0 0] 35)); have LPC := hid (LPC.out.new1 (o := .cells #[.bool false, .slice none 0 0] 35)); have CC := hid (CC.out.alloc CC.out.size (.cells #[.bool false, .slice none 0 0] 35)); have hNZl := NZ.out.lt; have NZ := hid (NZ.out.old b1); have f0 := NZ.out.f 0; have f1 := NZ.out.f 1; have p0 := NZ.out.c 0 rfl; have p1x := NZ.out.c 1 rfl; have hsB := CC.out.size; have CC := hid (CC.out.trans (b1.mono CC.out.size)); have LQC := hid (LQC.out.old b1); have LPC := hid (LPC.out.old b1); have IR := hid i1; have q0 := LQC.out.c 0 rfl; have q1 := LQC.out.c 1 rfl; have q2 := LPC.out.c 2 rfl; obtain ⟨af, cf, rfl, -⟩ := Ints_form i1; clear i1 b1))
   all_goals
    go_wp2_with fail
    go_meet
    first | exact LaidZ_a IR.out hsB CC.out | exact LaidZ_b (by decide) NZ.out (by omega) hsB IR.out CC.out
  case rest =>
   generalize wc = w2 at hcut ⊢
   obtain ⟨g2, a2, c2, rfl, hL, hI, hg, b1⟩ := hcut
   have LZB := hid hL
   have ZB := hid hI
   have hh2 := b1.size
   have LP := hid (LP.out.old b1)
   have LQ := hid (LQ.out.old b1)
   have LR := hid (LR.out.old b1)
   have I1 := hid (Ints_old I1.out b1)
   have I2 := hid (Ints_old I2.out b1)
   have I3 := hid (Ints_old I3.out b1)
   have I4 := hid (Ints_old I4.out b1)
   have ZA := hid (Ints_old ZA.out b1)
   have LZA := hid (LZA.out.old b1)
   have B := hid (B.out.trans (b1.mono B.out.size))
   clear hL hI b1
   have q0 := LZA.out.c 0 rfl
   have q1 := LZA.out.c 1 rfl
   have q2 := LZB.out.c 0 rfl
   have q3 := LZB.out.c 1 rfl
   go_wp2_with fail
   (with_reducible refine (KA.out _ _ _ _ _ ZA.out ZB.out).mono ?_)
   clear q0 q1 q2 q3
   rintro e w3 ⟨r, rfl, i1, b1⟩
   have LP := hid (LP.out.old b1)
   have LQ := hid (LQ.out.old b1)
   have LR := hid (LR.out.old b1)
   have I1 := hid (Ints_old I1.out b1)
   have I2 := hid (Ints_old I2.out b1)
   have I3 := hid (Ints_old I3.out b1)
   have I4 := hid (Ints_old I4.out b1)
   have ZA := hid (Ints_old ZA.out b1)
   have LZA := hid (LZA.out.old b1)
   have ZB := hid (Ints_old ZB.out b1)
   have LZB := hid (LZB.out.old b1)
   have B := hid (B.out.trans (b1.mono B.out.size))
   have N1 := hid i1
   obtain ⟨an, cn, rfl, -⟩ := Ints_form i1
   clear i1 b1
   have hs5 := B.out.size
   have hL1 := LP.out.lt
   have hL2 := LQ.out.lt
   have hL3 := LR.out.lt
   have LP := hid (LP.out.new1 (o := .cells #[.bool sz, .slice an lz.length cn] 35))
   have LQ := hid (LQ.out.new1 (o := .cells #[.bool sz, .slice an lz.length cn] 35))
   have LR := hid (LR.out.new1 (o := .cells #[.bool sz, .slice an lz.length cn] 35))
   have I2 := hid (Ints_old I2.out (below_new' (o := .cells #[.bool sz, .slice an lz.length cn] 35)))
   have I4 := hid (Ints_old I4.out (below_new' (o := .cells #[.bool sz, .slice an lz.length cn] 35)))
   have N1 := hid (Ints_old N1.out (below_new' (o := .cells #[.bool sz, .slice an lz.length cn] 35)))
   have B := hid (B.out.alloc hs5 (.cells #[.bool sz, .slice an lz.length cn] 35))
   have LN := hid (LocA.new (w := w3) (T := 35) (cs := #[.bool sz, .slice an lz.length cn]))
   have hLN := LN.out.lt
   go_wp2_with fail
   have LP := hid (LP.out.old (Below_drew1 (Below.refl _ _)))
   have LQ := hid (LQ.out.old (Below_drew1 (Below.refl _ _)))
   have LR := hid (LR.out.old (Below_drew1 (Below.refl _ _)))
   have I2 := hid (Ints_old I2.out (Below_drew1 (Below.refl _ _)))
   have I4 := hid (Ints_old I4.out (Below_drew1 (Below.refl _ _)))
   have N1 := hid (Ints_old N1.out (Below_drew1 (Below.refl _ _)))
   have LN := hid (LN.out.old (Below_drew1 (Below.refl _ _)))
   have B := hid (Below_drew1 B.out)
   have q0 := LN.out.c 0 rfl
   have q1 := LN.out.c 1 rfl
   have q2 := LP.out.c 2 rfl
   have q3 := LQ.out.c 2 rfl
   go_region_held3 (fun w' => w'.cell? ⟨w3.heap.size, 0, none⟩ = some (.bool sz) ∧ w'.cell? ⟨w3.heap.size, 1, none⟩ = some (.slice an lz.length cn) ∧ w'.cell? ⟨w.heap.size, 2, none⟩ = some (.slice b D.length d) ∧ w'.cell? ⟨w.heap.size + 1, 2, none⟩ = some (.slice b' D'.length d')) (first | exact ⟨q0, q1, q2, q3⟩ | exact ⟨(cell_set3 (by omega)).trans q0, (cell_set3 (by omega)).trans q1, (cell_set3 (by omega)).trans q2, (cell_set3 (by omega)).trans q3⟩ | go_keep) (first | (go_at_call 160; (with_reducible refine (KM3.out _ I2.out I4.out).mono ?_); rintro e w4 ⟨r, rfl, i1, b1⟩; have LP := hid (LP.out.old b1); have LQ := hid (LQ.out.old b1); have LR := hid (LR.out.old b1); have I2 := hid (Ints_old I2.out b1); have I4 := hid (Ints_old I4.out b1); have N1 := hid (Ints_old N1.out b1); have LN := hid (LN.out.old b1); have B := hid (B.out.trans (b1.mono B.out.size)); have J2 := hid i1; obtain ⟨a9, c9, rfl, -⟩ := Ints_form i1; clear i1 b1; have hs6 := B.out.size; have q0 := LN.out.c 0 rfl; have q1 := LN.out.c 1 rfl; have q2 := LP.out.c 2 rfl; have q3 := LQ.out.c 2 rfl) | (go_at_call 159; (with_reducible refine (KL.out _ _ _ _ _ N1.out J2.out).mono ?_); rintro e w5 ⟨v1, u1, rfl, j1, j2, b1⟩; have LP := hid (LP.out.old b1); have LQ := hid (LQ.out.old b1); have LR := hid (LR.out.old b1); have I2 := hid (Ints_old I2.out b1); have I4 := hid (Ints_old I4.out b1); have N1 := hid (Ints_old N1.out b1); have LN := hid (LN.out.old b1); have B := hid (B.out.trans (b1.mono B.out.size)); clear b1; have q0 := LN.out.c 0 rfl; have q1 := LN.out.c 1 rfl; have q2 := LP.out.c 2 rfl; have q3 := LQ.out.c 2 rfl; have f0 := LR.out.f 0; have f1 := LR.out.f 1; have f2 := LR.out.f 2; have p0 := LR.out.c 0 rfl; have p1 := LR.out.c 1 rfl; have p2 := LR.out.c 2 rfl; rw [← HGS.out]; have R := hid (OwnS_out (o := o) (N := w.heap.size + 1 + 1) HGS.out rfl rfl (by omega) LR.out (by decide) hs6 hs6 j1 j2 B.out); obtain ⟨e1, d1, rfl, -⟩ := Ints_form j1; obtain ⟨e2, d2, rfl, -⟩ := Ints_form j2; clear j1 j2))
   clear q0 q1 q2 q3
   go_wp2
   exact bodyPost_ret (v := .agg #[.bool gs, .slice e1 _ d1, .slice e2 _ d2]) (by simp [results, Tryz.results129, go_sem, p0, p1, p2]) rfl R.out
end Go.Proofs.YthkehmnodcmlcaaGreat
namespace Go.Proofs.YthkehmnodcmlcaaGreat
open Go.RowKit
open Go.Lib (hid)
theorem spec_RatAdd (s t : Bool) (v u v' u' : Value) (A D A' D' : List Int) (w : World) (h : RL w v u A D) (h' : RL w v' u' A' D') :
  Calls Tryz.prog 119 #[.agg #[.bool s, v, u], .agg #[.bool t, v', u']] w (OwnS (bq addF (rval s A D) (rval t A' D')) w) := by
 obtain ⟨o, ho⟩ : ∃ o, o = bq addF (rval s A D) (rval t A' D') := ⟨_, rfl⟩
 have HO := hid ho
 rw [← ho]
 clear ho
 have KA := hid (fun (W : World) (h : RL W v u A D) => spec_RatOk s v u A D W h)
 have KB := hid (fun (W : World) (h : RL W v' u' A' D') => spec_RatOk t v' u' A' D' W h)
 obtain ⟨a, c, b, d, rfl, rfl⟩ := h.form
 obtain ⟨a', c', b', d', rfl, rfl⟩ := h'.form
 have B := hid (show Below w.heap.size w (((w.alloc (.cells #[.bool s, .slice a A.length c, .slice b D.length d] 37)).alloc (.cells #[.bool t, .slice a' A'.length c', .slice b' D'.length d'] 37)).alloc (.cells #[.bool false, .slice none 0 0, .slice none 0 0] 37)) from (((Below.refl _ _).alloc (Nat.le_refl _) _).alloc (by simp) _).alloc (by simp; try omega) _)
 have LP := hid (show LocA 37 (((w.alloc (.cells #[.bool s, .slice a A.length c, .slice b D.length d] 37)).alloc (.cells #[.bool t, .slice a' A'.length c', .slice b' D'.length d'] 37)).alloc (.cells #[.bool false, .slice none 0 0, .slice none 0 0] 37)) (w.heap.size) #[.bool s, .slice a A.length c, .slice b D.length d] from (LocA.at (by simp)).new1.new1)
 have LQ := hid (show LocA 37 (((w.alloc (.cells #[.bool s, .slice a A.length c, .slice b D.length d] 37)).alloc (.cells #[.bool t, .slice a' A'.length c', .slice b' D'.length d'] 37)).alloc (.cells #[.bool false, .slice none 0 0, .slice none 0 0] 37)) (w.heap.size + 1) #[.bool t, .slice a' A'.length c', .slice b' D'.length d'] from (LocA.at (by simp)).new1)
 have LR := hid (show LocA 37 (((w.alloc (.cells #[.bool s, .slice a A.length c, .slice b D.length d] 37)).alloc (.cells #[.bool t, .slice a' A'.length c', .slice b' D'.length d'] 37)).alloc (.cells #[.bool false, .slice none 0 0, .slice none 0 0] 37)) (w.heap.size + 1 + 1) #[.bool false, .slice none 0 0, .slice none 0 0] from (LocA.at (by simp)))
 have H1 := hid (h.old B.out)
 have H2 := hid (h'.old B.out)
 clear h h'
 generalize hW : ((w.alloc (.cells #[.bool s, .slice a A.length c, .slice b D.length d] 37)).alloc (.cells #[.bool t, .slice a' A'.length c', .slice b' D'.length d'] 37)).alloc (.cells #[.bool false, .slice none 0 0, .slice none 0 0] 37) = W0 at B LP LQ LR H1 H2
 have HW := hid hW
 clear hW
 have hs0 := B.out.size
 obtain ⟨p1, hp1⟩ : ∃ p, p = rok s A D := ⟨_, rfl⟩
 obtain ⟨p2, hp2⟩ : ∃ p, p = rok t A' D' := ⟨_, rfl⟩
 rw [← hp1] at KA
 rw [← hp2] at KB
 cases p1 with
 |false =>
  have hE := hid (show o = none by rw [HO.out]; exact bq_no (by rw [← hp1]; rfl))
  clear hp1 hp2
  go_enter Tryz.func119, Tryz.ntmps119
  have q0 := LP.out.c 0 rfl
  have q1 := LP.out.c 1 rfl
  have q2 := LP.out.c 2 rfl
  go_wp2_with fail
  rw [HW.out]
  (with_reducible refine (KA.out _ H1.out).mono ?_)
  clear q0 q1 q2
  rintro e w1 ⟨rfl, b1⟩
  have LR := hid (LR.out.old b1)
  have B := hid (B.out.trans (b1.mono B.out.size))
  clear b1
  have f0 := LR.out.f 0
  have f1 := LR.out.f 1
  have f2 := LR.out.f 2
  have p0 := LR.out.c 0 rfl
  have p1 := LR.out.c 1 rfl
  have p2 := LR.out.c 2 rfl
  have R := hid (OwnS_zero (N := w.heap.size + 1 + 1) hE.out (by omega) B.out)
  go_wp2
  exact bodyPost_ret (v := .agg #[.bool false, .slice none 0 0, .slice none 0 0]) (by simp [results, Tryz.results119, go_sem, p0, p1, p2]) rfl R.out
 | true =>
 cases p2 with
 |false =>
  have hE := hid (show o = none by rw [HO.out]; exact bq_no (by rw [← hp1, ← hp2]; rfl))
  clear hp1 hp2
  go_enter Tryz.func119, Tryz.ntmps119
  have q0 := LP.out.c 0 rfl
  have q1 := LP.out.c 1 rfl
  have q2 := LP.out.c 2 rfl
  go_wp2_with fail
  rw [HW.out]
  (with_reducible refine (KA.out _ H1.out).mono ?_)
  clear q0 q1 q2
  rintro e w1 ⟨rfl, b1⟩
  have LR := hid (LR.out.old b1)
  have LQ := hid (LQ.out.old b1)
  have H2 := hid (H2.out.old b1)
  have B := hid (B.out.trans (b1.mono B.out.size))
  clear b1
  have q0 := LQ.out.c 0 rfl
  have q1 := LQ.out.c 1 rfl
  have q2 := LQ.out.c 2 rfl
  go_wp2_with fail
  (with_reducible refine (KB.out _ H2.out).mono ?_)
  clear q0 q1 q2
  rintro e w2 ⟨rfl, b1⟩
  have LR := hid (LR.out.old b1)
  have LQ := hid (LQ.out.old b1)
  have H2 := hid (H2.out.old b1)
  have B := hid (B.out.trans (b1.mono B.out.size))
  clear b1
  have f0 := LR.out.f 0
  have f1 := LR.out.f 1
  have f2 := LR.out.f 2
  have p0 := LR.out.c 0 rfl
  have p1 := LR.out.c 1 rfl
  have p2 := LR.out.c 2 rfl
  have R := hid (OwnS_zero (N := w.heap.size + 1 + 1) hE.out (by omega) B.out)
  go_wp2
  exact bodyPost_ret (v := .agg #[.bool false, .slice none 0 0, .slice none 0 0]) (by simp [results, Tryz.results119, go_sem, p0, p1, p2]) rfl R.out
 | true =>
 obtain ⟨x, ex, rx⟩ := RatX.of H1.out hp1.symm
 obtain ⟨y, ey, ry⟩ := RatX.of H2.out hp2.symm
 have X := hid rx
 have Y := hid ry
 clear rx ry
 have hE := hid (show o = addF x y by rw [HO.out, ex, ey, bq_some])
 have KL := hid (fun (W : World) (h : RatX W s (.slice a A.length c) (.slice b D.length d) x) (h' : RatX W t (.slice a' A'.length c') (.slice b' D'.length d') y) => l04Add_own s t _ _ _ _ x y W h h')
 rw [← hE.out] at KL
 clear hp1 hp2 ex ey hE HO
 obtain ⟨gs, hgs⟩ : ∃ g, g = gzs (qn o) := ⟨_, rfl⟩
 have HGS := hid hgs
 clear hgs
 go_enter Tryz.func119, Tryz.ntmps119
 have q0 := LP.out.c 0 rfl
 have q1 := LP.out.c 1 rfl
 have q2 := LP.out.c 2 rfl
 go_wp2_with fail
 rw [HW.out]
 (with_reducible refine (KA.out _ H1.out).mono ?_)
 clear q0 q1 q2
 rintro e w1 ⟨rfl, b1⟩
 have LR := hid (LR.out.old b1)
 have LP := hid (LP.out.old b1)
 have LQ := hid (LQ.out.old b1)
 have H2 := hid (H2.out.old b1)
 have X := hid (X.out.old b1)
 have Y := hid (Y.out.old b1)
 have B := hid (B.out.trans (b1.mono B.out.size))
 clear b1
 have q0 := LQ.out.c 0 rfl
 have q1 := LQ.out.c 1 rfl
 have q2 := LQ.out.c 2 rfl
 go_wp2_with fail
 (with_reducible refine (KB.out _ H2.out).mono ?_)
 clear q0 q1 q2
 rintro e w2 ⟨rfl, b1⟩
 have LR := hid (LR.out.old b1)
 have LP := hid (LP.out.old b1)
 have LQ := hid (LQ.out.old b1)
 have H2 := hid (H2.out.old b1)
 have X := hid (X.out.old b1)
 have Y := hid (Y.out.old b1)
 have B := hid (B.out.trans (b1.mono B.out.size))
 clear b1
 have q0 := LP.out.c 0 rfl
 have q1 := LP.out.c 1 rfl
 have q2 := LP.out.c 2 rfl
 have q3 := LQ.out.c 0 rfl
 have q4 := LQ.out.c 1 rfl
 have q5 := LQ.out.c 2 rfl
 have hs2 := B.out.size
 go_wp2_with fail
 (with_reducible refine (KL.out _ X.out Y.out).mono ?_)
 clear q0 q1 q2 q3 q4 q5
 rintro e w3 ⟨v1, u1, rfl, j1, j2, b1⟩
 have LR := hid (LR.out.old b1)
 have LP := hid (LP.out.old b1)
 have LQ := hid (LQ.out.old b1)
 have H2 := hid (H2.out.old b1)
 have X := hid (X.out.old b1)
 have Y := hid (Y.out.old b1)
 have B := hid (B.out.trans (b1.mono B.out.size))
 rw [← HGS.out]
 have f0 := LR.out.f 0
 have f1 := LR.out.f 1
 have f2 := LR.out.f 2
 have p0 := LR.out.c 0 rfl
 have p1 := LR.out.c 1 rfl
 have p2 := LR.out.c 2 rfl
 have R := hid (OwnS_out (o := o) (N := w.heap.size + 1 + 1) HGS.out rfl rfl (by omega) LR.out (by decide) hs2 hs2 j1 j2 B.out)
 obtain ⟨e1, d1, rfl, -⟩ := Ints_form j1
 obtain ⟨e2, d2, rfl, -⟩ := Ints_form j2
 clear j1 j2 b1
 go_wp2
 exact bodyPost_ret (v := .agg #[.bool gs, .slice e1 _ d1, .slice e2 _ d2]) (by simp [results, Tryz.results119, go_sem, p0, p1, p2]) rfl R.out
theorem spec_RatMul (s t : Bool) (v u v' u' : Value) (A D A' D' : List Int) (w : World) (h : RL w v u A D) (h' : RL w v' u' A' D') :
  Calls Tryz.prog 81 #[.agg #[.bool s, v, u], .agg #[.bool t, v', u']] w (OwnS (bq mulF (rval s A D) (rval t A' D')) w) := by
 obtain ⟨o, ho⟩ : ∃ o, o = bq mulF (rval s A D) (rval t A' D') := ⟨_, rfl⟩
 have HO := hid ho
 rw [← ho]
 clear ho
 have KA := hid (fun (W : World) (h : RL W v u A D) => spec_RatOk s v u A D W h)
 have KB := hid (fun (W : World) (h : RL W v' u' A' D') => spec_RatOk t v' u' A' D' W h)
 obtain ⟨a, c, b, d, rfl, rfl⟩ := h.form
 obtain ⟨a', c', b', d', rfl, rfl⟩ := h'.form
 have B := hid (show Below w.heap.size w (((w.alloc (.cells #[.bool s, .slice a A.length c, .slice b D.length d] 37)).alloc (.cells #[.bool t, .slice a' A'.length c', .slice b' D'.length d'] 37)).alloc (.cells #[.bool false, .slice none 0 0, .slice none 0 0] 37)) from (((Below.refl _ _).alloc (Nat.le_refl _) _).alloc (by simp) _).alloc (by simp; try omega) _)
 have LP := hid (show LocA 37 (((w.alloc (.cells #[.bool s, .slice a A.length c, .slice b D.length d] 37)).alloc (.cells #[.bool t, .slice a' A'.length c', .slice b' D'.length d'] 37)).alloc (.cells #[.bool false, .slice none 0 0, .slice none 0 0] 37)) (w.heap.size) #[.bool s, .slice a A.length c, .slice b D.length d] from (LocA.at (by simp)).new1.new1)
 have LQ := hid (show LocA 37 (((w.alloc (.cells #[.bool s, .slice a A.length c, .slice b D.length d] 37)).alloc (.cells #[.bool t, .slice a' A'.length c', .slice b' D'.length d'] 37)).alloc (.cells #[.bool false, .slice none 0 0, .slice none 0 0] 37)) (w.heap.size + 1) #[.bool t, .slice a' A'.length c', .slice b' D'.length d'] from (LocA.at (by simp)).new1)
 have LR := hid (show LocA 37 (((w.alloc (.cells #[.bool s, .slice a A.length c, .slice b D.length d] 37)).alloc (.cells #[.bool t, .slice a' A'.length c', .slice b' D'.length d'] 37)).alloc (.cells #[.bool false, .slice none 0 0, .slice none 0 0] 37)) (w.heap.size + 1 + 1) #[.bool false, .slice none 0 0, .slice none 0 0] from (LocA.at (by simp)))
 have H1 := hid (h.old B.out)
 have H2 := hid (h'.old B.out)
 clear h h'
 generalize hW : ((w.alloc (.cells #[.bool s, .slice a A.length c, .slice b D.length d] 37)).alloc (.cells #[.bool t, .slice a' A'.length c', .slice b' D'.length d'] 37)).alloc (.cells #[.bool false, .slice none 0 0, .slice none 0 0] 37) = W0 at B LP LQ LR H1 H2
 have HW := hid hW
 clear hW
 have hs0 := B.out.size
 obtain ⟨p1, hp1⟩ : ∃ p, p = rok s A D := ⟨_, rfl⟩
 obtain ⟨p2, hp2⟩ : ∃ p, p = rok t A' D' := ⟨_, rfl⟩
 rw [← hp1] at KA
 rw [← hp2] at KB
 cases p1 with
 |false =>
  have hE := hid (show o = none by rw [HO.out]; exact bq_no (by rw [← hp1]; rfl))
  clear hp1 hp2
  go_enter Tryz.func81, Tryz.ntmps81
  have q0 := LP.out.c 0 rfl
  have q1 := LP.out.c 1 rfl
  have q2 := LP.out.c 2 rfl
  go_wp2_with fail
  rw [HW.out]
  (with_reducible refine (KA.out _ H1.out).mono ?_)
  clear q0 q1 q2
  rintro e w1 ⟨rfl, b1⟩
  have LR := hid (LR.out.old b1)
  have B := hid (B.out.trans (b1.mono B.out.size))
  clear b1
  have f0 := LR.out.f 0
  have f1 := LR.out.f 1
  have f2 := LR.out.f 2
  have p0 := LR.out.c 0 rfl
  have p1 := LR.out.c 1 rfl
  have p2 := LR.out.c 2 rfl
  have R := hid (OwnS_zero (N := w.heap.size + 1 + 1) hE.out (by omega) B.out)
  go_wp2
  exact bodyPost_ret (v := .agg #[.bool false, .slice none 0 0, .slice none 0 0]) (by simp [results, Tryz.results81, go_sem, p0, p1, p2]) rfl R.out
 | true =>
 cases p2 with
 |false =>
  have hE := hid (show o = none by rw [HO.out]; exact bq_no (by rw [← hp1, ← hp2]; rfl))
  clear hp1 hp2
  go_enter Tryz.func81, Tryz.ntmps81
  have q0 := LP.out.c 0 rfl
  have q1 := LP.out.c 1 rfl
  have q2 := LP.out.c 2 rfl
  go_wp2_with fail
  rw [HW.out]
  (with_reducible refine (KA.out _ H1.out).mono ?_)
  clear q0 q1 q2
  rintro e w1 ⟨rfl, b1⟩
  have LR := hid (LR.out.old b1)
  have LQ := hid (LQ.out.old b1)
  have H2 := hid (H2.out.old b1)
  have B := hid (B.out.trans (b1.mono B.out.size))
  clear b1
  have q0 := LQ.out.c 0 rfl
  have q1 := LQ.out.c 1 rfl
  have q2 := LQ.out.c 2 rfl
  go_wp2_with fail
  (with_reducible refine (KB.out _ H2.out).mono ?_)
  clear q0 q1 q2
  rintro e w2 ⟨rfl, b1⟩
  have LR := hid (LR.out.old b1)
  have LQ := hid (LQ.out.old b1)
  have H2 := hid (H2.out.old b1)
  have B := hid (B.out.trans (b1.mono B.out.size))
  clear b1
  have f0 := LR.out.f 0
  have f1 := LR.out.f 1
  have f2 := LR.out.f 2
  have p0 := LR.out.c 0 rfl
  have p1 := LR.out.c 1 rfl
  have p2 := LR.out.c 2 rfl
  have R := hid (OwnS_zero (N := w.heap.size + 1 + 1) hE.out (by omega) B.out)
  go_wp2
  exact bodyPost_ret (v := .agg #[.bool false, .slice none 0 0, .slice none 0 0]) (by simp [results, Tryz.results81, go_sem, p0, p1, p2]) rfl R.out
 | true =>
 obtain ⟨x, ex, rx⟩ := RatX.of H1.out hp1.symm
 obtain ⟨y, ey, ry⟩ := RatX.of H2.out hp2.symm
 have X := hid rx
 have Y := hid ry
 clear rx ry
 have hE := hid (show o = mulF x y by rw [HO.out, ex, ey, bq_some])
 have KL := hid (fun (W : World) (h : RatX W s (.slice a A.length c) (.slice b D.length d) x) (h' : RatX W t (.slice a' A'.length c') (.slice b' D'.length d') y) => l04Mul_own s t _ _ _ _ x y W h h')
 rw [← hE.out] at KL
 clear hp1 hp2 ex ey hE HO
 obtain ⟨gs, hgs⟩ : ∃ g, g = gzs (qn o) := ⟨_, rfl⟩
 have HGS := hid hgs
 clear hgs
 go_enter Tryz.func81, Tryz.ntmps81
 have q0 := LP.out.c 0 rfl
 have q1 := LP.out.c 1 rfl
 have q2 := LP.out.c 2 rfl
 go_wp2_with fail
 rw [HW.out]
 (with_reducible refine (KA.out _ H1.out).mono ?_)
 clear q0 q1 q2
 rintro e w1 ⟨rfl, b1⟩
 have LR := hid (LR.out.old b1)
 have LP := hid (LP.out.old b1)
 have LQ := hid (LQ.out.old b1)
 have H2 := hid (H2.out.old b1)
 have X := hid (X.out.old b1)
 have Y := hid (Y.out.old b1)
 have B := hid (B.out.trans (b1.mono B.out.size))
 clear b1
 have q0 := LQ.out.c 0 rfl
 have q1 := LQ.out.c 1 rfl
 have q2 := LQ.out.c 2 rfl
 go_wp2_with fail
 (with_reducible refine (KB.out _ H2.out).mono ?_)
 clear q0 q1 q2
 rintro e w2 ⟨rfl, b1⟩
 have LR := hid (LR.out.old b1)
 have LP := hid (LP.out.old b1)
 have LQ := hid (LQ.out.old b1)
 have H2 := hid (H2.out.old b1)
 have X := hid (X.out.old b1)
 have Y := hid (Y.out.old b1)
 have B := hid (B.out.trans (b1.mono B.out.size))
 clear b1
 have q0 := LP.out.c 0 rfl
 have q1 := LP.out.c 1 rfl
 have q2 := LP.out.c 2 rfl
 have q3 := LQ.out.c 0 rfl
 have q4 := LQ.out.c 1 rfl
 have q5 := LQ.out.c 2 rfl
 have hs2 := B.out.size
 go_wp2_with fail
 (with_reducible refine (KL.out _ X.out Y.out).mono ?_)
 clear q0 q1 q2 q3 q4 q5
 rintro e w3 ⟨v1, u1, rfl, j1, j2, b1⟩
 have LR := hid (LR.out.old b1)
 have LP := hid (LP.out.old b1)
 have LQ := hid (LQ.out.old b1)
 have H2 := hid (H2.out.old b1)
 have X := hid (X.out.old b1)
 have Y := hid (Y.out.old b1)
 have B := hid (B.out.trans (b1.mono B.out.size))
 rw [← HGS.out]
 have f0 := LR.out.f 0
 have f1 := LR.out.f 1
 have f2 := LR.out.f 2
 have p0 := LR.out.c 0 rfl
 have p1 := LR.out.c 1 rfl
 have p2 := LR.out.c 2 rfl
 have R := hid (OwnS_out (o := o) (N := w.heap.size + 1 + 1) HGS.out rfl rfl (by omega) LR.out (by decide) hs2 hs2 j1 j2 B.out)
 obtain ⟨e1, d1, rfl, -⟩ := Ints_form j1
 obtain ⟨e2, d2, rfl, -⟩ := Ints_form j2
 clear j1 j2 b1
 go_wp2
 exact bodyPost_ret (v := .agg #[.bool gs, .slice e1 _ d1, .slice e2 _ d2]) (by simp [results, Tryz.results81, go_sem, p0, p1, p2]) rfl R.out
theorem spec_RatSub (s t : Bool) (v u v' u' : Value) (A D A' D' : List Int) (w : World) (h : RL w v u A D) (h' : RL w v' u' A' D') :
  Calls Tryz.prog 67 #[.agg #[.bool s, v, u], .agg #[.bool t, v', u']] w (OwnS (bq subF (rval s A D) (rval t A' D')) w) := by
 obtain ⟨o, ho⟩ : ∃ o, o = bq subF (rval s A D) (rval t A' D') := ⟨_, rfl⟩
 have HO := hid ho
 rw [← ho]
 clear ho
 have KA := hid (fun (W : World) (h : RL W v u A D) => spec_RatOk s v u A D W h)
 have KB := hid (fun (W : World) (h : RL W v' u' A' D') => spec_RatOk t v' u' A' D' W h)
 obtain ⟨a, c, b, d, rfl, rfl⟩ := h.form
 obtain ⟨a', c', b', d', rfl, rfl⟩ := h'.form
 have B := hid (show Below w.heap.size w (((w.alloc (.cells #[.bool s, .slice a A.length c, .slice b D.length d] 37)).alloc (.cells #[.bool t, .slice a' A'.length c', .slice b' D'.length d'] 37)).alloc (.cells #[.bool false, .slice none 0 0, .slice none 0 0] 37)) from (((Below.refl _ _).alloc (Nat.le_refl _) _).alloc (by simp) _).alloc (by simp; try omega) _)
 have LP := hid (show LocA 37 (((w.alloc (.cells #[.bool s, .slice a A.length c, .slice b D.length d] 37)).alloc (.cells #[.bool t, .slice a' A'.length c', .slice b' D'.length d'] 37)).alloc (.cells #[.bool false, .slice none 0 0, .slice none 0 0] 37)) (w.heap.size) #[.bool s, .slice a A.length c, .slice b D.length d] from (LocA.at (by simp)).new1.new1)
 have LQ := hid (show LocA 37 (((w.alloc (.cells #[.bool s, .slice a A.length c, .slice b D.length d] 37)).alloc (.cells #[.bool t, .slice a' A'.length c', .slice b' D'.length d'] 37)).alloc (.cells #[.bool false, .slice none 0 0, .slice none 0 0] 37)) (w.heap.size + 1) #[.bool t, .slice a' A'.length c', .slice b' D'.length d'] from (LocA.at (by simp)).new1)
 have LR := hid (show LocA 37 (((w.alloc (.cells #[.bool s, .slice a A.length c, .slice b D.length d] 37)).alloc (.cells #[.bool t, .slice a' A'.length c', .slice b' D'.length d'] 37)).alloc (.cells #[.bool false, .slice none 0 0, .slice none 0 0] 37)) (w.heap.size + 1 + 1) #[.bool false, .slice none 0 0, .slice none 0 0] from (LocA.at (by simp)))
 have H1 := hid (h.old B.out)
 have H2 := hid (h'.old B.out)
 clear h h'
 generalize hW : ((w.alloc (.cells #[.bool s, .slice a A.length c, .slice b D.length d] 37)).alloc (.cells #[.bool t, .slice a' A'.length c', .slice b' D'.length d'] 37)).alloc (.cells #[.bool false, .slice none 0 0, .slice none 0 0] 37) = W0 at B LP LQ LR H1 H2
 have HW := hid hW
 clear hW
 have hs0 := B.out.size
 obtain ⟨p1, hp1⟩ : ∃ p, p = rok s A D := ⟨_, rfl⟩
 obtain ⟨p2, hp2⟩ : ∃ p, p = rok t A' D' := ⟨_, rfl⟩
 rw [← hp1] at KA
 rw [← hp2] at KB
 cases p1 with
 |false =>
  have hE := hid (show o = none by rw [HO.out]; exact bq_no (by rw [← hp1]; rfl))
  clear hp1 hp2
  go_enter Tryz.func67, Tryz.ntmps67
  have q0 := LP.out.c 0 rfl
  have q1 := LP.out.c 1 rfl
  have q2 := LP.out.c 2 rfl
  go_wp2_with fail
  rw [HW.out]
  (with_reducible refine (KA.out _ H1.out).mono ?_)
  clear q0 q1 q2
  rintro e w1 ⟨rfl, b1⟩
  have LR := hid (LR.out.old b1)
  have B := hid (B.out.trans (b1.mono B.out.size))
  clear b1
  have f0 := LR.out.f 0
  have f1 := LR.out.f 1
  have f2 := LR.out.f 2
  have p0 := LR.out.c 0 rfl
  have p1 := LR.out.c 1 rfl
  have p2 := LR.out.c 2 rfl
  have R := hid (OwnS_zero (N := w.heap.size + 1 + 1) hE.out (by omega) B.out)
  go_wp2
  exact bodyPost_ret (v := .agg #[.bool false, .slice none 0 0, .slice none 0 0]) (by simp [results, Tryz.results67, go_sem, p0, p1, p2]) rfl R.out
 | true =>
 cases p2 with
 |false =>
  have hE := hid (show o = none by rw [HO.out]; exact bq_no (by rw [← hp1, ← hp2]; rfl))
  clear hp1 hp2
  go_enter Tryz.func67, Tryz.ntmps67
  have q0 := LP.out.c 0 rfl
  have q1 := LP.out.c 1 rfl
  have q2 := LP.out.c 2 rfl
  go_wp2_with fail
  rw [HW.out]
  (with_reducible refine (KA.out _ H1.out).mono ?_)
  clear q0 q1 q2
  rintro e w1 ⟨rfl, b1⟩
  have LR := hid (LR.out.old b1)
  have LQ := hid (LQ.out.old b1)
  have H2 := hid (H2.out.old b1)
  have B := hid (B.out.trans (b1.mono B.out.size))
  clear b1
  have q0 := LQ.out.c 0 rfl
  have q1 := LQ.out.c 1 rfl
  have q2 := LQ.out.c 2 rfl
  go_wp2_with fail
  (with_reducible refine (KB.out _ H2.out).mono ?_)
  clear q0 q1 q2
  rintro e w2 ⟨rfl, b1⟩
  have LR := hid (LR.out.old b1)
  have LQ := hid (LQ.out.old b1)
  have H2 := hid (H2.out.old b1)
  have B := hid (B.out.trans (b1.mono B.out.size))
  clear b1
  have f0 := LR.out.f 0
  have f1 := LR.out.f 1
  have f2 := LR.out.f 2
  have p0 := LR.out.c 0 rfl
  have p1 := LR.out.c 1 rfl
  have p2 := LR.out.c 2 rfl
  have R := hid (OwnS_zero (N := w.heap.size + 1 + 1) hE.out (by omega) B.out)
  go_wp2
  exact bodyPost_ret (v := .agg #[.bool false, .slice none 0 0, .slice none 0 0]) (by simp [results, Tryz.results67, go_sem, p0, p1, p2]) rfl R.out
 | true =>
 obtain ⟨x, ex, rx⟩ := RatX.of H1.out hp1.symm
 obtain ⟨y, ey, ry⟩ := RatX.of H2.out hp2.symm
 have X := hid rx
 have Y := hid ry
 clear rx ry
 have hE := hid (show o = addF x (-y) by rw [HO.out, ex, ey, bq_some]; unfold subF addF; rw [Rat.sub_eq_add_neg])
 have KN := hid (fun (W : World) (h : RatX W t (.slice a' A'.length c') (.slice b' D'.length d') y) => l04Neg_own t _ _ y W h)
 have fy : fit (-y) := by
  obtain ⟨_, _, _, _, _, _, f⟩ := Y.out
  exact ⟨by rw [Rat.neg_num, Int.natAbs_neg]; exact f.1, f.2⟩
 obtain ⟨r1, r2, r3, r4⟩ := rval_parts (fitO_some fy)
 have RX := hid (fun (W : World) (v u : Value) (b1 b2 : Nat) (h1 : Ints W b1 v (gzl (qn (some (-y))))) (h2 : Ints W b2 u (gzl (qd (some (-y))))) => show RatX W (gzs (qn (some (-y)))) v u (-y) from by
  obtain ⟨z, e, k⟩ := RatX.of (s := gzs (qn (some (-y)))) (show RL W v u _ _ from ⟨⟨b1, h1⟩, ⟨b2, h2⟩, by omega, by omega⟩) r2
  rw [r1] at e
  cases e
  exact k)
 have KL := hid (fun (W : World) (g : Bool) (v u : Value) (h : RatX W s (.slice a A.length c) (.slice b D.length d) x) (h' : RatX W g v u (-y)) => l04Add_own s g _ _ v u x (-y) W h h')
 rw [← hE.out] at KL
 obtain ⟨gy, hgy⟩ : ∃ z, z = gzs (qn (some (-y))) := ⟨_, rfl⟩
 obtain ⟨ly, hly⟩ : ∃ z, z = gzl (qn (some (-y))) := ⟨_, rfl⟩
 obtain ⟨dy, hdy⟩ : ∃ z, z = gzl (qd (some (-y))) := ⟨_, rfl⟩
 unfold OwnS at KN
 rw [← hgy, ← hly, ← hdy] at KN
 rw [← hgy, ← hly, ← hdy] at RX
 clear hp1 hp2 ex ey hE HO r1 r2 r3 r4 fy hgy hly hdy
 obtain ⟨gs, hgs⟩ : ∃ g, g = gzs (qn o) := ⟨_, rfl⟩
 have HGS := hid hgs
 clear hgs
 go_enter Tryz.func67, Tryz.ntmps67
 have q0 := LP.out.c 0 rfl
 have q1 := LP.out.c 1 rfl
 have q2 := LP.out.c 2 rfl
 go_wp2_with fail
 rw [HW.out]
 (with_reducible refine (KA.out _ H1.out).mono ?_)
 clear q0 q1 q2
 rintro e w1 ⟨rfl, b1⟩
 have LR := hid (LR.out.old b1)
 have LP := hid (LP.out.old b1)
 have LQ := hid (LQ.out.old b1)
 have H2 := hid (H2.out.old b1)
 have X := hid (X.out.old b1)
 have Y := hid (Y.out.old b1)
 have B := hid (B.out.trans (b1.mono B.out.size))
 clear b1
 have q0 := LQ.out.c 0 rfl
 have q1 := LQ.out.c 1 rfl
 have q2 := LQ.out.c 2 rfl
 go_wp2_with fail
 (with_reducible refine (KB.out _ H2.out).mono ?_)
 clear q0 q1 q2
 rintro e w2 ⟨rfl, b1⟩
 have LR := hid (LR.out.old b1)
 have LP := hid (LP.out.old b1)
 have LQ := hid (LQ.out.old b1)
 have H2 := hid (H2.out.old b1)
 have X := hid (X.out.old b1)
 have Y := hid (Y.out.old b1)
 have B := hid (B.out.trans (b1.mono B.out.size))
 clear b1
 go_wp2_with fail
 have LR := hid (LR.out.old (Below_drew1 (Below.refl _ _)))
 have LP := hid (LP.out.old (Below_drew1 (Below.refl _ _)))
 have LQ := hid (LQ.out.old (Below_drew1 (Below.refl _ _)))
 have H2 := hid (H2.out.old (Below_drew1 (Below.refl _ _)))
 have X := hid (X.out.old (Below_drew1 (Below.refl _ _)))
 have Y := hid (Y.out.old (Below_drew1 (Below.refl _ _)))
 have B := hid (Below_drew1 B.out)
 have q0 := LP.out.c 0 rfl
 have q1 := LP.out.c 1 rfl
 have q2 := LP.out.c 2 rfl
 have q3 := LQ.out.c 0 rfl
 have q4 := LQ.out.c 1 rfl
 have q5 := LQ.out.c 2 rfl
 go_region_held3 (fun w' => w'.cell? ⟨w.heap.size, 0, none⟩ = some (.bool s) ∧ w'.cell? ⟨w.heap.size, 1, none⟩ = some (.slice a A.length c) ∧ w'.cell? ⟨w.heap.size, 2, none⟩ = some (.slice b D.length d) ∧ w'.cell? ⟨w.heap.size + 1, 0, none⟩ = some (.bool t) ∧ w'.cell? ⟨w.heap.size + 1, 1, none⟩ = some (.slice a' A'.length c') ∧ w'.cell? ⟨w.heap.size + 1, 2, none⟩ = some (.slice b' D'.length d')) (first | exact ⟨q0, q1, q2, q3, q4, q5⟩ | exact ⟨(cell_set3 (by omega)).trans q0, (cell_set3 (by omega)).trans q1, (cell_set3 (by omega)).trans q2, (cell_set3 (by omega)).trans q3, (cell_set3 (by omega)).trans q4, (cell_set3 (by omega)).trans q5⟩ | go_keep) (first | (go_at_call 130; (with_reducible refine (KN.out _ Y.out).mono ?_); rintro e w3 ⟨v2, u2, rfl, j1, j2, b1⟩; have LR := hid (LR.out.old b1); have LP := hid (LP.out.old b1); have LQ := hid (LQ.out.old b1); have H2 := hid (H2.out.old b1); have X := hid (X.out.old b1); have Y := hid (Y.out.old b1); have B := hid (B.out.trans (b1.mono B.out.size)); have J := hid (RX.out _ _ _ _ _ j1 j2); obtain ⟨a2, c2, rfl, -⟩ := Ints_form j1; obtain ⟨b2, d2, rfl, -⟩ := Ints_form j2; clear j1 j2 b1; have hs2 := B.out.size; have q0 := LP.out.c 0 rfl; have q1 := LP.out.c 1 rfl; have q2 := LP.out.c 2 rfl; have q3 := LQ.out.c 0 rfl; have q4 := LQ.out.c 1 rfl; have q5 := LQ.out.c 2 rfl) | (go_at_call 129; (with_reducible refine (KL.out _ _ _ _ X.out J.out).mono ?_); rintro e w4 ⟨v1, u1, rfl, j1, j2, b1⟩; have LR := hid (LR.out.old b1); have LP := hid (LP.out.old b1); have LQ := hid (LQ.out.old b1); have H2 := hid (H2.out.old b1); have X := hid (X.out.old b1); have Y := hid (Y.out.old b1); have B := hid (B.out.trans (b1.mono B.out.size)); clear b1; have q0 := LP.out.c 0 rfl; have q1 := LP.out.c 1 rfl; have q2 := LP.out.c 2 rfl; have q3 := LQ.out.c 0 rfl; have q4 := LQ.out.c 1 rfl; have q5 := LQ.out.c 2 rfl; have f0 := LR.out.f 0; have f1 := LR.out.f 1; have f2 := LR.out.f 2; have p0 := LR.out.c 0 rfl; have p1 := LR.out.c 1 rfl; have p2 := LR.out.c 2 rfl; rw [← HGS.out]; have R := hid (OwnS_out (o := o) (N := w.heap.size + 1 + 1) HGS.out rfl rfl (by omega) LR.out (by decide) hs2 hs2 j1 j2 B.out); obtain ⟨e1, d1, rfl, -⟩ := Ints_form j1; obtain ⟨e2, d2, rfl, -⟩ := Ints_form j2; clear j1 j2))
 clear q0 q1 q2 q3 q4 q5
 go_wp2
 exact bodyPost_ret (v := .agg #[.bool gs, .slice e1 _ d1, .slice e2 _ d2]) (by simp [results, Tryz.results67, go_sem, p0, p1, p2]) rfl R.out
theorem spec_RatDiv (s t : Bool) (v u v' u' : Value) (A D A' D' : List Int) (w : World) (h : RL w v u A D) (h' : RL w v' u' A' D') :
  Calls Tryz.prog 109 #[.agg #[.bool s, v, u], .agg #[.bool t, v', u']] w (OwnS (bq divF (rval s A D) (rval t A' D')) w) := by
 obtain ⟨o, ho⟩ : ∃ o, o = bq divF (rval s A D) (rval t A' D') := ⟨_, rfl⟩
 have HO := hid ho
 rw [← ho]
 clear ho
 have KA := hid (fun (W : World) (h : RL W v u A D) => spec_RatOk s v u A D W h)
 have KB := hid (fun (W : World) (h : RL W v' u' A' D') => spec_RatOk t v' u' A' D' W h)
 obtain ⟨a, c, b, d, rfl, rfl⟩ := h.form
 obtain ⟨a', c', b', d', rfl, rfl⟩ := h'.form
 have B := hid (show Below w.heap.size w (((w.alloc (.cells #[.bool s, .slice a A.length c, .slice b D.length d] 37)).alloc (.cells #[.bool t, .slice a' A'.length c', .slice b' D'.length d'] 37)).alloc (.cells #[.bool false, .slice none 0 0, .slice none 0 0] 37)) from (((Below.refl _ _).alloc (Nat.le_refl _) _).alloc (by simp) _).alloc (by simp; try omega) _)
 have LP := hid (show LocA 37 (((w.alloc (.cells #[.bool s, .slice a A.length c, .slice b D.length d] 37)).alloc (.cells #[.bool t, .slice a' A'.length c', .slice b' D'.length d'] 37)).alloc (.cells #[.bool false, .slice none 0 0, .slice none 0 0] 37)) (w.heap.size) #[.bool s, .slice a A.length c, .slice b D.length d] from (LocA.at (by simp)).new1.new1)
 have LQ := hid (show LocA 37 (((w.alloc (.cells #[.bool s, .slice a A.length c, .slice b D.length d] 37)).alloc (.cells #[.bool t, .slice a' A'.length c', .slice b' D'.length d'] 37)).alloc (.cells #[.bool false, .slice none 0 0, .slice none 0 0] 37)) (w.heap.size + 1) #[.bool t, .slice a' A'.length c', .slice b' D'.length d'] from (LocA.at (by simp)).new1)
 have LR := hid (show LocA 37 (((w.alloc (.cells #[.bool s, .slice a A.length c, .slice b D.length d] 37)).alloc (.cells #[.bool t, .slice a' A'.length c', .slice b' D'.length d'] 37)).alloc (.cells #[.bool false, .slice none 0 0, .slice none 0 0] 37)) (w.heap.size + 1 + 1) #[.bool false, .slice none 0 0, .slice none 0 0] from (LocA.at (by simp)))
 have H1 := hid (h.old B.out)
 have H2 := hid (h'.old B.out)
 clear h h'
 generalize hW : ((w.alloc (.cells #[.bool s, .slice a A.length c, .slice b D.length d] 37)).alloc (.cells #[.bool t, .slice a' A'.length c', .slice b' D'.length d'] 37)).alloc (.cells #[.bool false, .slice none 0 0, .slice none 0 0] 37) = W0 at B LP LQ LR H1 H2
 have HW := hid hW
 clear hW
 have hs0 := B.out.size
 obtain ⟨p1, hp1⟩ : ∃ p, p = rok s A D := ⟨_, rfl⟩
 obtain ⟨p2, hp2⟩ : ∃ p, p = rok t A' D' := ⟨_, rfl⟩
 rw [← hp1] at KA
 rw [← hp2] at KB
 cases p1 with
 |false =>
  have hE := hid (show o = none by rw [HO.out]; exact bq_no (by rw [← hp1]; rfl))
  clear hp1 hp2
  go_enter Tryz.func109, Tryz.ntmps109
  have q0 := LP.out.c 0 rfl
  have q1 := LP.out.c 1 rfl
  have q2 := LP.out.c 2 rfl
  go_wp2_with fail
  rw [HW.out]
  (with_reducible refine (KA.out _ H1.out).mono ?_)
  clear q0 q1 q2
  rintro e w1 ⟨rfl, b1⟩
  have LR := hid (LR.out.old b1)
  have B := hid (B.out.trans (b1.mono B.out.size))
  clear b1
  have f0 := LR.out.f 0
  have f1 := LR.out.f 1
  have f2 := LR.out.f 2
  have p0 := LR.out.c 0 rfl
  have p1 := LR.out.c 1 rfl
  have p2 := LR.out.c 2 rfl
  have R := hid (OwnS_zero (N := w.heap.size + 1 + 1) hE.out (by omega) B.out)
  go_wp2
  exact bodyPost_ret (v := .agg #[.bool false, .slice none 0 0, .slice none 0 0]) (by simp [results, Tryz.results109, go_sem, p0, p1, p2]) rfl R.out
 | true =>
 cases p2 with
 |false =>
  have hE := hid (show o = none by rw [HO.out]; exact bq_no (by rw [← hp1, ← hp2]; rfl))
  clear hp1 hp2
  go_enter Tryz.func109, Tryz.ntmps109
  have q0 := LP.out.c 0 rfl
  have q1 := LP.out.c 1 rfl
  have q2 := LP.out.c 2 rfl
  go_wp2_with fail
  rw [HW.out]
  (with_reducible refine (KA.out _ H1.out).mono ?_)
  clear q0 q1 q2
  rintro e w1 ⟨rfl, b1⟩
  have LR := hid (LR.out.old b1)
  have LQ := hid (LQ.out.old b1)
  have H2 := hid (H2.out.old b1)
  have B := hid (B.out.trans (b1.mono B.out.size))
  clear b1
  have q0 := LQ.out.c 0 rfl
  have q1 := LQ.out.c 1 rfl
  have q2 := LQ.out.c 2 rfl
  go_wp2_with fail
  (with_reducible refine (KB.out _ H2.out).mono ?_)
  clear q0 q1 q2
  rintro e w2 ⟨rfl, b1⟩
  have LR := hid (LR.out.old b1)
  have LQ := hid (LQ.out.old b1)
  have H2 := hid (H2.out.old b1)
  have B := hid (B.out.trans (b1.mono B.out.size))
  clear b1
  have f0 := LR.out.f 0
  have f1 := LR.out.f 1
  have f2 := LR.out.f 2
  have p0 := LR.out.c 0 rfl
  have p1 := LR.out.c 1 rfl
  have p2 := LR.out.c 2 rfl
  have R := hid (OwnS_zero (N := w.heap.size + 1 + 1) hE.out (by omega) B.out)
  go_wp2
  exact bodyPost_ret (v := .agg #[.bool false, .slice none 0 0, .slice none 0 0]) (by simp [results, Tryz.results109, go_sem, p0, p1, p2]) rfl R.out
 | true =>
 obtain ⟨x, ex, rx⟩ := RatX.of H1.out hp1.symm
 obtain ⟨y, ey, ry⟩ := RatX.of H2.out hp2.symm
 have X := hid rx
 have Y := hid ry
 clear rx ry
 obtain ⟨x', e1, n1, d1, -⟩ := rval_yes hp1.symm
 obtain rfl : x' = x := by rw [e1] at ex; cases ex; rfl
 obtain ⟨y', e2, n2, d2, -⟩ := rval_yes hp2.symm
 obtain rfl : y' = y := by rw [e2] at ey; cases ey; rfl
 have hE := hid (show o = mkFr (sval (!(s == t)) (val A * val D')) (val D * val A') by
  rw [HO.out, ex, ey, bq_some, ← mkFr_div, n1, n2, d1, d2, show (!(s == t)) = (s != t) from rfl, mk_sign]
  cases s <;> cases t <;> simp [sval, Int.mul_comm, Int.neg_mul, Int.mul_neg])
 obtain ⟨b1, i1⟩ := H1.out.a
 obtain ⟨b2, i2⟩ := H1.out.d
 obtain ⟨b3, i3⟩ := H2.out.a
 obtain ⟨b4, i4⟩ := H2.out.d
 obtain ⟨o1, o2, -, -, -, -⟩ := rok_iff.1 hp1.symm
 obtain ⟨o3, o4, -, -, -, -⟩ := rok_iff.1 hp2.symm
 have nA := (bok_iff.1 o1).1
 have nA' := (bok_iff.1 o3).1
 obtain ⟨q1, q2⟩ := rok_lt hp1.symm
 obtain ⟨q3, q4⟩ := rok_lt hp2.symm
 have KM1 := hid (fun (W : World) (h1 : Ints W b1 (.slice a A.length c) A) (h2 : Ints W b4 (.slice b' D'.length d') D') => mul_p h1 h2 nA o4)
 have KM2 := hid (fun (W : World) (h1 : Ints W b2 (.slice b D.length d) D) (h2 : Ints W b3 (.slice a' A'.length c') A') => mul_p h1 h2 o2 nA')
 have m1 := mul48 q1 q4
 have m2 := mul48 q2 q3
 obtain ⟨X, hX⟩ : ∃ X, X = val A * val D' := ⟨_, rfl⟩
 obtain ⟨Y, hY⟩ : ∃ Y, Y = val D * val A' := ⟨_, rfl⟩
 rw [← hX] at KM1 hE m1
 rw [← hY] at KM2 hE m2
 have KL := hid (fun (W : World) (x y : Value) (b1 b2 : Nat) (h1 : Ints W b1 x (rep X.toNat)) (h2 : Ints W b2 y (rep Y.toNat)) => low_p (s := !(s == t)) h1 h2 m1.1 m2.1 m1.2 m2.2)
 rw [← hE.out] at KL
 obtain ⟨L1, hL1⟩ : ∃ L, L = rep X.toNat := ⟨_, rfl⟩
 obtain ⟨L2, hL2⟩ : ∃ L, L = rep Y.toNat := ⟨_, rfl⟩
 rw [← hL1] at KM1 KL
 rw [← hL2] at KM2 KL
 have I1 := hid i1
 have I2 := hid i2
 have I3 := hid i3
 have I4 := hid i4
 clear hp1 hp2 ex ey hE HO e1 n1 d1 e2 n2 d2 i1 i2 i3 i4 o1 o2 o3 o4 nA nA' q1 q2 q3 q4 m1 m2 hX hY hL1 hL2
 obtain ⟨gs, hgs⟩ : ∃ g, g = gzs (qn o) := ⟨_, rfl⟩
 have HGS := hid hgs
 clear hgs
 go_enter Tryz.func109, Tryz.ntmps109
 have q0 := LP.out.c 0 rfl
 have q1 := LP.out.c 1 rfl
 have q2 := LP.out.c 2 rfl
 go_wp2_with fail
 rw [HW.out]
 (with_reducible refine (KA.out _ H1.out).mono ?_)
 clear q0 q1 q2
 rintro e w1 ⟨rfl, b1⟩
 have LR := hid (LR.out.old b1)
 have LP := hid (LP.out.old b1)
 have LQ := hid (LQ.out.old b1)
 have H2 := hid (H2.out.old b1)
 have I1 := hid (Ints_old I1.out b1)
 have I2 := hid (Ints_old I2.out b1)
 have I3 := hid (Ints_old I3.out b1)
 have I4 := hid (Ints_old I4.out b1)
 have B := hid (B.out.trans (b1.mono B.out.size))
 clear b1
 have q0 := LQ.out.c 0 rfl
 have q1 := LQ.out.c 1 rfl
 have q2 := LQ.out.c 2 rfl
 go_wp2_with fail
 (with_reducible refine (KB.out _ H2.out).mono ?_)
 clear q0 q1 q2
 rintro e w2 ⟨rfl, b1⟩
 have LR := hid (LR.out.old b1)
 have LP := hid (LP.out.old b1)
 have LQ := hid (LQ.out.old b1)
 have H2 := hid (H2.out.old b1)
 have I1 := hid (Ints_old I1.out b1)
 have I2 := hid (Ints_old I2.out b1)
 have I3 := hid (Ints_old I3.out b1)
 have I4 := hid (Ints_old I4.out b1)
 have B := hid (B.out.trans (b1.mono B.out.size))
 clear b1
 go_wp2_with fail
 have LR := hid (LR.out.old (Below_drew1 (Below.refl _ _)))
 have LP := hid (LP.out.old (Below_drew1 (Below.refl _ _)))
 have LQ := hid (LQ.out.old (Below_drew1 (Below.refl _ _)))
 have H2 := hid (H2.out.old (Below_drew1 (Below.refl _ _)))
 have I1 := hid (Ints_old I1.out (Below_drew1 (Below.refl _ _)))
 have I2 := hid (Ints_old I2.out (Below_drew1 (Below.refl _ _)))
 have I3 := hid (Ints_old I3.out (Below_drew1 (Below.refl _ _)))
 have I4 := hid (Ints_old I4.out (Below_drew1 (Below.refl _ _)))
 have B := hid (Below_drew1 B.out)
 have q0 := LP.out.c 0 rfl
 have q1 := LP.out.c 1 rfl
 have q2 := LP.out.c 2 rfl
 have q3 := LQ.out.c 0 rfl
 have q4 := LQ.out.c 1 rfl
 have q5 := LQ.out.c 2 rfl
 go_region_held3 (fun w' => w'.cell? ⟨w.heap.size, 0, none⟩ = some (.bool s) ∧ w'.cell? ⟨w.heap.size, 1, none⟩ = some (.slice a A.length c) ∧ w'.cell? ⟨w.heap.size, 2, none⟩ = some (.slice b D.length d) ∧ w'.cell? ⟨w.heap.size + 1, 0, none⟩ = some (.bool t) ∧ w'.cell? ⟨w.heap.size + 1, 1, none⟩ = some (.slice a' A'.length c') ∧ w'.cell? ⟨w.heap.size + 1, 2, none⟩ = some (.slice b' D'.length d')) (first | exact ⟨q0, q1, q2, q3, q4, q5⟩ | exact ⟨(cell_set3 (by omega)).trans q0, (cell_set3 (by omega)).trans q1, (cell_set3 (by omega)).trans q2, (cell_set3 (by omega)).trans q3, (cell_set3 (by omega)).trans q4, (cell_set3 (by omega)).trans q5⟩ | go_keep) (first | (go_at_call 160; (with_reducible refine (KM1.out _ I1.out I4.out).mono ?_); rintro e w3 ⟨r, rfl, i1, b1⟩; have LR := hid (LR.out.old b1); have LP := hid (LP.out.old b1); have LQ := hid (LQ.out.old b1); have H2 := hid (H2.out.old b1); have I1 := hid (Ints_old I1.out b1); have I2 := hid (Ints_old I2.out b1); have I3 := hid (Ints_old I3.out b1); have I4 := hid (Ints_old I4.out b1); have B := hid (B.out.trans (b1.mono B.out.size)); have J1 := hid i1; obtain ⟨a1, c1, rfl, -⟩ := Ints_form i1; clear i1 b1; have q0 := LP.out.c 0 rfl; have q1 := LP.out.c 1 rfl; have q2 := LP.out.c 2 rfl; have q3 := LQ.out.c 0 rfl; have q4 := LQ.out.c 1 rfl; have q5 := LQ.out.c 2 rfl) | (go_at_call 160; (with_reducible refine (KM2.out _ I2.out I3.out).mono ?_); rintro e w4 ⟨r, rfl, i1, b1⟩; have LR := hid (LR.out.old b1); have LP := hid (LP.out.old b1); have LQ := hid (LQ.out.old b1); have H2 := hid (H2.out.old b1); have I1 := hid (Ints_old I1.out b1); have I2 := hid (Ints_old I2.out b1); have I3 := hid (Ints_old I3.out b1); have I4 := hid (Ints_old I4.out b1); have B := hid (B.out.trans (b1.mono B.out.size)); have J1 := hid (Ints_old J1.out b1); have J2 := hid i1; obtain ⟨a2, c2, rfl, -⟩ := Ints_form i1; clear i1 b1; have hs2 := B.out.size; have q0 := LP.out.c 0 rfl; have q1 := LP.out.c 1 rfl; have q2 := LP.out.c 2 rfl; have q3 := LQ.out.c 0 rfl; have q4 := LQ.out.c 1 rfl; have q5 := LQ.out.c 2 rfl) | (go_at_call 159; (with_reducible refine (KL.out _ _ _ _ _ J1.out J2.out).mono ?_); rintro e w5 ⟨v1, u1, rfl, j1, j2, b1⟩; have LR := hid (LR.out.old b1); have LP := hid (LP.out.old b1); have LQ := hid (LQ.out.old b1); have H2 := hid (H2.out.old b1); have I1 := hid (Ints_old I1.out b1); have I2 := hid (Ints_old I2.out b1); have I3 := hid (Ints_old I3.out b1); have I4 := hid (Ints_old I4.out b1); have B := hid (B.out.trans (b1.mono B.out.size)); clear b1; have q0 := LP.out.c 0 rfl; have q1 := LP.out.c 1 rfl; have q2 := LP.out.c 2 rfl; have q3 := LQ.out.c 0 rfl; have q4 := LQ.out.c 1 rfl; have q5 := LQ.out.c 2 rfl; have f0 := LR.out.f 0; have f1 := LR.out.f 1; have f2 := LR.out.f 2; have p0 := LR.out.c 0 rfl; have p1 := LR.out.c 1 rfl; have p2 := LR.out.c 2 rfl; rw [← HGS.out]; have R := hid (OwnS_out (o := o) (N := w.heap.size + 1 + 1) HGS.out rfl rfl (by omega) LR.out (by decide) hs2 hs2 j1 j2 B.out); obtain ⟨e1, d1, rfl, -⟩ := Ints_form j1; obtain ⟨e2, d2, rfl, -⟩ := Ints_form j2; clear j1 j2))
 clear q0 q1 q2 q3 q4 q5
 go_wp2
 exact bodyPost_ret (v := .agg #[.bool gs, .slice e1 _ d1, .slice e2 _ d2]) (by simp [results, Tryz.results109, go_sem, p0, p1, p2]) rfl R.out
theorem spec_RatSign (s : Bool) (v u : Value) (A D : List Int) (w : World) (h : RL w v u A D) :
  Calls Tryz.prog 78 #[.agg #[.bool s, v, u]] w (RetB (.int .i64 (sgnO (rval s A D))) w) := by
 have KO := hid (fun (W : World) (h : RL W v u A D) => spec_RatOk s v u A D W h)
 obtain ⟨z, hz⟩ : ∃ z, z = sgnO (rval s A D) := ⟨_, rfl⟩
 have HZ := hid hz
 rw [← hz]
 clear hz
 have hA : A.length ≤ 1073741824 := by have := h.la; omega
 obtain ⟨a, c, b, d, rfl, rfl⟩ := h.form
 have B := hid (show Below w.heap.size w (w.alloc (.cells #[.bool s, .slice a A.length c, .slice b D.length d] 37)) from (Below.refl _ _).alloc (Nat.le_refl _) _)
 have LP := hid (show LocA 37 (w.alloc (.cells #[.bool s, .slice a A.length c, .slice b D.length d] 37)) (w.heap.size) #[.bool s, .slice a A.length c, .slice b D.length d] from (LocA.at (by simp)))
 have H1 := hid (h.old B.out)
 clear h
 generalize hW : w.alloc (.cells #[.bool s, .slice a A.length c, .slice b D.length d] 37) = W0 at B LP H1
 have HW := hid hW
 clear hW
 have hs0 := B.out.size
 obtain ⟨p, hp⟩ : ∃ p, p = rok s A D := ⟨_, rfl⟩
 rw [← hp] at KO
 cases p with
 |false =>
  have hE := hid (show z = 0 by rw [HZ.out, rval_no hp.symm]; rfl)
  clear hp
  go_enter Tryz.func78, Tryz.ntmps78
  have q0 := LP.out.c 0 rfl
  have q1 := LP.out.c 1 rfl
  have q2 := LP.out.c 2 rfl
  go_wp2_with fail
  rw [HW.out]
  (with_reducible refine (KO.out _ H1.out).mono ?_)
  clear q0 q1 q2
  rintro e w1 ⟨rfl, b1⟩
  have LP := hid (LP.out.old b1)
  have B := hid (B.out.trans (b1.mono B.out.size))
  clear b1
  have q0 := LP.out.c 0 rfl
  have q1 := LP.out.c 1 rfl
  go_wp2
  go_ret
  exact ⟨ret_in hE.out.symm, B.out⟩
 | true =>
 obtain ⟨x, ex, n1, -⟩ := rval_yes hp.symm
 have hE0 := hid (show z = sgn (sval s (val A)) by rw [HZ.out, ex, ← n1]; rfl)
 have kA := (rok_iff.1 hp.symm).1
 have nA := (bok_iff.1 kA).1
 have v0 := val_nonneg (nok_lim nA)
 by_cases h0 : A.length = 0
 ·have hE := hid (show z = 0 by
   rw [hE0.out, List.length_eq_zero_iff.1 h0]
   cases s <;> rfl)
  have h1 : ((A.length : Int) == 0) = true := by simp [h0]
  clear h0 ex n1 kA nA v0 hp
  go_enter Tryz.func78, Tryz.ntmps78
  have q0 := LP.out.c 0 rfl
  have q1 := LP.out.c 1 rfl
  have q2 := LP.out.c 2 rfl
  go_wp2_with fail
  rw [HW.out]
  (with_reducible refine (KO.out _ H1.out).mono ?_)
  clear q0 q1 q2
  rintro e w1 ⟨rfl, b1⟩
  have LP := hid (LP.out.old b1)
  have B := hid (B.out.trans (b1.mono B.out.size))
  clear b1
  have q0 := LP.out.c 0 rfl
  have q1 := LP.out.c 1 rfl
  go_wp2
  go_ret
  exact ⟨ret_in hE.out.symm, B.out⟩
 have h1 : ((A.length : Int) == 0) = false := beq_eq_false_iff_ne.2 (by omega)
 have vp : 0 < val A := vpos nA (fun e => h0 (by rw [e]; rfl))
 cases s with
 |true =>
  have hE := hid (show z = -1 by rw [hE0.out]; unfold sval sgn; rw [if_pos rfl, if_pos (by omega)])
  clear h0 ex n1 kA nA v0 hp vp
  go_enter Tryz.func78, Tryz.ntmps78
  have q0 := LP.out.c 0 rfl
  have q1 := LP.out.c 1 rfl
  have q2 := LP.out.c 2 rfl
  go_wp2_with fail
  rw [HW.out]
  (with_reducible refine (KO.out _ H1.out).mono ?_)
  clear q0 q1 q2
  rintro e w1 ⟨rfl, b1⟩
  have LP := hid (LP.out.old b1)
  have B := hid (B.out.trans (b1.mono B.out.size))
  clear b1
  have q0 := LP.out.c 0 rfl
  have q1 := LP.out.c 1 rfl
  go_wp2
  go_ret
  exact ⟨ret_in hE.out.symm, B.out⟩
 |false =>
  have hE := hid (show z = 1 by rw [hE0.out]; show sgn (val A) = 1; unfold sgn; rw [if_neg (by omega), if_pos vp])
  clear h0 ex n1 kA nA v0 hp vp
  go_enter Tryz.func78, Tryz.ntmps78
  have q0 := LP.out.c 0 rfl
  have q1 := LP.out.c 1 rfl
  have q2 := LP.out.c 2 rfl
  go_wp2_with fail
  rw [HW.out]
  (with_reducible refine (KO.out _ H1.out).mono ?_)
  clear q0 q1 q2
  rintro e w1 ⟨rfl, b1⟩
  have LP := hid (LP.out.old b1)
  have B := hid (B.out.trans (b1.mono B.out.size))
  clear b1
  have q0 := LP.out.c 0 rfl
  have q1 := LP.out.c 1 rfl
  go_wp2
  go_ret
  exact ⟨ret_in hE.out.symm, B.out⟩
theorem spec_RatNeg (s : Bool) (v u : Value) (A D : List Int) (w : World) (h : RL w v u A D) :
  Calls Tryz.prog 108 #[.agg #[.bool s, v, u]] w (OwnS (negO (rval s A D)) w) := by
 obtain ⟨o, ho⟩ : ∃ o, o = negO (rval s A D) := ⟨_, rfl⟩
 have HO := hid ho
 rw [← ho]
 clear ho
 have KO := hid (fun (W : World) (h : RL W v u A D) => spec_RatOk s v u A D W h)
 obtain ⟨a, c, b, d, rfl, rfl⟩ := h.form
 have B := hid (show Below w.heap.size w ((w.alloc (.cells #[.bool s, .slice a A.length c, .slice b D.length d] 37)).alloc (.cells #[.bool false, .slice none 0 0, .slice none 0 0] 37)) from ((Below.refl _ _).alloc (Nat.le_refl _) _).alloc (by simp) _)
 have LP := hid (show LocA 37 ((w.alloc (.cells #[.bool s, .slice a A.length c, .slice b D.length d] 37)).alloc (.cells #[.bool false, .slice none 0 0, .slice none 0 0] 37)) (w.heap.size) #[.bool s, .slice a A.length c, .slice b D.length d] from (LocA.at (by simp)).new1)
 have LR := hid (show LocA 37 ((w.alloc (.cells #[.bool s, .slice a A.length c, .slice b D.length d] 37)).alloc (.cells #[.bool false, .slice none 0 0, .slice none 0 0] 37)) (w.heap.size + 1) #[.bool false, .slice none 0 0, .slice none 0 0] from (LocA.at (by simp)))
 have H1 := hid (h.old B.out)
 clear h
 generalize hW : (w.alloc (.cells #[.bool s, .slice a A.length c, .slice b D.length d] 37)).alloc (.cells #[.bool false, .slice none 0 0, .slice none 0 0] 37) = W0 at B LP LR H1
 have HW := hid hW
 clear hW
 have hs0 := B.out.size
 obtain ⟨p, hp⟩ : ∃ p, p = rok s A D := ⟨_, rfl⟩
 rw [← hp] at KO
 cases p with
 |false =>
  have hE := hid (show o = none by rw [HO.out, rval_no hp.symm]; rfl)
  clear hp
  go_enter Tryz.func108, Tryz.ntmps108
  have q0 := LP.out.c 0 rfl
  have q1 := LP.out.c 1 rfl
  have q2 := LP.out.c 2 rfl
  go_wp2_with fail
  rw [HW.out]
  (with_reducible refine (KO.out _ H1.out).mono ?_)
  clear q0 q1 q2
  rintro e w1 ⟨rfl, b1⟩
  have LR := hid (LR.out.old b1)
  have B := hid (B.out.trans (b1.mono B.out.size))
  clear b1
  have f0 := LR.out.f 0
  have f1 := LR.out.f 1
  have f2 := LR.out.f 2
  have p0 := LR.out.c 0 rfl
  have p1 := LR.out.c 1 rfl
  have p2 := LR.out.c 2 rfl
  have R := hid (OwnS_zero (N := w.heap.size + 1) hE.out (by omega) B.out)
  go_wp2
  exact bodyPost_ret (v := .agg #[.bool false, .slice none 0 0, .slice none 0 0]) (by simp [results, Tryz.results108, go_sem, p0, p1, p2]) rfl R.out
 |true =>
  obtain ⟨x, ex, rx⟩ := RatX.of H1.out hp.symm
  have X := hid rx
  have hE := hid (show o = some (-x) by rw [HO.out, ex]; rfl)
  have KN := hid (fun (W : World) (h : RatX W s (.slice a A.length c) (.slice b D.length d) x) => l04Neg_own s _ _ x W h)
  rw [← hE.out] at KN
  clear ex rx hp hE HO
  obtain ⟨gs, hgs⟩ : ∃ g, g = gzs (qn o) := ⟨_, rfl⟩
  have HGS := hid hgs
  clear hgs
  go_enter Tryz.func108, Tryz.ntmps108
  have q0 := LP.out.c 0 rfl
  have q1 := LP.out.c 1 rfl
  have q2 := LP.out.c 2 rfl
  go_wp2_with fail
  rw [HW.out]
  (with_reducible refine (KO.out _ H1.out).mono ?_)
  clear q0 q1 q2
  rintro e w1 ⟨rfl, b1⟩
  have LR := hid (LR.out.old b1)
  have LP := hid (LP.out.old b1)
  have X := hid (X.out.old b1)
  have B := hid (B.out.trans (b1.mono B.out.size))
  clear b1
  have q0 := LP.out.c 0 rfl
  have q1 := LP.out.c 1 rfl
  have q2 := LP.out.c 2 rfl
  have hs2 := B.out.size
  go_wp2_with fail
  (with_reducible refine (KN.out _ X.out).mono ?_)
  clear q0 q1 q2
  rintro e w2 ⟨v1, u1, rfl, j1, j2, b1⟩
  have LR := hid (LR.out.old b1)
  have LP := hid (LP.out.old b1)
  have X := hid (X.out.old b1)
  have B := hid (B.out.trans (b1.mono B.out.size))
  rw [← HGS.out]
  have f0 := LR.out.f 0
  have f1 := LR.out.f 1
  have f2 := LR.out.f 2
  have p0 := LR.out.c 0 rfl
  have p1 := LR.out.c 1 rfl
  have p2 := LR.out.c 2 rfl
  have R := hid (OwnS_out (o := o) (N := w.heap.size + 1) HGS.out rfl rfl (by omega) LR.out (by decide) hs2 hs2 j1 j2 B.out)
  obtain ⟨e1, d1, rfl, -⟩ := Ints_form j1
  obtain ⟨e2, d2, rfl, -⟩ := Ints_form j2
  clear j1 j2 b1
  go_wp2
  exact bodyPost_ret (v := .agg #[.bool gs, .slice e1 _ d1, .slice e2 _ d2]) (by simp [results, Tryz.results108, go_sem, p0, p1, p2]) rfl R.out
end Go.Proofs.YthkehmnodcmlcaaGreat
