import Derived.Test.YtjjainnafihkdaaGreatSws
import Derived.Test.YtjjainnafihkdaaGreatSra
import Derived.Test.YtjjainnafihkdaaGreatRhi
import Derived.Deep.RegionHeld3
import Derived.Maps.AppendAt
import Derived.Deep.DeepCutAuto
import Derived.Test.YtjjainnafihkdaaGreatRo
import Derived.Test.YtjjainnafihkdaaGreatFrb
import Derived.Test.YtjjainnafihkdaaGreatVbe
import Derived.Deep.AppendLies
import Derived.Test.YtjjainnafihkdaaGreatYu
import Derived.Test.YtjjainnafihkdaaGreatYk
import Derived.Test.YtjjainnafihkdaaGreatXh
import Derived.Test.YtjjainnafihkdaaGreatYh
import Derived.Test.YtjjainnafihkdaaGreatZs
import Derived.Test.YtjjainnafihkdaaGreatZm
import Derived.Test.YtjjainnafihkdaaGreatXd
import Derived.StillTailTactics
import Derived.Test.YtjjainnafihkdaaGreatVz
import Derived.Deep.LoopGhost
set_option maxRecDepth 100000
set_option maxHeartbeats 12800000
set_option linter.unusedVariables false
set_option linter.unusedSimpArgs false
namespace Go.Proofs.YtjjainnafihkdaaGreat
open Go.RowKit
open Go.Lib (hid)
end Go.Proofs.YtjjainnafihkdaaGreat
namespace Go.Proofs.YtjjainnafihkdaaGreat
open Go.RowKit
open Go.Lib (hid)
theorem l04Copy_own (s : Bool) (v u : Value) (x : Rat) (w : World) (h : RatX w s v u x) :
  Calls Tryz.prog 107 #[.agg #[.bool s, v, u]] w (OwnS (some x) w) := by
 obtain ⟨A, D, r1, k1, n1, d1, f1⟩ := h
 obtain ⟨a, c, b, d, rfl, rfl⟩ := r1.form
 obtain ⟨b1, i1⟩ := r1.a
 obtain ⟨b2, i2⟩ := r1.d
 obtain ⟨o1, o2, -, -, -, -⟩ := rok_iff.1 k1
 have nA := (bok_iff.1 o1).1
 have hA : A.length ≤ 1073741824 := by have := nok_len nA; omega
 have hD : D.length ≤ 1073741824 := by have := nok_len o2; omega
 clear r1
 have hE := hid (show s = gzs (qn (some x)) ∧ A = gzl (qn (some x)) ∧ D = gzl (qd (some x)) by
  have e1 := gz_of o1
  have e2 := gz_of (bok_pos o2)
  refine ⟨?_, ?_, ?_⟩
  ·show s = gzs x.num; rw [n1]; exact e1.1.symm
  ·show A = gzl x.num; rw [n1]; exact e1.2.symm
  ·show D = gzl (x.den : Int); rw [d1]; exact e2.2.symm)
 obtain ⟨o, ho⟩ : ∃ o, o = some x := ⟨_, rfl⟩
 rw [← ho] at hE ⊢
 clear ho k1 n1 d1 f1 o1 o2 nA
 have B := hid (show Below w.heap.size w ((w.alloc (.cells #[.bool s, .slice a A.length c, .slice b D.length d] 62)).alloc (.cells #[.bool false, .slice none 0 0, .slice none 0 0] 62)) from ((Below.refl _ _).alloc (Nat.le_refl _) _).alloc (by simp) _)
 have LP := hid (show LocA 62 ((w.alloc (.cells #[.bool s, .slice a A.length c, .slice b D.length d] 62)).alloc (.cells #[.bool false, .slice none 0 0, .slice none 0 0] 62)) (w.heap.size) #[.bool s, .slice a A.length c, .slice b D.length d] from (LocA.at (by simp)).new1)
 have LR := hid (show LocA 62 ((w.alloc (.cells #[.bool s, .slice a A.length c, .slice b D.length d] 62)).alloc (.cells #[.bool false, .slice none 0 0, .slice none 0 0] 62)) (w.heap.size + 1) #[.bool false, .slice none 0 0, .slice none 0 0] from (LocA.at (by simp)))
 have X1 := hid (Ints_old i1 B.out)
 have X2 := hid (Ints_old i2 B.out)
 clear i1 i2
 generalize hW : (w.alloc (.cells #[.bool s, .slice a A.length c, .slice b D.length d] 62)).alloc (.cells #[.bool false, .slice none 0 0, .slice none 0 0] 62) = W0 at B LP LR X1 X2
 have HW := hid hW
 clear hW
 have hs0 := B.out.size
 have ht0 := LR.out.lt
 go_enter Tryz.func107, Tryz.ntmps107
 go_wp2_with fail
 rw [HW.out]
 have LPD := hid (LP.out.old (Below_drew1 (Below.refl _ _)))
 have LPE := hid (LP.out.old (Below_drew1 (below_new' (o := .cells #[] 3))))
 have LRD := hid (LR.out.old (Below_drew1 (Below.refl _ _)))
 have LRE := hid (LR.out.old (Below_drew1 (below_new' (o := .cells #[] 3))))
 have X1D := hid (Ints_old X1.out (Below_drew1 (Below.refl _ _)))
 have X1E := hid (Ints_old X1.out (Below_drew1 (below_new' (o := .cells #[] 3))))
 have X2D := hid (Ints_old X2.out (Below_drew1 (Below.refl _ _)))
 have X2E := hid (Ints_old X2.out (Below_drew1 (below_new' (o := .cells #[] 3))))
 have BD := hid (Below_drew1 B.out)
 have BE := hid (show Below w.heap.size w (W0.alloc (.cells #[] 3)).drew from Below_drew1 (B.out.alloc hs0 _))
 have HE := hid (show (W0.alloc (.cells #[] 3)).drew.heap[W0.heap.size]? = some (.cells #[] 3 (0, 0)) ∧ W0.heap.size < (W0.alloc (.cells #[] 3)).drew.heap.size from ⟨heap_alloc_new W0 _, by show W0.heap.size < (W0.alloc _).heap.size; simp⟩)
 have LPF := hid (LP.out.old (Below_drew1 (below_new2 (o := .cells #[] 3) (o' := .cells #[] 3))))
 have LRF := hid (LR.out.old (Below_drew1 (below_new2 (o := .cells #[] 3) (o' := .cells #[] 3))))
 have X1F := hid (Ints_old X1.out (Below_drew1 (below_new2 (o := .cells #[] 3) (o' := .cells #[] 3))))
 have X2F := hid (Ints_old X2.out (Below_drew1 (below_new2 (o := .cells #[] 3) (o' := .cells #[] 3))))
 have BF := hid (show Below w.heap.size w ((W0.alloc (.cells #[] 3)).alloc (.cells #[] 3)).drew from Below_drew1 ((B.out.alloc hs0 _).alloc (by simp; omega) _))
 have HF := hid (show ((W0.alloc (.cells #[] 3)).alloc (.cells #[] 3)).drew.heap[W0.heap.size]? = some (.cells #[] 3 (0, 0)) ∧ ((W0.alloc (.cells #[] 3)).alloc (.cells #[] 3)).drew.heap[W0.heap.size + 1]? = some (.cells #[] 3 (0, 0)) ∧ ((W0.alloc (.cells #[] 3)).alloc (.cells #[] 3)).drew.heap.size = W0.heap.size + 1 + 1 from ⟨heap_alloc2_old W0 _ _, heap_alloc2_new W0 _ _, by show ((W0.alloc _).alloc _).heap.size = _; simp⟩)
 have XB := hid (show ∀ k, (Value.slice b D.length d).ownBlock = some k → k < W0.heap.size from fun k hk => (Ints_lt X2.out k hk).2)
 have q0 := LPD.out.c 0 rfl
 have q1 := LPD.out.c 1 rfl
 have q2 := LPD.out.c 2 rfl
 go_region_held3 (fun w' => w'.cell? ⟨w.heap.size, 0, none⟩ = some (.bool s) ∧ w'.cell? ⟨w.heap.size, 1, none⟩ = some (.slice a A.length c) ∧ w'.cell? ⟨w.heap.size, 2, none⟩ = some (.slice b D.length d)) (first | exact ⟨q0, q1, q2⟩ | exact ⟨LPE.out.c 0 rfl, LPE.out.c 1 rfl, LPE.out.c 2 rfl⟩ | exact ⟨(LP.out.new1).c 0 rfl, (LP.out.new1).c 1 rfl, (LP.out.new1).c 2 rfl⟩ | exact ⟨(LPF.out).c 0 rfl, (LPF.out).c 1 rfl, (LPF.out).c 2 rfl⟩ | exact ⟨(cell_set3 (by omega)).trans q0, (cell_set3 (by omega)).trans q1, (cell_set3 (by omega)).trans q2⟩ | exact ⟨LPF.out.c 0 rfl, LPF.out.c 1 rfl, LPF.out.c 2 rfl⟩ | go_keep) (first | (refine step_append_int (by rfl) _ _ (by rfl) (W0.alloc (.cells #[] 3)).drew W0.heap.size b1 W0.heap.size (.slice a A.length c) A (by rfl) (Ints_lit HE.out.1 (Nat.le_refl _)) (by have := HE.out.2; omega) (by rfl) X1E.out hA ?_; intro v1 w1 i1 o1 hat1; have LR := hid (LRE.out.apart o1 (by omega)); have LP := hid (LPE.out.apart o1 (by omega)); have X2 := hid (Ints_apart X2E.out o1 (fun e => by have := XB.out _ e; omega)); have B := hid (BE.out.trans (Only_below o1 (by omega) BE.out.size)); have hs1 := B.out.size; have I1 := hid i1; have hk1 := hid hat1; have ht1 := LR.out.lt; have hz1 := o1.size; have hcase : w1.heap.size > W0.heap.size := (by have := HE.out.2; omega); have q0 := LP.out.c 0 rfl; have q1 := LP.out.c 1 rfl; have q2 := LP.out.c 2 rfl; obtain ⟨a1, c1, rfl, -⟩ := Ints_form i1; clear i1 o1 hat1) | (refine step_append_int (by rfl) _ _ (by rfl) ((W0.alloc (.cells #[] 3)).alloc (.cells #[] 3)).drew W0.heap.size b1 W0.heap.size (.slice a A.length c) A (by rfl) (Ints_lit HF.out.1 (Nat.le_refl _)) (by have := HF.out.2.2; omega) (by rfl) X1F.out hA ?_; intro v1 w1 i1 o1 hat1; have LR := hid (LRF.out.apart o1 (by omega)); have LP := hid (LPF.out.apart o1 (by omega)); have X2 := hid (Ints_apart X2F.out o1 (fun e => by have := XB.out _ e; omega)); have B := hid (BF.out.trans (Only_below o1 (by omega) BF.out.size)); have hs1 := B.out.size; have I1 := hid i1; have hk1 := hid hat1; have ht1 := LR.out.lt; have hz1 := o1.size; have HG := hid ((o1.block (W0.heap.size + 1) (fun hs => by have := HF.out.2.2; omega)).trans HF.out.2.1); have hg1 : W0.heap.size + 1 < w1.heap.size := (by have := HF.out.2.2; omega); have hn1 := hid (show ∀ k, v1.ownBlock = some k → k ≠ W0.heap.size + 1 from fun k hk => (by have := HF.out.2.2; rcases hat1 with e | e <;> (rw [e] at hk; cases hk; omega))); have q0 := LP.out.c 0 rfl; have q1 := LP.out.c 1 rfl; have q2 := LP.out.c 2 rfl; obtain ⟨a1, c1, rfl, -⟩ := Ints_form i1; clear i1 o1 hat1) | (refine step_append_int (by rfl) _ _ (by rfl) ((W0.alloc (.cells #[] 3)).alloc (.cells #[] 3)).drew (W0.heap.size + 1) b1 W0.heap.size (.slice a A.length c) A (by rfl) (Ints_lit HF.out.2.1 (by omega)) (by have := HF.out.2.2; omega) (by rfl) X1F.out hA ?_; intro v1 w1 i1 o1 hat1; have LR := hid (LRF.out.apart o1 (by omega)); have LP := hid (LPF.out.apart o1 (by omega)); have X2 := hid (Ints_apart X2F.out o1 (fun e => by have := XB.out _ e; omega)); have B := hid (BF.out.trans (Only_below o1 (by omega) BF.out.size)); have hs1 := B.out.size; have I1 := hid i1; have hk1 := hid hat1; have ht1 := LR.out.lt; have hz1 := o1.size; have HG := hid ((o1.block W0.heap.size (fun hs => by have := HF.out.2.2; omega)).trans HF.out.1); have hg1 : W0.heap.size + 1 < w1.heap.size := (by have := HF.out.2.2; omega); have hn1 := hid (show ∀ k, v1.ownBlock = some k → k ≠ W0.heap.size from fun k hk => (by have := HF.out.2.2; rcases hat1 with e | e <;> (rw [e] at hk; cases hk; omega))); have q0 := LP.out.c 0 rfl; have q1 := LP.out.c 1 rfl; have q2 := LP.out.c 2 rfl; obtain ⟨a1, c1, rfl, -⟩ := Ints_form i1; clear i1 o1 hat1) | (refine step_append_int (by rfl) _ _ (by rfl) (w1.alloc (.cells #[] 3)) w1.heap.size b2 w1.heap.size (.slice b D.length d) D (by rfl) (Ints_lit0 rfl) (by simp) (by rfl) (Ints_old X2.out (below_new' (o := .cells #[] 3))) hD ?_; intro v9 w9 i9 o9 hat; clear hat; have LR := hid ((LR.out.new1 (o := .cells #[] 3)).apart o9 (by omega)); have LP := hid ((LP.out.new1 (o := .cells #[] 3)).apart o9 (by omega)); have I1 := hid (Ints_base (Ints_apart (Ints_old I1.out (below_new' (o := .cells #[] 3))) o9 (fun e => by have := (Ints_lt I1.out _ e).2; omega)) hs0); have B := hid ((B.out.alloc hs1 (.cells #[] 3)).trans (Only_below o9 hs1 (by simp; omega))); have I2 := hid (Ints_base i9 hs1); have q0 := LP.out.c 0 rfl; have q1 := LP.out.c 1 rfl; have q2 := LP.out.c 2 rfl; have f0 := LR.out.f 0; have f1 := LR.out.f 1; have f2 := LR.out.f 2; have p0 := LR.out.c 0 rfl; have p1 := LR.out.c 1 rfl; have p2 := LR.out.c 2 rfl; have R := hid (OwnS_out (o := o) (s := s) (N := w.heap.size + 1) (w := w) hE.out.1 hE.out.2.1 hE.out.2.2 (by omega) LR.out (by decide) (Nat.le_refl _) (Nat.le_refl _) I1.out I2.out B.out); obtain ⟨a2, c2, rfl, -⟩ := Ints_form i9; clear i9 o9) | (refine step_append_int (by rfl) _ _ (by rfl) w1 (W0.heap.size + 1) b2 W0.heap.size (.slice b D.length d) D (by rfl) (Ints_lit HG.out (by omega)) (by omega) (by rfl) X2.out hD ?_; intro v9 w9 i9 o9 hat; clear hat; have LR := hid (LR.out.apart o9 (by omega)); have LP := hid (LP.out.apart o9 (by omega)); have I1 := hid (Ints_base (Ints_apart I1.out o9 (fun e => hn1.out _ e rfl)) hs0); have B := hid (B.out.trans (Only_below o9 (by omega) hs1)); have I2 := hid (Ints_base i9 hs0); have q0 := LP.out.c 0 rfl; have q1 := LP.out.c 1 rfl; have q2 := LP.out.c 2 rfl; have f0 := LR.out.f 0; have f1 := LR.out.f 1; have f2 := LR.out.f 2; have p0 := LR.out.c 0 rfl; have p1 := LR.out.c 1 rfl; have p2 := LR.out.c 2 rfl; have R := hid (OwnS_out (o := o) (s := s) (N := w.heap.size + 1) (w := w) hE.out.1 hE.out.2.1 hE.out.2.2 (by omega) LR.out (by decide) (Nat.le_refl _) (Nat.le_refl _) I1.out I2.out B.out); obtain ⟨a2, c2, rfl, -⟩ := Ints_form i9; clear i9 o9) | (refine step_append_int (by rfl) _ _ (by rfl) w1 W0.heap.size b2 W0.heap.size (.slice b D.length d) D (by rfl) (Ints_lit HG.out (by omega)) (by omega) (by rfl) X2.out hD ?_; intro v9 w9 i9 o9 hat; clear hat; have LR := hid (LR.out.apart o9 (by omega)); have LP := hid (LP.out.apart o9 (by omega)); have I1 := hid (Ints_base (Ints_apart I1.out o9 (fun e => hn1.out _ e rfl)) hs0); have B := hid (B.out.trans (Only_below o9 (by omega) hs1)); have I2 := hid (Ints_base i9 hs0); have q0 := LP.out.c 0 rfl; have q1 := LP.out.c 1 rfl; have q2 := LP.out.c 2 rfl; have f0 := LR.out.f 0; have f1 := LR.out.f 1; have f2 := LR.out.f 2; have p0 := LR.out.c 0 rfl; have p1 := LR.out.c 1 rfl; have p2 := LR.out.c 2 rfl; have R := hid (OwnS_out (o := o) (s := s) (N := w.heap.size + 1) (w := w) hE.out.1 hE.out.2.1 hE.out.2.2 (by omega) LR.out (by decide) (Nat.le_refl _) (Nat.le_refl _) I1.out I2.out B.out); obtain ⟨a2, c2, rfl, -⟩ := Ints_form i9; clear i9 o9))
 all_goals
  try clear q0 q1 q2
  go_wp2
  exact bodyPost_ret (v := .agg #[.bool s, .slice a1 _ c1, .slice a2 _ c2]) (by simp [results, Tryz.results107, go_sem, p0, p1, p2]) rfl R.out
end Go.Proofs.YtjjainnafihkdaaGreat
namespace Go.Proofs.YtjjainnafihkdaaGreat
open Go.RowKit
open Go.Lib (hid)
end Go.Proofs.YtjjainnafihkdaaGreat
namespace Go.Proofs.YtjjainnafihkdaaGreat
open Go.RowKit
open Go.Lib (hid)
end Go.Proofs.YtjjainnafihkdaaGreat
namespace Go.Proofs.YtjjainnafihkdaaGreat
open Go.RowKit
open Go.Lib (hid)
theorem l04Copy_o {w : World} {s : Bool} {v u : Value} {x : Rat} (h : RA w s v u (some x)) : Calls Tryz.prog 107 #[.agg #[.bool s, v, u]] w (RatO false (some x) w) :=
 (l04Copy_own s v u x w h.x).mono fun e w' hh => RatO_ofS hh h.fitO
end Go.Proofs.YtjjainnafihkdaaGreat
namespace Go.Proofs.YtjjainnafihkdaaGreat
open Go.RowKit
open Go.Lib (hid)
end Go.Proofs.YtjjainnafihkdaaGreat
namespace Go.Proofs.YtjjainnafihkdaaGreat
open Go.RowKit
open Go.Lib (hid)
end Go.Proofs.YtjjainnafihkdaaGreat
namespace Go.Proofs.YtjjainnafihkdaaGreat
open Go.RowKit
open Go.Lib (hid)
end Go.Proofs.YtjjainnafihkdaaGreat
namespace Go.Proofs.YtjjainnafihkdaaGreat
open Go.RowKit
open Go.Lib (hid)
end Go.Proofs.YtjjainnafihkdaaGreat
namespace Go.Proofs.YtjjainnafihkdaaGreat
open Go.RowKit
open Go.Lib (hid)
end Go.Proofs.YtjjainnafihkdaaGreat
namespace Go.Proofs.YtjjainnafihkdaaGreat
open Go.RowKit
open Go.Lib (hid)
theorem eqRatS_vo (p1 p2 : Bool) (v1 v2 : Value) (E1 E2 : List El) (l1 h1 l2 h2 : Nat) (he : keys E1 = keys E2) (hK : szK (keys E1) ≤ 4194304) (w : World) (o1 : VO p1 w v1 E1 l1 h1) (o2 : VO p2 w v2 E2 l2 h2) :
  Calls Tryz.prog 30 #[v1, v2] w (RetB (.bool true) w) := by
 obtain ⟨a1, c1, rfl, -⟩ := o1.form
 obtain ⟨a2, c2, rfl, -⟩ := o2.form
 exact eqRatS_w hK w o1.vw (by rw [he]; exact o2.vw)
end Go.Proofs.YtjjainnafihkdaaGreat
namespace Go.Proofs.YtjjainnafihkdaaGreat
open Go.RowKit
open Go.Lib (hid)
end Go.Proofs.YtjjainnafihkdaaGreat
namespace Go.Proofs.YtjjainnafihkdaaGreat
open Go.RowKit
open Go.Lib (hid)
section
variable {ops : Array Oper} {o : Oper} {a : Act} {p : Bool} {W : World} {v x y : Value} {Ks : List Fq} {lo hi lo' B : Nat} {sg : Bool} {oo : Option Rat}
end
theorem eqRatS_k {p1 p2 : Bool} {v1 v2 : Value} {K : List Fq} {l1 h1 l2 h2 : Nat} (hK : szK K ≤ 4194304) (w : World) (o1 : VK p1 w v1 K l1 h1) (o2 : VK p2 w v2 K l2 h2) :
  Calls Tryz.prog 30 #[v1, v2] w (RetB (.bool true) w) := by
 obtain ⟨E1, o1, rfl⟩ := o1
 obtain ⟨E2, o2, e⟩ := o2
 exact eqRatS_vo p1 p2 v1 v2 E1 E2 l1 h1 l2 h2 e.symm hK w o1 o2
theorem heldRatS_k {p : Bool} {v : Value} {K : List Fq} {m : Int} {lo hi : Nat} (hK : szK K ≤ 4194304) (m0 : 0 ≤ m) (m1 : m ≤ 4194304) (w : World) (o1 : VK p w v (mkK K m) lo hi) :
  Calls Tryz.prog 32 #[v, .int .i64 m] w (RetB (.int .i64 (m + (szK K : Int))) w) := by
 obtain ⟨a, c, rfl⟩ := o1.form
 exact heldRatS_w hK m0 m1 w o1.vw
end Go.Proofs.YtjjainnafihkdaaGreat
namespace Go.Proofs.YtjjainnafihkdaaGreat
open Go.RowKit
open Go.Lib (hid)
end Go.Proofs.YtjjainnafihkdaaGreat
namespace Go.Proofs.YtjjainnafihkdaaGreat
open Go.RowKit
open Go.Lib (hid)
theorem reduceRows_nil {a : Option Addr} {n c : Nat} {M : List (List Fq)} {lo hi : Nat} (h0 : M.length = 0) (w : World) (h : MW w a n M lo hi) :
  Calls Tryz.prog 110 #[.slice a n c] w (fun e w' => ∃ a' c', e = .returned (.tuple #[.slice a' 0 c', .slice none 0 0]) ∧ MAK w' (.slice a' 0 c') [] w.heap.size w'.heap.size ∧ Below w.heap.size w w') := by
 have hM0 : M = [] := List.eq_nil_of_length_eq_zero h0
 subst hM0
 have HV := hid h
 obtain rfl := h.num
 have hSM : Sm2 [] := ⟨fun K hK => (by cases hK), by simp⟩
 have KO := hid (impl_MatOk (c := c) hSM w h)
 rw [show matOk [] = true from rfl] at KO
 have KC := hid (fun (U : World) (hb : Below w.heap.size w U) => copyMat_any (c := c) hSM rfl U (HV.out.old hb))
 have KW := hid (fun (U : World) (hb : Below w.heap.size w U) => impl_matWidth (c := c) hSM U (HV.out.old hb))
 rw [show matW [] = 0 from rfl] at KW
 simp only [List.length_nil] at KO KC KW ⊢
 clear h hSM h0
 go_enter Tryz.func110, Tryz.ntmps110
 go_wp2
 go_step3
 go_wp2_with fail
 (with_reducible refine (KO.out).mono ?_)
 rintro e w1 ⟨rfl, hb⟩
 have HB1 := hid hb
 clear hb
 go_wp2_with fail
 (with_reducible refine (KC.out _ HB1.out).mono ?_)
 rintro e w2 ⟨a1, n1, c1, rfl, hMG, hb⟩
 obtain rfl : n1 = 0 := by have := hMG.num; simpa using this
 have HM := hid (show MAK w2 (.slice a1 0 c1) [] w.heap.size w2.heap.size from hMG.wide HB1.out.size (Nat.le_refl _))
 have HB2 := hid (HB1.out.trans (hb.mono HB1.out.size))
 clear hMG hb
 go_wp2
 go_step3
 go_wp2_with fail
 (with_reducible refine (KW.out _ HB2.out).mono ?_)
 rintro e w3 ⟨rfl, rfl⟩
 go_wp2
 go_loopg [5, 17] 0 (fun gg pv t wr => pv = .slice none 0 0 ∧ t = .int .i64 0 ∧ wr = w2)
 case atStart => exact ⟨rfl, rfl, rfl⟩
 case round =>
  obtain ⟨rfl, rfl, rfl⟩ := hrel
  go_wp2
  (try simp only [Exit.inBlock, Exit.then])
  (try rw [Exit.noGoto_ret])
  refine bodyPost_ret (results_tmp2 rfl _ _ _) rfl ?_
  exact ⟨_, _, rfl, HM.out, HB2.out⟩
end Go.Proofs.YtjjainnafihkdaaGreat
namespace Go.Proofs.YtjjainnafihkdaaGreat
open Go.RowKit
open Go.Lib (hid)
end Go.Proofs.YtjjainnafihkdaaGreat
namespace Go.Proofs.YtjjainnafihkdaaGreat
open Go.RowKit
open Go.Lib (hid)
def colF (V : List Fq) : List (List Fq) := V.map fun f => [f]
theorem colF_len (V : List Fq) : (colF V).length = V.length := by simp [colF]
theorem colF_at {V : List Fq} {k : Nat} (h : k < (colF V).length) : (colF V)[k] = [V[k]'(by rw [colF_len] at h; exact h)] := by simp [colF]
theorem matOk_one {V : List Fq} (h : oks (vals V) = true) : matOk [V] = true := matOk_yes (by simp) fun k hk => by
 have : k = 0 := by simp at hk; omega
 subst this
 exact ⟨rfl, h⟩
theorem matT_one {V : List Fq} (h : oks (vals V) = true) : matT [V] = colF V := by
 unfold matT
 rw [if_pos (matOk_one h)]
 apply List.ext_getElem
 ·simp [colF, matW]
 ·intro k h1 h2
  have hk : k < V.length := by rw [colF_len] at h2; exact h2
  rw [colF_at]
  simp [elt_at hk]
theorem oks_app {K L : List Fq} (h : oks (vals (K ++ L)) = true) : oks (vals K) = true ∧ oks (vals L) = true := by
 have hn := oks_n h
 rw [List.length_append] at hn
 refine ⟨oks_yes (by omega) fun k hk => ?_, oks_yes (by omega) fun k hk => ?_⟩
 ·have := oks_at h (k := k) (by rw [List.length_append]; omega)
  rwa [List.getElem_append_left hk] at this
 ·have := oks_at h (k := K.length + k) (by rw [List.length_append]; omega)
  have e : (K ++ L)[K.length + k]'(by rw [List.length_append]; omega) = L[k] := by simp [List.getElem_append_right]
  rwa [e] at this
theorem join_ok {M O : List (List Fq)} (h : M.length ≤ O.length) (h0 : 0 < M.length) (hO : ∀ k (hk : k < O.length), O[k].length = matW O) (hok : matOk (joinF M O) = true) : matOk M = true := by
 have hl := joinF_len h
 have hn := matOk_n hok
 refine matOk_yes (by omega) fun k hk => ?_
 have := matOk_row hok (k := k) (by omega)
 rw [joinF_at h hk, join_w h h0, List.length_append, hO k (by omega)] at this
 exact ⟨by omega, (oks_app this.2).1⟩
theorem col_ok {V : List Fq} (h : oks (vals V) = true) : matOk (colF V) = true ∧ ∀ k (hk : k < (colF V).length), (colF V)[k].length = matW (colF V) := by
 have hw : ∀ k (hk : k < (colF V).length), (colF V)[k].length = matW (colF V) := fun k hk => by
  rw [matW_at (by omega), colF_at, colF_at]; rfl
 refine ⟨matOk_yes (by rw [colF_len]; exact oks_n h) fun k hk => ⟨hw k hk, ?_⟩, hw⟩
 rw [colF_at]
 rw [colF_len] at hk
 exact oks_yes (by simp) fun j hj => by
  have : j = 0 := by simp at hj; omega
  subst this
  exact oks_at h hk
theorem colF_w {V : List Fq} (h : 0 < V.length) : matW (colF V) = 1 := by rw [matW_at (by rw [colF_len]; exact h), colF_at]; rfl
def solJ (W : Nat) (S : List (List Rat)) (ps : List Nat) : Nat → List Rat
 | 0 => List.replicate W 0
 | j + 1 => (solJ W S ps j).set (ps.getD j 0) (el (S.getD j []) W)
theorem solJ_len (W : Nat) (S : List (List Rat)) (ps : List Nat) : ∀ j, (solJ W S ps j).length = W
 | 0 => by simp [solJ]
 | j + 1 => by rw [solJ, List.length_set, solJ_len W S ps j]
theorem fit_el {W : Nat} {S : List (List Rat)} (h : Rows W S) (i c : Nat) : fit (el (S.getD i []) c) := by
 by_cases hi : i < S.length
 ·rw [List.getD_eq_getElem?_getD, List.getElem?_eq_getElem hi, Option.getD_some]
  by_cases hc : c < S[i].length
  ·exact af_el (h.at hi).2 hc
  ·rw [el_out (by omega)]; exact fit_zero
 ·rw [List.getD_eq_getElem?_getD, List.getElem?_eq_none (by omega), Option.getD_none, el_out (by simp)]; exact fit_zero
theorem solJ_af {W V : Nat} {S : List (List Rat)} (h : Rows V S) (ps : List Nat) : ∀ j, AF (solJ W S ps j)
 | 0 => fun x hx => by rw [(List.mem_replicate.1 hx).2]; exact fit_zero
 |j + 1 => fun x hx => by
  rcases List.mem_or_eq_of_mem_set hx with hx | rfl
  ·exact solJ_af h ps j x hx
  ·exact fit_el h _ _
theorem solJ_zero (W : Nat) (S : List (List Rat)) (ps : List Nat) (hW : W ≤ 40) : zeroK (W : Int) = rv (solJ W S ps 0) := by
 rw [zeroK_yes hW, solJ, rv, List.map_replicate]; rfl
theorem rv_set' (X : List Rat) (k : Nat) (x : Rat) : rv (X.set k x) = (rv X).set k (fqo (some x)) := by rw [rv, List.map_set]; rfl
noncomputable def solK (M : List (List Fq)) (V : List Fq) : Option (List Rat) :=
 if (oks (vals V) = true ∧ M.length = V.length) ∧ M.length ≠ 0 ∧ matOk (joinF M (colF V)) = true then
  match redK (un (joinF M (colF V))) (matW M + 1) with
  | none => none
  | some (S, ps) => if matW M ∈ ps then none else some (solJ (matW M) S ps ps.length)
 else none
noncomputable def solV (M : List (List Fq)) (V : List Fq) : List Fq := match solK M V with
 | none => []
 | some x => rv x
noncomputable def solB (M : List (List Fq)) (V : List Fq) : Bool := (solK M V).isSome
theorem solK_no {M : List (List Fq)} {V : List Fq} (h : ¬ ((oks (vals V) = true ∧ M.length = V.length) ∧ M.length ≠ 0 ∧ matOk (joinF M (colF V)) = true)) : solK M V = none := by unfold solK; rw [if_neg h]
theorem sol_none {M : List (List Fq)} {V : List Fq} (h : solK M V = none) : solV M V = [] ∧ solB M V = false := by
 unfold solV solB; rw [h]; exact ⟨rfl, rfl⟩
theorem sol_some {M : List (List Fq)} {V : List Fq} {x : List Rat} (h : solK M V = some x) : solV M V = rv x ∧ solB M V = true := by
 unfold solV solB; rw [h]; exact ⟨rfl, rfl⟩
theorem solV_sz (M : List (List Fq)) (V : List Fq) : szK (solV M V) ≤ 2000 := by
 cases e : solK M V with
 | none => rw [(sol_none e).1]; simp [szK]
 |some x =>
  rw [(sol_some e).1]
  unfold solK at e
  split at e
  ·rename_i hc
   split at e
   ·cases e
   ·rename_i S ps hr
    split at e
    ·cases e
    ·simp only [Option.some.injEq] at e
     subst e
     obtain ⟨u1, u2⟩ := un_rv hc.2.2
     obtain ⟨i1, -⟩ := redK_inv u2 hr
     have hw := matOk_w hc.2.2
     rw [join_w (by rw [colF_len, hc.1.2]; exact Nat.le_refl _) (Nat.pos_of_ne_zero hc.2.1)] at hw
     exact Nat.le_trans (fv_sz (solJ_af i1 _ _) (by rw [solJ_len]; omega)) (by decide)
  ·cases e
end Go.Proofs.YtjjainnafihkdaaGreat
namespace Go.Proofs.YtjjainnafihkdaaGreat
open Go.RowKit
open Go.Lib (hid)
theorem elt_take {M : List (List Fq)} {F : List Fq → Fq} {k : Nat} (h : k < M.length) : (M.map F).take k ++ [F M[k]] = (M.map F).take (k + 1) := by
 rw [List.take_succ_eq_append_getElem (by simpa using h), List.getElem_map]
theorem copyCol_any {a : Option Addr} {n c : Nat} {M : List (List Fq)} {lo hi col : Nat} (hM : Sm2 M) (hcol : col ≤ 1048576) (w : World) (h : MW w a n M lo hi) (hc : ∀ k (hk : k < M.length), col < M[k].length) :
  Calls Tryz.prog 139 #[.slice a n c, .int .i64 (col : Int)] w (VecR true (M.map fun K => elt K col) w) := by
 have HV := hid h
 have HCo := hid hc
 obtain rfl := h.num
 clear h hc
 have hkl := hM.2
 obtain ⟨RS, hRS⟩ : ∃ RS, RS = M.map fun K => elt K col := ⟨_, rfl⟩
 rw [← hRS]
 have HRS := hid hRS
 have HRL := hid (show RS.length = M.length by rw [hRS, List.length_map])
 clear hRS
 go_enter Tryz.func139, Tryz.ntmps139
 go_wp2
 go_loopw [5, 10] (fun v i wr => ∃ (k : Nat) (a' : Option Addr) (c' : Nat), k ≤ M.length ∧ i = .int .i64 k ∧ v = .slice a' k c' ∧ Hid (VK true wr (.slice a' k c') (RS.take k) w.heap.size wr.heap.size) ∧ Below w.heap.size w wr) (fun _ i _ => M.length - (intOf i).toNat)
 case atStart => exact ⟨0, none, 0, Nat.zero_le _, rfl, rfl, hid (VK_nil _ _ _ _), Below.refl _ _⟩
 case round =>
  obtain ⟨k, a', c', hk, rfl, rfl, hV, hbel⟩ := hrel
  have HB := hid hbel
  by_cases hlt : k < M.length
  ·obtain ⟨g, o, b, d, rfl, hg, q0, V⟩ := (HV.out.old hbel).at hlt
   have hcl := HCo.out k hlt
   have hel := elt_at hcl
   have hSK := hM.at hlt
   have hsn := elt_take (F := fun K => elt K col) hlt
   rw [← HRS.out] at hsn
   obtain ⟨K, hKK⟩ : ∃ K, M[k]'(hlt) = K := ⟨_, rfl⟩
   simp only [hKK] at q0 V hcl hel hSK hsn
   obtain ⟨g1, p1, a3, n3, c3, b3, m3, d3, rfl, hg1, q1, q2, q3, R⟩ := V.at hSK hcl
   rw [hel] at hsn
   obtain ⟨⟨s, A, D⟩, hf⟩ : ∃ f, K[col]'hcl = f := ⟨_, rfl⟩
   simp only [hf] at q1 R hsn
   have HSN := hid hsn
   have KF := hid (copy_f (s := s) R)
   have a1' : (0 : Int) ≤ k := by omega
   have a2 : (k : Int) < M.length := by omega
   have a3' : (0 : Int) ≤ col := by omega
   have a4 : (col : Int) < K.length := by omega
   have hz := hbel.size
   have hkM := hid hlt
   clear hbel hel hf hsn R V hKK
   go_wp2_with fail
   (with_reducible refine (KF.out).mono ?_)
   rintro e w2 ⟨x1, x2, x3, x4, rfl, hr, hb⟩
   have V2 := hid (hV.out.old hb)
   have R2 := hid hr
   have hz2 := hb.size
   have HB2 := hid ((HB.out.trans (hb.mono hz)).alloc (Nat.le_trans hz hz2) (.cells #[.bool s, .slice x1 A.length x2, .slice x3 D.length x4] 62))
   clear hr hb q0 q1 q2 q3
   have PV := hid (V2.out.old (below_new' (o := .cells #[.bool s, .slice x1 A.length x2, .slice x3 D.length x4] 62)))
   have PR := hid (R2.out.old (below_new' (o := .cells #[.bool s, .slice x1 A.length x2, .slice x3 D.length x4] 62)))
   have PB := hid (heap_alloc_new w2 (.cells #[.bool s, .slice x1 A.length x2, .slice x3 D.length x4] 62))
   have hln := hid (show (RS.take k).length = k by rw [List.length_take, HRL.out]; omega)
   go_wp2_with (at_builtin; refine wpList_pushF rfl _ _ rfl rfl PV.out (Nat.le_refl _) hz PR.out rfl PB.out (by rw [hln.out]; omega) (by simp; omega) (n := k + 1) (by rw [hln.out]) ?_)
   intro gp cp wp hvp hbp
   rw [HSN.out] at hvp
   have HB3 := hid (HB2.out.trans hbp)
   have HV3 := hid hvp
   clear hvp hbp
   go_wp2
   go_roundw
   case rel => exact ⟨k + 1, some ⟨gp, 0, none⟩, cp, by omega, by go_num, rfl, HV3, HB3.out⟩
   case measure => simp [intOf]; omega
  ·obtain rfl : k = M.length := by omega
   have R := hid (show VecR true RS w (.returned (.slice a' M.length c')) wr from ⟨_, _, _, rfl, by have h1 := hV.out; rwa [List.take_of_length_le (by rw [HRL.out]; exact Nat.le_refl _)] at h1, HB.out⟩)
   clear hbel
   go_wp2
   go_ret
   exact R.out
theorem col_row {B : Nat} {a : Option Addr} {n c : Nat} {M : List (List Fq)} {lo hi : Nat} {i : Nat} (hM : Sm2 M) (hi' : i ≤ 1048576) (W : World) (hB : W.cell? ⟨B, 0, none⟩ = some (.slice a n c)) (h : MW W a n M lo hi) (hc : ∀ k (hk : k < M.length), i < M[k].length) :
  Calls Tryz.prog 138 #[.int .i64 (i : Int), .pointer (some ⟨B, 0, none⟩)] W (VecR true (M.map fun K => elt K i) W) := by
 have KE := hid (copyCol_any (c := c) hM hi' W h hc)
 clear h hc
 go_enter Tryz.func138, Tryz.ntmps138
 go_wp2_with fail
 (with_reducible refine (KE.out).mono ?_)
 rintro e w2 ⟨a5, n5, c5, rfl, hv, hb⟩
 have R := hid (show VecR true (M.map fun K => elt K i) W (.returned (.slice a5 n5 c5)) w2 from ⟨_, _, _, rfl, hv, hb⟩)
 clear hv hb
 go_wp2
 go_ret
 exact R.out
theorem impl_MatTranspose {a : Option Addr} {n c : Nat} {M : List (List Fq)} {lo hi : Nat} (hM : Sm2 M) (w : World) (h : MW w a n M lo hi) :
    Calls Tryz.prog 54 #[.slice a n c] w (MatG (matT M) w) := by
  have BW := hid (below_new' (w := w) (o := .cells #[.slice a n c] 24))
  have HBc := hid (show (w.alloc (.cells #[.slice a n c] 24)).cell? ⟨w.heap.size, 0, none⟩ = some (.slice a n c) by simp)
  have HS := hid (show (w.alloc (.cells #[.slice a n c] 24)).heap.size = w.heap.size + 1 by simp)
  have HV := hid (h.old BW.out)
  obtain rfl := h.num
  clear h
  have hkl := hM.2
  generalize hWW : w.alloc (.cells #[.slice a M.length c] 24) = W at BW HBc HS HV
  have HWW := hid hWW
  clear hWW
  have KO := hid (impl_MatOk (c := c) hM W HV.out)
  have q0 := HBc.out
  cases hok : matOk M with
  | false =>
    rw [hok] at KO
    have HR := hid (show matT M = [] by unfold matT; rw [hok, if_neg (by decide)])
    rw [HR.out]
    clear hok HR
    go_enter Tryz.func54, Tryz.ntmps54
    go_wp2_with fail
    rw [HWW.out]
    (with_reducible refine (KO.out).mono ?_)
    rintro e w2 ⟨rfl, hb⟩
    have R := hid (MatG_nil w (BW.out.trans (hb.mono BW.out.size)))
    clear hb q0
    go_wp2
    go_ret
    exact R.out
  | true =>
    rw [hok] at KO
    have hn40 := matOk_n hok
    have hw40 := matOk_w hok
    have HR := hid (show matT M = bmF (matW M) M.length (fun i => M.map fun K => elt K i) by
      unfold matT
      rw [if_pos hok, bmF_yes fun i _ => by rw [List.length_map]])
    rw [HR.out]
    clear HR
    have KB := hid (fun (U : World) (hb : Below W.heap.size W U) => buildMat_any hw40 hn40 138 #[.pointer (some ⟨w.heap.size, 0, none⟩)] (fun i => M.map fun K => elt K i) U (fun args W => enter_of Tryz.func138 (by kernel_rfl) rfl args W)
      (fun i hi V hv => col_row hM (by omega) V (((hb.trans (hv.mono hb.size)).cell (p := ⟨w.heap.size, 0, none⟩) (by rw [HS.out]; simp)).trans HBc.out) (HV.out.old (hb.trans (hv.mono hb.size))) (fun k hk => by have := matOk_row hok hk; omega)))
    have KW := hid (fun (U : World) (hb : Below W.heap.size W U) => impl_matWidth (c := c) hM U (HV.out.old hb))
    generalize matW M = Wd at KB KW hw40 ⊢
    generalize bmF Wd M.length (fun i => M.map fun K => elt K i) = RS at KB ⊢
    clear hok
    go_enter Tryz.func54, Tryz.ntmps54
    go_wp2_with fail
    rw [HWW.out]
    (with_reducible refine (KO.out).mono ?_)
    rintro e w2 ⟨rfl, hb⟩
    have HB2 := hid hb
    have q0 := (hb.cell (p := ⟨w.heap.size, 0, none⟩) (by rw [HS.out]; simp)).trans q0
    have HB3 := hid (BW.out.trans (hb.mono BW.out.size))
    have HS3 := hid (show w.heap.size ≤ w2.heap.size from HB3.out.size)
    have HS4 := hid (show w.heap.size < w2.heap.size by have := hb.size; have := HS.out; omega)
    clear hb
    go_wp2_with fail
    go_region_held3 (fun w' => w'.cell? ⟨w.heap.size, 0, none⟩ = some (.slice a M.length c)) (first | with_reducible exact q0 | go_keep)
      (first
        | (go_at_call 109; (with_reducible refine (KW.out _ (Below_drew1 HB2.out)).mono ?_); rintro e w3 ⟨rfl, rfl⟩)
        | (go_at_call 115; (with_reducible refine (KB.out _ (Below_drew1 HB2.out)).mono ?_); rintro e w3 ⟨a5, n5, c5, rfl, hv, hb⟩
           have R := hid (show MatG RS w (.returned (.slice a5 n5 c5)) w3 from ⟨_, _, _, rfl, hv.wide HS3.out (Nat.le_refl _), (Below_drew1 HB3.out).trans (hb.mono HS3.out)⟩)
           have q0 := (hb.cell (p := ⟨w.heap.size, 0, none⟩) HS4.out).trans q0
           clear hv hb))
    all_goals
      clear q0
      go_wp2
      go_ret
      exact R.out
end Go.Proofs.YtjjainnafihkdaaGreat
namespace Go.Proofs.YtjjainnafihkdaaGreat
open Go.RowKit
open Go.Lib (hid)
def IdxR (x : Int) (L : List Int) (w : World) (e : Ending) (w' : World) : Prop := ((∃ k : Nat, (∃ hk : k < L.length, L[k] = x) ∧ e = .returned (.int .i64 (k : Int))) ∨ (¬ x ∈ L ∧ e = .returned (.int .i64 (-1)))) ∧ w = w'
theorem index_int {a : Option Addr} {n c : Nat} {L : List Int} {x : Int} {lo : Nat} (hl : L.length ≤ 1048576) (w : World) (h : Ints w lo (.slice a n c) L) :
  Calls Tryz.prog 181 #[.slice a n c, .int .i64 x] w (IdxR x L w) := by
 obtain ⟨a', c', e, -, hr, -⟩ := Ints_form h
 simp only [Value.slice.injEq] at e
 obtain ⟨rfl, rfl, rfl⟩ := e
 have HR := hid hr
 clear h hr
 go_enter Tryz.func181, Tryz.ntmps181
 go_wp2
 go_loopw [8] (fun i wr => ∃ k : Nat, k ≤ L.length ∧ i = .int .i64 k ∧ Hid (∀ j (h : j < L.length), j < k → L[j] ≠ x) ∧ w = wr) (fun i _ => L.length - (intOf i).toNat)
 case atStart => exact ⟨0, Nat.zero_le _, rfl, hid (fun j h hj => absurd hj (by omega)), rfl⟩
 case round =>
  obtain ⟨k, hk, rfl, hA, rfl⟩ := hrel
  by_cases hlt : k < L.length
  ·obtain ⟨g, o, rfl, -, hc⟩ := HR.out.2 (by omega)
   have q0 := hc k hlt
   have a1 : (0 : Int) ≤ k := by omega
   have a2 : (k : Int) < L.length := by omega
   clear hc
   by_cases he : L[k] = x
   ·have R := hid (show IdxR x L w (.returned (.int .i64 (k : Int))) w from ⟨.inl ⟨k, ⟨hlt, he⟩, rfl⟩, rfl⟩)
    rw [he] at q0
    clear he
    go_wp2
    go_ret
    exact R.out
   ·have e1 : (x == L[k]) = false := beq_eq_false_iff_ne.2 (fun e => he e.symm)
    have e2 : ¬ x = L[k] := fun e => he e.symm
    have HA := hid (show ∀ j (h : j < L.length), j < k + 1 → L[j] ≠ x from fun j h hj => by
     rcases Nat.lt_or_eq_of_le (Nat.le_of_lt_succ hj) with hj | rfl
     ·exact hA.out j h hj
     ·exact he)
    clear he
    generalize L[k] = y at q0 e1 e2
    go_wp2
    go_roundw
    case rel => exact ⟨k + 1, by omega, by go_num, HA, by first | rfl | trivial⟩
    case measure => simp [intOf]; omega
  ·have R := hid (show IdxR x L w (.returned (.int .i64 (-1))) w from ⟨.inr ⟨fun hm => by
    obtain ⟨j, hj, e⟩ := List.getElem_of_mem hm
    exact hA.out j hj (by omega) e, rfl⟩, rfl⟩)
   go_wp2
   go_ret
   exact R.out
theorem contains_int {a : Option Addr} {n c : Nat} {L : List Int} {x : Int} {lo : Nat} (B : Bool) (hB : B = true ↔ x ∈ L) (hl : L.length ≤ 1048576) (w : World) (h : Ints w lo (.slice a n c) L) :
  Calls Tryz.prog 112 #[.slice a n c, .int .i64 x] w (fun e w' => e = .returned (.bool B) ∧ w = w') := by
 have KI := hid (index_int (x := x) hl w h)
 have HB := hid hB
 clear h hB
 go_enter Tryz.func112, Tryz.ntmps112
 go_wp2_with fail
 (with_reducible refine (KI.out).mono ?_)
 rintro e w2 ⟨⟨k, ⟨hk, he⟩, rfl⟩ | ⟨hn, rfl⟩, rfl⟩
 ·have R := hid (show B = true from HB.out.2 (by rw [← he]; exact List.getElem_mem hk))
  have a1 : (0 : Int) ≤ k := by omega
  clear he
  go_wp2
  go_ret
  exact ⟨bool_ret R.out.symm, rfl⟩
 ·have R := hid (show B = false by
   cases e : B with
   | false => rfl
   | true => exact absurd (HB.out.1 e) hn)
  clear hn
  go_wp2
  go_ret
  exact ⟨bool_ret R.out.symm, rfl⟩
def SolR (p : Bool) (K : List Fq) (B : Bool) (w : World) (e : Ending) (w' : World) : Prop := ∃ a n c, e = .returned (.tuple #[.slice a n c, .bool B]) ∧ VK p w' (.slice a n c) K w.heap.size w'.heap.size ∧ Below w.heap.size w w'
theorem SolR_no {p : Bool} {K : List Fq} {B : Bool} {w w' : World} (hK : K = []) (hB : B = false) (hb : Below w.heap.size w w') : SolR p K B w (.returned (.tuple #[.slice none 0 0, .bool false])) w' := by
 subst hK hB
 exact ⟨_, _, _, rfl, VK_nil _ _ _ _, hb⟩
end Go.Proofs.YtjjainnafihkdaaGreat
