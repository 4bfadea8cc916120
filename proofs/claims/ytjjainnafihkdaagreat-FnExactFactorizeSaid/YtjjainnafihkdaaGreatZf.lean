import Derived.Test.YtjjainnafihkdaaGreatZv
import Derived.Test.YtjjainnafihkdaaGreatZr
set_option maxRecDepth 100000
set_option maxHeartbeats 6400000
set_option linter.unusedVariables false
set_option linter.unusedSimpArgs false
namespace Go.Proofs.YtjjainnafihkdaaGreat
open Go.RowKit
open Go.Lib (hid)
theorem eqEtaS_nil (w : World) : Calls Tryz.prog 70 #[.slice none 0 0, .slice none 0 0] w (RetB (.bool true) w) := by
 go_enter Tryz.func70, Tryz.ntmps70
 go_wp2
 go_loopw [5] (fun i wr => i = .int .i64 0 ∧ w = wr) (fun _ _ => 0)
 case atStart => exact ⟨rfl, rfl⟩
 case round =>
  obtain ⟨rfl, rfl⟩ := hrel
  go_wp2
  go_ret
  exact ⟨rfl, Below.refl _ _⟩
theorem markEtaS_nil (m : Int) (w : World) : Calls Tryz.prog 71 #[.slice none 0 0, .int .i64 m] w (RetB (.int .i64 m) w) := by
 go_enter Tryz.func71, Tryz.ntmps71
 go_wp2
 go_loopw [1, 5] (fun x i wr => x = .int .i64 m ∧ i = .int .i64 0 ∧ w = wr) (fun _ _ _ => 0)
 case atStart => exact ⟨rfl, rfl, rfl⟩
 case round =>
  obtain ⟨rfl, rfl, rfl⟩ := hrel
  go_wp2
  go_ret
  exact ⟨rfl, Below.refl _ _⟩
theorem heldEtaS_nil (m : Int) (w : World) : Calls Tryz.prog 72 #[.slice none 0 0, .int .i64 m] w (RetB (.int .i64 m) w) := by
 go_enter Tryz.func72, Tryz.ntmps72
 go_wp2
 go_loopw [1, 5] (fun x i wr => x = .int .i64 m ∧ i = .int .i64 0 ∧ w = wr) (fun _ _ _ => 0)
 case atStart => exact ⟨rfl, rfl, rfl⟩
 case round =>
  obtain ⟨rfl, rfl, rfl⟩ := hrel
  go_wp2
  go_ret
  exact ⟨rfl, Below.refl _ _⟩
theorem eqFactor_nil {a1 a2 : Option Addr} {n1 n2 c1 c2 : Nat} {M : List (List Fq)} {l1 h1 l2 h2 : Nat} (hM : szM M ≤ 4194304) (hL : M.length ≤ 4194304) (w : World) (o1 : MW w a1 n1 M l1 h1) (o2 : MW w a2 n2 M l2 h2) :
  Calls Tryz.prog 19 #[.agg #[.slice a1 n1 c1, .slice none 0 0], .agg #[.slice a2 n2 c2, .slice none 0 0]] w (RetB (.bool true) w) := by
 have B := hid (below_new2 (w := w) (o := .cells #[.slice a1 n1 c1, .slice none 0 0] 27) (o' := .cells #[.slice a2 n2 c2, .slice none 0 0] 27))
 have L1 := hid ((LocA.at (T := 27) (w := w) (b := w.heap.size) (cs := #[.slice a1 n1 c1, .slice none 0 0]) rfl).new1 (o := .cells #[.slice a2 n2 c2, .slice none 0 0] 27))
 have L2 := hid (LocA.at (T := 27) (w := w.alloc (.cells #[.slice a1 n1 c1, .slice none 0 0] 27)) (b := w.heap.size + 1) (cs := #[.slice a2 n2 c2, .slice none 0 0]) (by simp))
 have O1 := hid (o1.old B.out)
 have O2 := hid (o2.old B.out)
 have K := hid (fun (W : World) (g1 : MW W a1 n1 M l1 h1) (g2 : MW W a2 n2 M l2 h2) => eqRatSS_w (c1 := c1) (c2 := c2) hM hL W g1 g2)
 have K2 := hid (fun (W : World) => eqEtaS_nil W)
 clear o1 o2
 generalize hW : (w.alloc (.cells #[.slice a1 n1 c1, .slice none 0 0] 27)).alloc (.cells #[.slice a2 n2 c2, .slice none 0 0] 27) = W0 at B L1 L2 O1 O2
 have HW := hid hW
 clear hW
 go_enter Tryz.func19, Tryz.ntmps19
 go_wp2_with fail
 rw [HW.out]
 (with_reducible refine (K.out _ O1.out O2.out).mono ?_)
 rintro e w1 ⟨rfl, g1⟩
 have L1 := hid (L1.out.old g1)
 have L2 := hid (L2.out.old g1)
 have B := hid (B.out.trans (g1.mono B.out.size))
 have q0 := L1.out.c 1 rfl
 have q1 := L2.out.c 1 rfl
 clear g1
 go_wp2_with fail
 (with_reducible refine (K2.out _).mono ?_)
 rintro e w2 ⟨rfl, g1⟩
 have B := hid (B.out.trans (g1.mono B.out.size))
 clear g1 q0 q1
 go_wp2
 go_ret
 exact ⟨rfl, B.out⟩
theorem heldFactor_nil {a1 : Option Addr} {n1 c1 : Nat} {M : List (List Fq)} {l1 h1 : Nat} {m : Int} (hM : szM M ≤ 2097152) (hL : M.length ≤ 4194304) (m0 : 0 ≤ m) (m1 : m ≤ 2097152) (w : World) (o1 : MW w a1 n1 (mkM M m) l1 h1) :
  Calls Tryz.prog 23 #[.agg #[.slice a1 n1 c1, .slice none 0 0], .int .i64 m] w (RetB (.int .i64 (m + (szM M : Int))) w) := by
 have B := hid (below_new' (w := w) (o := .cells #[.slice a1 n1 c1, .slice none 0 0] 27))
 have L1 := hid (LocA.at (T := 27) (w := w) (b := w.heap.size) (cs := #[.slice a1 n1 c1, .slice none 0 0]) rfl)
 have O1 := hid (o1.old B.out)
 have K := hid (fun (W : World) (g1 : MW W a1 n1 (mkM M m) l1 h1) => heldRatSS_w (c := c1) hM hL m0 m1 W g1)
 have K2 := hid (fun (W : World) => heldEtaS_nil (m + (szM M : Int)) W)
 have hm : ¬ m + (szM M : Int) < 0 := by omega
 clear o1
 generalize hW : w.alloc (.cells #[.slice a1 n1 c1, .slice none 0 0] 27) = W0 at B L1 O1
 have HW := hid hW
 clear hW
 generalize m + (szM M : Int) = y at K K2 hm ⊢
 go_enter Tryz.func23, Tryz.ntmps23
 go_wp2_with fail
 rw [HW.out]
 (with_reducible refine (K.out _ O1.out).mono ?_)
 rintro e w1 ⟨rfl, g1⟩
 have L1 := hid (L1.out.old g1)
 have B := hid (B.out.trans (g1.mono B.out.size))
 have q0 := L1.out.c 1 rfl
 clear g1
 go_wp2_with fail
 (with_reducible refine (K2.out _).mono ?_)
 rintro e w2 ⟨rfl, g1⟩
 have B := hid (B.out.trans (g1.mono B.out.size))
 clear g1 q0
 go_wp2
 go_ret
 exact ⟨rfl, B.out⟩
theorem markFactor_nil {a1 : Option Addr} {n1 c1 : Nat} {M : List (List Fq)} {l1 h1 : Nat} {m : Int} (hM : szM M ≤ 2097152) (hL : M.length ≤ 4194304) (m0 : 0 ≤ m) (m1 : m ≤ 2097152) (w : World) (hh : h1 ≤ w.heap.size) (o1 : MAK w (.slice a1 n1 c1) M l1 h1) :
  Calls Tryz.prog 22 #[.agg #[.slice a1 n1 c1, .slice none 0 0], .int .i64 m] w (MarkA (.slice a1 n1 c1) M m l1 h1 w) := by
 have B := hid (below_new' (w := w) (o := .cells #[.slice a1 n1 c1, .slice none 0 0] 27))
 have L1 := hid (LocA.at (T := 27) (w := w) (b := w.heap.size) (cs := #[.slice a1 n1 c1, .slice none 0 0]) rfl)
 have O1 := hid (o1.old B.out)
 have K := hid (fun (W : World) (g1 : MAK W (.slice a1 n1 c1) M l1 h1) => markRatSS_a hM hL m0 m1 W g1)
 have K2 := hid (fun (W : World) => markEtaS_nil (m + (szM M : Int)) W)
 have HZ := hid (show (w.alloc (.cells #[.slice a1 n1 c1, .slice none 0 0] 27)).heap.size = w.heap.size + 1 by simp)
 clear o1
 generalize hW : w.alloc (.cells #[.slice a1 n1 c1, .slice none 0 0] 27) = W0 at B L1 O1 HZ
 have HW := hid hW
 clear hW
 obtain ⟨y, hy⟩ : ∃ y, y = m + (szM M : Int) := ⟨_, rfl⟩
 have HY := hid hy
 rw [← hy] at K2
 have K3 := hid (K.out _ O1.out)
 unfold MarkA at K3
 rw [← hy] at K3
 have RR := hid (fun (w' : World) (g1 : MAK w' (.slice a1 n1 c1) (mkM M m) l1 h1) (g2 : Only (InG l1 h1 w.heap.size) w w') => show MarkA (.slice a1 n1 c1) M m l1 h1 w (.returned (.int .i64 y)) w' from ⟨by rw [HY.out], g1, g2⟩)
 clear hy K
 go_enter Tryz.func22, Tryz.ntmps22
 go_wp2_with fail
 rw [HW.out]
 (with_reducible refine (K3.out).mono ?_)
 rintro e w1 ⟨rfl, g1, g2⟩
 have hq : w1.heap[w.heap.size]? = W0.heap[w.heap.size]? := g2.block _ fun hs => by have := InG_cases hs; have := HZ.out; omega
 have q0 := (World.cell?_of_block (a := ⟨w.heap.size, 1, none⟩) hq).trans (L1.out.c 1 rfl)
 have G1 := hid g1
 have P := hid ((Only.of_below B.out (S := InG l1 h1 w.heap.size) fun k hk => .inr hk).trans (g2.mono fun k hk => by
  rcases InG_cases hk with h | h
  ·exact .inl ⟨h.1, h.2⟩
  ·exact .inr (by have := HZ.out; omega)))
 clear g1 g2 hq
 go_wp2_with fail
 (with_reducible refine (K2.out _).mono ?_)
 rintro e w2 ⟨rfl, g1⟩
 have R := hid (RR.out w2 (G1.out.old g1) (P.out.trans (Only.of_below g1 fun k hk => .inr (Nat.le_trans P.out.size hk))))
 clear g1 q0
 go_wp2
 go_ret
 exact R.out
theorem only_set2 {w : World} {g : Nat} {x y : Value} : Only (InG g (g + 1) w.heap.size) w ((w.setCell ⟨g, 0, none⟩ x).setCell ⟨g, 1, none⟩ y) :=
 ⟨rfl, rfl, rfl, by simp, fun k hk => by
  have : k ≠ g := fun e => hk (.inl ⟨by omega, by omega⟩)
  rw [Below.heap_setCell _ _ _ _ this, Below.heap_setCell _ _ _ _ this]⟩
theorem below_set2 {w w1 : World} {x y : Value} (h : Below w.heap.size w w1) : Below w.heap.size w ((w1.setCell ⟨w.heap.size, 0, none⟩ x).setCell ⟨w.heap.size, 1, none⟩ y) := (h.setCell (p := ⟨w.heap.size, 0, none⟩) (Nat.le_refl _) x).setCell (p := ⟨w.heap.size, 1, none⟩) (Nat.le_refl _) y
def FacG (K : List (List Fq)) (B : Bool) (w : World) (e : Ending) (w' : World) : Prop := ∃ a n c, e = .returned (.tuple #[.agg #[.slice a n c, .slice none 0 0], .bool B]) ∧ MAK w' (.slice a n c) K w.heap.size w'.heap.size ∧ Below w.heap.size w w'
def FacS (K : List (List Fq)) (B : Bool) (w : World) (e : Ending) (w' : World) : Prop := ∃ a n c, e = .returned (.tuple #[.agg #[.slice a n c, .slice none 0 0], .bool B]) ∧ MW w' a n K w.heap.size w'.heap.size ∧ Below w.heap.size w w'
theorem impl_Factorize {a : Option Addr} {n c : Nat} {M : List (List Fq)} {lo hi : Nat} (hM : Sm2 M) (w : World) (h : MW w a n M lo hi) :
  Calls Tryz.prog 18 #[.slice a n c] w (FacG (invF M) (invB M) w) := by
 have B := hid (below_new' (w := w) (o := .cells #[.slice none 0 0, .slice none 0 0] 27))
 have KI := hid (impl_Inverse (c := c) hM (w.alloc (.cells #[.slice none 0 0, .slice none 0 0] 27)) (h.old B.out))
 have HZ := hid (show (w.alloc (.cells #[.slice none 0 0, .slice none 0 0] 27)).heap.size = w.heap.size + 1 by simp)
 have L1 := hid (LocA.at (T := 27) (w := w) (b := w.heap.size) (cs := #[.slice none 0 0, .slice none 0 0]) rfl)
 generalize invF M = RS at KI ⊢
 generalize invB M = RB at KI ⊢
 clear h
 generalize hW : w.alloc (.cells #[.slice none 0 0, .slice none 0 0] 27) = W0 at B L1 HZ KI
 have HW := hid hW
 clear hW
 go_enter Tryz.func18, Tryz.ntmps18
 go_wp2_with fail
 rw [HW.out]
 (with_reducible refine (KI.out).mono ?_)
 rintro e w1 ⟨a1, n1, c1, rfl, hm, hb⟩
 have HM := hid hm
 have HB := hid (B.out.trans (hb.mono B.out.size))
 have L2 := hid (L1.out.old hb)
 have f0 := L2.out.f 0
 have f1 := L2.out.f 1
 have p0 := L2.out.c 0 rfl
 have p1 := L2.out.c 1 rfl
 have hz := hid (show w.heap.size < w1.heap.size by have := hb.size; have := HZ.out; omega)
 clear hm hb
 go_wp2
 have R := hid (show FacG RS RB w (.returned (.tuple #[.agg #[.slice a1 n1 c1, .slice none 0 0], .bool RB])) ((w1.setCell ⟨w.heap.size, 0, none⟩ (.slice a1 n1 c1)).setCell ⟨w.heap.size, 1, none⟩ (.slice none 0 0)) from
  ⟨a1, n1, c1, rfl, by
   have h := (HM.out.onlyG (only_set2 (g := w.heap.size) (x := .slice a1 n1 c1) (y := .slice none 0 0)) (.inr (by rw [HZ.out]; exact Nat.le_refl _))).wide (lo' := w.heap.size) (hi' := w1.heap.size) (by rw [HZ.out]; omega) (Nat.le_refl _)
   simpa [size_set] using h, below_set2 HB.out⟩)
 have hlt := hz.out
 exact bodyPost_ret (v := .tuple #[.agg #[.slice a1 n1 c1, .slice none 0 0], .bool RB]) (by simp [results, Tryz.results18, go_sem, p0, p1, hlt]) rfl R.out
theorem spec_Factorize {a : Option Addr} {n c : Nat} {M : List (List Fq)} {lo hi : Nat} (hM : Sm2 M) (w : World) (h : MW w a n M lo hi) :
  Calls Tryz.prog 16 #[.slice a n c] w (FacS (invF M) (invB M) w) := by
 have B := hid (below_new' (w := w) (o := .cells #[.slice none 0 0, .slice none 0 0] 27))
 have KI := hid (spec_Inverse (c := c) hM (w.alloc (.cells #[.slice none 0 0, .slice none 0 0] 27)) (h.old B.out))
 have HNB := hid (fun (e : invB M = false) => show invF M = [] from by
  unfold invB at e
  unfold invF
  cases h : invM M with
  | none => rfl
  | some S => rw [h] at e; cases e)
 have HZ := hid (show (w.alloc (.cells #[.slice none 0 0, .slice none 0 0] 27)).heap.size = w.heap.size + 1 by simp)
 have L1 := hid (LocA.at (T := 27) (w := w) (b := w.heap.size) (cs := #[.slice none 0 0, .slice none 0 0]) rfl)
 generalize invF M = RS at KI HNB ⊢
 generalize invB M = RB at KI HNB ⊢
 clear h
 generalize hW : w.alloc (.cells #[.slice none 0 0, .slice none 0 0] 27) = W0 at B L1 HZ KI
 have HW := hid hW
 clear hW
 cases RB with
 |true =>
  go_enter Tryz.func16, Tryz.ntmps16
  go_wp2_with fail
  rw [HW.out]
  (with_reducible refine (KI.out).mono ?_)
  rintro e w1 ⟨a1, n1, c1, rfl, hm, hb⟩
  have HM := hid hm
  have HB := hid (B.out.trans (hb.mono B.out.size))
  have L2 := hid (L1.out.old hb)
  have f0 := L2.out.f 0
  have f1 := L2.out.f 1
  have p0 := L2.out.c 0 rfl
  have p1 := L2.out.c 1 rfl
  have hz := hid (show w.heap.size < w1.heap.size by have := hb.size; have := HZ.out; omega)
  clear hm hb
  go_wp2
  have R := hid (show FacS RS true w (.returned (.tuple #[.agg #[.slice a1 n1 c1, .slice none 0 0], .bool true])) ((w1.setCell ⟨w.heap.size, 0, none⟩ (.slice a1 n1 c1)).setCell ⟨w.heap.size, 1, none⟩ (.slice none 0 0)) from
   ⟨a1, n1, c1, rfl, by
    have h := (HM.out.onlyG (only_set2 (g := w.heap.size) (x := .slice a1 n1 c1) (y := .slice none 0 0)) (.inr (by rw [HZ.out]; exact Nat.le_refl _))).wide (lo' := w.heap.size) (hi' := w1.heap.size) (by rw [HZ.out]; omega) (Nat.le_refl _)
    simpa [size_set] using h, below_set2 HB.out⟩)
  have hlt := hz.out
  exact bodyPost_ret (v := .tuple #[.agg #[.slice a1 n1 c1, .slice none 0 0], .bool true]) (by simp [results, Tryz.results16, go_sem, p0, p1, hlt]) rfl R.out
 |false =>
  have e0 := HNB.out rfl
  subst e0
  go_enter Tryz.func16, Tryz.ntmps16
  go_wp2_with fail
  rw [HW.out]
  (with_reducible refine (KI.out).mono ?_)
  rintro e w1 ⟨a1, n1, c1, rfl, hm, hb⟩
  have HM := hid hm
  have HB := hid (B.out.trans (hb.mono B.out.size))
  have L2 := hid (L1.out.old hb)
  have f0 := L2.out.f 0
  have f1 := L2.out.f 1
  have p0 := L2.out.c 0 rfl
  have p1 := L2.out.c 1 rfl
  have hz := hid (show w.heap.size < w1.heap.size by have := hb.size; have := HZ.out; omega)
  clear hm hb
  go_wp2
  have R := hid (show FacS [] false w (.returned (.tuple #[.agg #[.slice none 0 0, .slice none 0 0], .bool false])) ((w1.setCell ⟨w.heap.size, 0, none⟩ (.slice none 0 0)).setCell ⟨w.heap.size, 1, none⟩ (.slice none 0 0)) from
   ⟨none, 0, 0, rfl, MW_nil _ _ _ _, below_set2 HB.out⟩)
  have hlt := hz.out
  exact bodyPost_ret (v := .tuple #[.agg #[.slice none 0 0, .slice none 0 0], .bool false]) (by simp [results, Tryz.results16, go_sem, p0, p1, hlt]) rfl R.out
end Go.Proofs.YtjjainnafihkdaaGreat
