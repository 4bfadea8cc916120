/- The rows of bounds: one row's struct that is written out. -/
import Derived.Test.YteanocjkdehhgaaKk
import Derived.Test.YteanocjkdehhgaaKh
import Derived.Deep.RegionHeld3
import Derived.Deep.AppendLies
namespace Go.Proofs.Yteanocjkdehhgaa
open Go.RowKit
open Go.Lib (hid)
set_option linter.unusedVariables false

/-- The row that states a bound. -/
def bndQ (c x : Int) (s : Bool) (A D : List Int) : Wq := ⟨[tqo c (some ((1 : Int) : Rat))], x, s, A, D⟩
theorem own_litT {w : World} {lo : Nat} (hl : lo ≤ w.heap.size) (c : Int) (s : Bool) (x y : Value) : (w.alloc (.cells #[.int .i64 c, .bool s, x, y] 132)).ownsRow lo 132 4 (.slice (some ⟨w.heap.size, 0, none⟩) 1 1) 1 [.int .i64 c, .bool s, x, y] :=
  ⟨rfl, .inr ⟨w.heap.size, 1, _, rfl, hl, heap_alloc_new w _, Nat.le_refl _, by unfold maxLen; omega, rfl, rfl⟩⟩
theorem own_litR {w : World} {lo : Nat} (hl : lo ≤ w.heap.size) (t : Value) (c : Int) (s : Bool) (x y : Value) : (w.alloc (.cells #[t, .int .i64 c, .bool s, x, y] 91)).ownsRow lo 91 5 (.slice (some ⟨w.heap.size, 0, none⟩) 1 1) 1 [t, .int .i64 c, .bool s, x, y] :=
  ⟨rfl, .inr ⟨w.heap.size, 1, _, rfl, hl, heap_alloc_new w _, Nat.le_refl _, by unfold maxLen; omega, rfl, rfl⟩⟩
/-- One term, its struct of the call's own. -/
theorem TO_lit {p : Bool} {w : World} {lo lo' g : Nat} {sg : Bool} {x y : Value} {o : Option Rat} (c : Int) (hl : lo ≤ w.heap.size) (hr : RO p w lo' sg x y o) (hl' : lo ≤ lo') (hg : w.heap.size = g) :
    TO p (w.alloc (.cells #[.int .i64 c, .bool sg, x, y] 132)) (.slice (some ⟨g, 0, none⟩) 1 1) [⟨tqo c o, x, y⟩] lo (g + 1) := by
  subst hg
  have h1 := Ints_old hr.i (below_new' (o := .cells #[.int .i64 c, .bool sg, x, y] 132))
  have h2 := Ints_old hr.j (below_new' (o := .cells #[.int .i64 c, .bool sg, x, y] 132))
  have k1 : ∀ k, x.ownBlock = some k → k < w.heap.size := fun k hk => (Ints_lt hr.i k hk).2
  have k2 : ∀ k, y.ownBlock = some k → k < w.heap.size := fun k hk => (Ints_lt hr.j k hk).2
  refine ⟨?_, fun k hk => by simp [Value.ownBlock] at hk; omega, fun e he => ?_, fun hp e he k hk => ?_, fun _ => List.pairwise_singleton _ _⟩
  · have h := own_litT hl c sg x y
    have hs := hr.sg
    show World.ownsRow _ lo 132 4 _ 1 [.int .i64 (tqo c o).c, .bool (tqo c o).s, x, y]
    rw [tqo_c, tqo_s, ← hs]
    exact h
  · rw [List.mem_singleton.1 he]
    refine ⟨⟨?_, fun k hk => by have := k1 k hk; omega⟩, ⟨?_, fun k hk => by have := k2 k hk; omega⟩⟩
    · show Ints _ _ x (tqo c o).A
      rw [tqo_A]; exact Ints_base h1 hl'
    · show Ints _ _ y (tqo c o).D
      rw [tqo_D]; exact Ints_base h2 hl'
  · rw [List.mem_singleton.1 he] at hk ⊢
    exact hr.nd hp k hk
theorem ROb.ofRF {w : World} {lo : Nat} {v u : Value} {A D : List Int} (h : RF true w lo v u A D) : ROb w v u A D lo w.heap.size := ⟨⟨h.i, fun k hk => (Ints_lt h.i k hk).2⟩, ⟨h.j, fun k hk => (Ints_lt h.j k hk).2⟩, h.nd rfl⟩
/-- A row's struct of one term and a fraction. -/
theorem RwG_lit {w : World} {t x y v u : Value} {c : Int} {o : Option Rat} {A D : List Int} {lo hi l1 h1 l2 h2 : Nat} (ht : TO true w t [⟨tqo c o, x, y⟩] lo hi) (hr : ROb w v u A D l2 h2) (he : ROw w x y (tqo c o).A (tqo c o).D l1 h1) (k1 : h1 ≤ l2) (k2 : lo ≤ l2) (k3 : h2 ≤ hi) : RwG w t v u [tqo c o] A D lo hi :=
  ⟨⟨_, ht, rfl, fun e hm k hk => by
    rw [List.mem_singleton.1 hm] at hk
    have k4 : k < h1 := hk.elim (he.a.high k) (he.d.high k)
    exact ⟨fun e => by have := (Ints_lt hr.a.ints k e).1; omega, fun e => by have := (Ints_lt hr.d.ints k e).1; omega⟩⟩, hr.wide k2 k3⟩
theorem RO.row {p : Bool} {w : World} {lo : Nat} {s : Bool} {v u : Value} {o : Option Rat} (h : RO p w lo s v u o) (c : Int) : ROw w v u (tqo c o).A (tqo c o).D lo w.heap.size := by
  rw [tqo_A, tqo_D]
  exact ⟨⟨h.i, fun k hk => (Ints_lt h.i k hk).2⟩, ⟨h.j, fun k hk => (Ints_lt h.j k hk).2⟩⟩
/-- One row's struct in a slice. -/
theorem RM_lit {w : World} {t v u : Value} {q : Wq} {lo lo' hi g : Nat} (hr : RwG w t v u q.K q.A q.D lo hi) (hh : hi ≤ w.heap.size) (hl : lo' ≤ lo) (hlw : lo' ≤ w.heap.size) (hg : w.heap.size = g) :
    RM (w.alloc (.cells #[t, .int .i64 q.x, .bool q.s, v, u] 91)) (.slice (some ⟨g, 0, none⟩) 1 1) [q] lo' (fun k => lo' ≤ k ∧ k < (w.alloc (.cells #[t, .int .i64 q.x, .bool q.s, v, u] 91)).heap.size) := by
  subst hg
  have hz : (w.alloc (.cells #[t, .int .i64 q.x, .bool q.s, v, u] 91)).heap.size = w.heap.size + 1 := by simp
  refine ⟨[⟨q, t, v, u, lo, hi⟩], ⟨own_litR hlw t q.x q.s v u, fun k hk => ?_, fun e he => ?_, fun e he k hk => ?_, fun e he k hk hin => ?_, List.pairwise_singleton _ _⟩, rfl⟩
  · simp [Value.ownBlock] at hk; omega
  · rw [List.mem_singleton.1 he]
    exact ⟨hr.onlyS (only_old (below_new' (o := .cells #[t, .int .i64 q.x, .bool q.s, v, u] 91))) (fun k k1 k2 => by omega), by show hi ≤ _; omega⟩
  · rw [List.mem_singleton.1 he] at hk
    have h1 : lo ≤ k := hk.1
    have h2 : k < hi := hk.2
    omega
  · rw [List.mem_singleton.1 he] at hin
    have h2 : k < hi := hin.2
    simp [Value.ownBlock] at hk
    omega
theorem impl_lowerBound (n : ByteArray) (s z b : Bool) (v u x y : Value) {A D F G : List Int} (w : World) (h : ClW w v u x y A D F G) :
    Calls Try.prog 57 #[.agg #[.string n, .bool s, v, u, .bool z, x, y, .bool b]] w (RetB (.iface 140 (.agg #[.bool s, v, u])) w) := by
  obtain ⟨a1, c1, b1, d1, e1, f1, i1, j1, rfl, rfl, rfl, rfl⟩ := h.form
  have B := hid (below_new' (w := w) (o := .cells #[.string n, .bool s, .slice a1 A.length c1, .slice b1 D.length d1, .bool z, .slice e1 F.length f1, .slice i1 G.length j1, .bool b] 35))
  go_enter Try.func57, Try.ntmps57
  go_wp2
  go_ret
  exact ⟨rfl, B.out⟩
def upV (z : Bool) (F G : List Int) (x y : Value) : Value := if hasU z F G then .iface 140 (.agg #[.bool z, x, y]) else .iface 142 (.agg #[])
set_option maxRecDepth 100000 in
set_option maxHeartbeats 6400000 in
theorem impl_upperBound (n : ByteArray) (s z b : Bool) (v u x y : Value) {A D F G : List Int} (hF : F.length ≤ 1048576) (hG : G.length ≤ 1048576) (w : World) (h : ClW w v u x y A D F G) :
    Calls Try.prog 58 #[.agg #[.string n, .bool s, v, u, .bool z, x, y, .bool b]] w (RetB (upV z F G x y) w) := by
  obtain ⟨a1, c1, b1, d1, e1, f1, i1, j1, rfl, rfl, rfl, rfl⟩ := h.form
  have B := hid (below_new' (w := w) (o := .cells #[.string n, .bool s, .slice a1 A.length c1, .slice b1 D.length d1, .bool z, .slice e1 F.length f1, .slice i1 G.length j1, .bool b] 35))
  have L1 := hid (LocA.new (w := w) (T := 35) (cs := #[.string n, .bool s, .slice a1 A.length c1, .slice b1 D.length d1, .bool z, .slice e1 F.length f1, .slice i1 G.length j1, .bool b]))
  have KU := hid (fun (W : World) (hb : Below w.heap.size w W) => impl_HasUpper n s z b hF hG W (h.old hb))
  unfold upV
  cases hu : hasU z F G with
  | false =>
    rw [hu] at KU
    simp only [Bool.false_eq_true, if_false]
    clear h hu
    go_enter Try.func58, Try.ntmps58
    go_wp2_with fail
    generalize w.alloc (.cells #[.string n, .bool s, .slice a1 A.length c1, .slice b1 D.length d1, .bool z, .slice e1 F.length f1, .slice i1 G.length j1, .bool b] 35) = W at B L1 ⊢
    (with_reducible refine (KU.out _ B.out).mono ?_)
    rintro e w1 ⟨rfl, g1⟩
    have B := hid (B.out.trans (g1.mono B.out.size))
    clear g1
    go_wp2
    go_ret
    exact ⟨rfl, B.out⟩
  | true =>
    rw [hu] at KU
    simp only [if_true]
    clear h hu
    go_enter Try.func58, Try.ntmps58
    go_wp2_with fail
    generalize w.alloc (.cells #[.string n, .bool s, .slice a1 A.length c1, .slice b1 D.length d1, .bool z, .slice e1 F.length f1, .slice i1 G.length j1, .bool b] 35) = W at B L1 ⊢
    (with_reducible refine (KU.out _ B.out).mono ?_)
    rintro e w1 ⟨rfl, g1⟩
    have L1 := hid (L1.out.old g1)
    have B := hid (B.out.trans (g1.mono B.out.size))
    have q0 := L1.out.c 4 rfl
    have q1 := L1.out.c 5 rfl
    have q2 := L1.out.c 6 rfl
    clear g1
    go_wp2
    go_ret
    exact ⟨rfl, B.out⟩
theorem impl_absentRows (c x : Int) (w : World) : Calls Try.prog 194 #[.agg #[], .int .i64 c, .int .i64 x] w (RMR [] w) := by
  have B := hid (below_new' (w := w) (o := .cells #[] 142))
  go_enter Try.func194, Try.ntmps194
  go_wp2
  go_ret
  exact ⟨none, 0, rfl, ⟨[], GO_nil _ _ _, rfl⟩, B.out⟩
set_option maxRecDepth 100000 in
set_option maxHeartbeats 6400000 in
theorem impl_presentRows (c x : Int) (s : Bool) {v u : Value} {A D : List Int} (w : World) (h : RL w v u A D) :
    Calls Try.prog 189 #[.agg #[.bool s, v, u], .int .i64 c, .int .i64 x] w (RMR [bndQ c x s A D] w) := by
  obtain ⟨a, c0, b, d0, rfl, rfl⟩ := h.form
  have B := hid (below_new' (w := w) (o := .cells #[.bool s, .slice a A.length c0, .slice b D.length d0] 140))
  have L1 := hid (LocA.new (w := w) (T := 140) (cs := #[.bool s, .slice a A.length c0, .slice b D.length d0]))
  have H := hid (h.old B.out)
  have KI := hid (int_o 1 (by omega) (by omega))
  have KC := hid (fun (W : World) (g : RL W (.slice a A.length c0) (.slice b D.length d0) A D) => copy_f (s := s) g)
  clear h
  go_enter Try.func189, Try.ntmps189
  go_wp2_with fail
  generalize w.alloc (.cells #[.bool s, .slice a A.length c0, .slice b D.length d0] 140) = W at B L1 H ⊢
  have L1 := hid (L1.out.old (Below_drew1 (Below.refl _ _)))
  have H := hid (H.out.old (Below_drew1 (Below.refl _ _)))
  have B := hid (Below_drew1 B.out)
  have hsW := hid (show w.heap.size ≤ W.drew.heap.size from B.out.size)
  have q0 := L1.out.c 0 rfl
  have q1 := L1.out.c 1 rfl
  have q2 := L1.out.c 2 rfl
  go_region_held3 (fun w' => w'.cell? ⟨w.heap.size, 0, none⟩ = some (.bool s) ∧ w'.cell? ⟨w.heap.size, 1, none⟩ = some (.slice a A.length c0) ∧ w'.cell? ⟨w.heap.size, 2, none⟩ = some (.slice b D.length d0)) (first | exact ⟨q0, q1, q2⟩ | exact ⟨(L1.out.new1).c 0 rfl, (L1.out.new1).c 1 rfl, (L1.out.new1).c 2 rfl⟩ | exact ⟨(L1.out.new1.new1).c 0 rfl, (L1.out.new1.new1).c 1 rfl, (L1.out.new1.new1).c 2 rfl⟩)
    (first
    | (go_at_call 190; (with_reducible refine (KI.out _).mono ?_); rintro e w1 ⟨sg, a1, n1, c1, b1, m1, d1, rfl, hr, hb⟩; have L1 := hid (L1.out.old hb); have H := hid (H.out.old hb); have B := hid (B.out.trans (hb.mono B.out.size)); have RR := hid hr; have hs1 := hb.size; have L1Z := hid (L1.out.old (below_new' (o := .cells #[.int .i64 c, .bool sg, .slice a1 n1 c1, .slice b1 m1 d1] 132))); have q0 := L1.out.c 0 (v := .bool s) rfl; have q1 := L1.out.c 1 (v := .slice a A.length c0) rfl; have q2 := L1.out.c 2 (v := .slice b D.length d0) rfl; clear hb hr)
    | (go_at_call 107; (with_reducible refine (KC.out _ H.out).mono ?_); rintro e w2 ⟨a2, c2, b2, d2, rfl, hf, hb⟩; have L1 := hid (L1.out.old hb); have B := hid (B.out.trans (hb.mono B.out.size)); have R2 := hid (RR.out.old hb); have F2 := hid hf; have hs2 := hb.size; have q0 := L1.out.c 0 (v := .bool s) rfl; have q1 := L1.out.c 1 (v := .slice a A.length c0) rfl; have q2 := L1.out.c 2 (v := .slice b D.length d0) rfl; have W2 := hid ((RR.out.row c).old hb); have GG := hid (show RwG (w2.alloc (.cells #[.int .i64 c, .bool sg, .slice a1 n1 c1, .slice b1 m1 d1] 132)) (.slice (some ⟨w2.heap.size, 0, none⟩) 1 1) (.slice a2 A.length c2) (.slice b2 D.length d2) [tqo c (some ((1 : Int) : Rat))] A D w.heap.size (w2.heap.size + 1) from RwG_lit (TO_lit c B.out.size R2.out hsW.out rfl) ((ROb.ofRF hf).old (below_new' (o := .cells #[.int .i64 c, .bool sg, .slice a1 n1 c1, .slice b1 m1 d1] 132))) (W2.out.old (below_new' (o := .cells #[.int .i64 c, .bool sg, .slice a1 n1 c1, .slice b1 m1 d1] 132))) (Nat.le_refl _) (by have := hsW.out; have := hs1; simp at *; omega) (by omega)); clear hb hf)
    | (go_at_call 107; (with_reducible refine (KC.out _ (H.out.old (below_new' (o := .cells #[.int .i64 c, .bool sg, .slice a1 n1 c1, .slice b1 m1 d1] 132)))).mono ?_); rintro e w2 ⟨a2, c2, b2, d2, rfl, hf, hb⟩; have L1 := hid (L1Z.out.old hb); have TT := hid (((TO_lit (p := true) (lo := w.heap.size) c B.out.size RR.out hsW.out rfl)).old hb); have hT2 := hid (RR.out.old (below_new' (o := .cells #[.int .i64 c, .bool sg, .slice a1 n1 c1, .slice b1 m1 d1] 132))); have R2 := hid (hT2.out.old hb); have B := hid ((B.out.alloc B.out.size (.cells #[.int .i64 c, .bool sg, .slice a1 n1 c1, .slice b1 m1 d1] 132)).trans (hb.mono (by have := B.out.size; simp; omega))); have F2 := hid hf; have hs2 := hb.size; have q0 := L1.out.c 0 (v := .bool s) rfl; have q1 := L1.out.c 1 (v := .slice a A.length c0) rfl; have q2 := L1.out.c 2 (v := .slice b D.length d0) rfl; have W2 := hid (((RR.out.row c).old (below_new' (o := .cells #[.int .i64 c, .bool sg, .slice a1 n1 c1, .slice b1 m1 d1] 132))).old hb); have GG := hid (show RwG w2 (.slice (some ⟨w1.heap.size, 0, none⟩) 1 1) (.slice a2 A.length c2) (.slice b2 D.length d2) [tqo c (some ((1 : Int) : Rat))] A D w.heap.size w2.heap.size from RwG_lit (TT.out.wide (Nat.le_refl _) (by have := hb.size; simp at this; omega)) (ROb.ofRF hf) W2.out (by simp) (by have := hsW.out; have := hs1; simp at *; omega) (Nat.le_refl _)); clear hb hf))
  all_goals go_wp2
  all_goals go_ret
  all_goals first
    | exact ⟨_, _, rfl, RM_lit (q := bndQ c x s A D) GG.out (Nat.le_refl _) (Nat.le_refl _) B.out.size rfl, B.out.alloc B.out.size _⟩
    | exact ⟨_, _, rfl, RM_lit (q := bndQ c x s A D) GG.out (by simp) (Nat.le_refl _) (by have := B.out.size; simp; omega) (by simp), (B.out.alloc B.out.size _).alloc (by have := B.out.size; simp; omega) _⟩
end Go.Proofs.Yteanocjkdehhgaa
