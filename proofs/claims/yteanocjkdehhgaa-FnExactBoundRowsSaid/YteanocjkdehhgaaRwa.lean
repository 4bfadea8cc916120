/- Rows' structs: what came in, what is held, the laws' helpers. -/
import Derived.Test.YteanocjkdehhgaaTcl
namespace Go.Proofs.Yteanocjkdehhgaa
open Go.RowKit
open Go.Lib (hid)
set_option linter.unusedVariables false

/-- A row's struct that is read: its terms and its fraction. -/
structure RwW (w : World) (t v u : Value) (K : List Tq) (A D : List Int) : Prop where
  t : ∃ p lo hi, TK p w t K lo hi
  r : ∃ lo hi, ROw w v u A D lo hi
/-- A row's struct of a call's own: its terms lie below mi, the fraction's slices behind. -/
structure RwM (w : World) (t v u : Value) (K : List Tq) (A D : List Int) (lo mi hi : Nat) : Prop where
  t : TK true w t K lo mi
  r : ROb w v u A D mi hi
  l : lo ≤ mi
  h : mi ≤ hi
theorem RwW.old {w w' : World} {t v u : Value} {K : List Tq} {A D : List Int} (h : RwW w t v u K A D) (hb : Below w.heap.size w w') : RwW w' t v u K A D := by
  obtain ⟨⟨p, l, h1, a⟩, l2, h2, r⟩ := h
  exact ⟨⟨p, l, h1, a.old hb⟩, l2, h2, r.old hb⟩
theorem RwW.form {w : World} {t v u : Value} {K : List Tq} {A D : List Int} (h : RwW w t v u K A D) : ∃ (a : Option Addr) (c : Nat) (b : Option Addr) (d : Nat) (e : Option Addr) (f : Nat), t = .slice a K.length c ∧ v = .slice b A.length d ∧ u = .slice e D.length f := by
  obtain ⟨⟨p, l, h1, a⟩, l2, h2, r⟩ := h
  obtain ⟨a1, c1, rfl⟩ := a.form
  obtain ⟨a2, c2, b2, d2, rfl, rfl⟩ := r.form
  exact ⟨_, _, _, _, _, _, rfl, rfl, rfl⟩
theorem RwW.rl {w : World} {t v u : Value} {K : List Tq} {A D : List Int} (h : RwW w t v u K A D) (la : A.length ≤ 1048576) (ld : D.length ≤ 1048576) : RL w v u A D := by
  obtain ⟨-, l2, h2, r⟩ := h
  exact ⟨⟨_, r.a.ints⟩, ⟨_, r.d.ints⟩, la, ld⟩
theorem RwM.old {w w' : World} {t v u : Value} {K : List Tq} {A D : List Int} {lo mi hi : Nat} (h : RwM w t v u K A D lo mi hi) (hb : Below w.heap.size w w') : RwM w' t v u K A D lo mi hi := ⟨h.t.old hb, h.r.old hb, h.l, h.h⟩
theorem RwM.w {w : World} {t v u : Value} {K : List Tq} {A D : List Int} {lo mi hi : Nat} (h : RwM w t v u K A D lo mi hi) : RwW w t v u K A D := ⟨⟨_, _, _, h.t⟩, _, _, h.r.w⟩
theorem RwW.w {w : World} {t v u : Value} {K : List Tq} {A D : List Int} (h : RwW w t v u K A D) : RwW w t v u K A D := h
theorem RwM.onlyG {w w' : World} {t v u : Value} {K : List Tq} {A D : List Int} {lo mi hi a b : Nat} (h : RwM w t v u K A D lo mi hi) (hb : Only (InG a b w.heap.size) w w') (hd : hi ≤ a ∨ b ≤ lo) : RwM w' t v u K A D lo mi hi :=
  ⟨h.t.onlyG hb (by have := h.h; omega), h.r.onlyG hb (by have := h.l; omega), h.l, h.h⟩
theorem RwM.form {w : World} {t v u : Value} {K : List Tq} {A D : List Int} {lo mi hi : Nat} (h : RwM w t v u K A D lo mi hi) : ∃ (a : Option Addr) (c : Nat) (b : Option Addr) (d : Nat) (e : Option Addr) (f : Nat), t = .slice a K.length c ∧ v = .slice b A.length d ∧ u = .slice e D.length f := h.w.form
/-- A row's struct that came in. -/
structure WCame (w : World) (h : Nat) (a : Option Addr) (n : Nat) (K : List Tq) (b : Option Addr) (m : Nat) (A : List Int) (e : Option Addr) (k : Nat) (D : List Int) : Prop where
  t : TCame w h a n K
  r : CameR w h b m A e k D
theorem WCame.old {w w' : World} {h n m k : Nat} {a b e : Option Addr} {K : List Tq} {A D : List Int} (c : WCame w h a n K b m A e k D) (hb : Below w.heap.size w w') : WCame w' h a n K b m A e k D := ⟨c.t.old hb, c.r.old hb⟩
theorem WCame.onlyG {w w' : World} {h n m k lo hi : Nat} {a b e : Option Addr} {K : List Tq} {A D : List Int} (c : WCame w h a n K b m A e k D) (hb : Only (InG lo hi w.heap.size) w w') (hlo : h ≤ lo) : WCame w' h a n K b m A e k D := ⟨c.t.onlyG hb hlo, c.r.onlyG hb hlo⟩
/-- A row's struct that is read, between heights. -/
structure RwL (w : World) (t v u : Value) (K : List Tq) (A D : List Int) (lo mi hi : Nat) : Prop where
  t : TK false w t K lo mi
  r : ROw w v u A D mi hi
  l : lo ≤ mi
  h : mi ≤ hi
theorem RwL.w {w : World} {t v u : Value} {K : List Tq} {A D : List Int} {lo mi hi : Nat} (h : RwL w t v u K A D lo mi hi) : RwW w t v u K A D := ⟨⟨_, _, _, h.t⟩, _, _, h.r⟩
theorem RwL.old {w w' : World} {t v u : Value} {K : List Tq} {A D : List Int} {lo mi hi : Nat} (h : RwL w t v u K A D lo mi hi) (hb : Below w.heap.size w w') : RwL w' t v u K A D lo mi hi := ⟨h.t.old hb, h.r.old hb, h.l, h.h⟩
theorem RwL.onlyG {w w' : World} {t v u : Value} {K : List Tq} {A D : List Int} {lo mi hi a b : Nat} (h : RwL w t v u K A D lo mi hi) (hb : Only (InG a b w.heap.size) w w') (hd : hi ≤ a ∨ b ≤ lo) : RwL w' t v u K A D lo mi hi :=
  ⟨h.t.onlyG hb (by have := h.h; omega), h.r.onlyG hb (by have := h.l; omega), h.l, h.h⟩
/-- A row's struct is returned: read only (the reference), or of a call's own (the program). -/
def RowRW (K : List Tq) (x : Int) (s : Bool) (A D : List Int) (w : World) (e : Ending) (w' : World) : Prop := ∃ a c b d g f mi, e = .returned (.agg #[.slice a K.length c, .int .i64 x, .bool s, .slice b A.length d, .slice g D.length f]) ∧ RwL w' (.slice a K.length c) (.slice b A.length d) (.slice g D.length f) K A D w.heap.size mi w'.heap.size ∧ Below w.heap.size w w'
def RowRM (K : List Tq) (x : Int) (s : Bool) (A D : List Int) (w : World) (e : Ending) (w' : World) : Prop := ∃ a c b d g f mi, e = .returned (.agg #[.slice a K.length c, .int .i64 x, .bool s, .slice b A.length d, .slice g D.length f]) ∧ RwM w' (.slice a K.length c) (.slice b A.length d) (.slice g D.length f) K A D w.heap.size mi w'.heap.size ∧ Below w.heap.size w w'
set_option maxRecDepth 100000 in
set_option maxHeartbeats 6400000 in
theorem szRow_yes (a : Option Addr) (n c : Nat) (x : Int) (s : Bool) (b : Option Addr) (m d : Nat) (e : Option Addr) (k f : Nat) (h : Nat) (K : List Tq) (z : Int) (h0 : (szU K : Int) + (m : Int) + (k : Int) ≤ z) (h1 : z ≤ 1048576) (w : World) (hc : TCame w h a n K) :
    Calls Try.prog 99 #[.agg #[.slice a n c, .int .i64 x, .bool s, .slice b m d, .slice e k f], .int .i64 z] w (RetB (.int .i64 (z - (szU K : Int) - m - k)) w) := by
  have B := hid (below_new' (w := w) (o := .cells #[.slice a n c, .int .i64 x, .bool s, .slice b m d, .slice e k f] 130))
  have LX := hid (LocA.new (w := w) (T := 130) (cs := #[.slice a n c, .int .i64 x, .bool s, .slice b m d, .slice e k f]))
  have hc := hid (hc.old B.out)
  have K1 := hid (fun (W : World) (g : TCame W h a n K) => szTermS_yes a n c h K z (by omega) h1 W g)
  have K2 := hid (szRat_yes s b m d e k f (z - (szU K : Int)) (by omega) (by omega))
  have h3 : ¬ z - (szU K : Int) - (m : Int) - (k : Int) < 0 := by omega
  have h2 : ¬ z - (szU K : Int) < 0 := by omega
  go_enter Try.func99, Try.ntmps99
  go_wp2_with fail
  generalize w.alloc (.cells #[.slice a n c, .int .i64 x, .bool s, .slice b m d, .slice e k f] 130) = W at B LX hc ⊢
  (with_reducible refine (K1.out _ hc.out).mono ?_)
  rintro e w1 ⟨rfl, b1⟩
  have B := hid (B.out.trans (b1.mono B.out.size))
  have LX := hid (LX.out.old b1)
  have q0 := LX.out.c 2 rfl
  have q1 := LX.out.c 3 rfl
  have q2 := LX.out.c 4 rfl
  clear b1
  go_wp2_with fail
  (with_reducible refine (K2.out _).mono ?_)
  rintro e w2 ⟨rfl, b2⟩
  have B := hid (B.out.trans (b2.mono B.out.size))
  clear b2 q0 q1 q2
  go_wp2
  go_ret
  exact ⟨rfl, B.out⟩
set_option maxRecDepth 100000 in
set_option maxHeartbeats 6400000 in
theorem szRow_no (a : Option Addr) (n c : Nat) (x : Int) (s : Bool) (b : Option Addr) (m d : Nat) (e : Option Addr) (k f : Nat) (h : Nat) (K : List Tq) (z : Int) (hn : n ≤ maxLen) (hK : ∀ f ∈ K, f.A.length ≤ maxLen ∧ f.D.length ≤ maxLen) (hm : m ≤ maxLen) (hk : k ≤ maxLen) (h0 : z < (szU K : Int) + (m : Int) + (k : Int)) (hz : 0 ≤ z) (h1 : z ≤ 1048576) (w : World) (hc : TCame w h a n K) :
    Calls Try.prog 99 #[.agg #[.slice a n c, .int .i64 x, .bool s, .slice b m d, .slice e k f], .int .i64 z] w (RetB (.int .i64 (-1)) w) := by
  have B := hid (below_new' (w := w) (o := .cells #[.slice a n c, .int .i64 x, .bool s, .slice b m d, .slice e k f] 130))
  have LX := hid (LocA.new (w := w) (T := 130) (cs := #[.slice a n c, .int .i64 x, .bool s, .slice b m d, .slice e k f]))
  have hc := hid (hc.old B.out)
  by_cases hA : z < (szU K : Int)
  · have K1 := hid (fun (W : World) (g : TCame W h a n K) => szTermS_no a n c h K z hn hK hA hz h1 W g)
    go_enter Try.func99, Try.ntmps99
    go_wp2_with fail
    generalize w.alloc (.cells #[.slice a n c, .int .i64 x, .bool s, .slice b m d, .slice e k f] 130) = W at B LX hc ⊢
    (with_reducible refine (K1.out _ hc.out).mono ?_)
    rintro e w1 ⟨rfl, b1⟩
    have B := hid (B.out.trans (b1.mono B.out.size))
    have LX := hid (LX.out.old b1)
    clear b1
    go_wp2
    go_ret
    exact ⟨rfl, B.out⟩
  · have K1 := hid (fun (W : World) (g : TCame W h a n K) => szTermS_yes a n c h K z (by omega) h1 W g)
    have K2 := hid (szRat_no s b m d e k f (z - (szU K : Int)) hm hk (by omega) (by omega) (by omega))
    have h2 : ¬ z - (szU K : Int) < 0 := by omega
    go_enter Try.func99, Try.ntmps99
    go_wp2_with fail
    generalize w.alloc (.cells #[.slice a n c, .int .i64 x, .bool s, .slice b m d, .slice e k f] 130) = W at B LX hc ⊢
    (with_reducible refine (K1.out _ hc.out).mono ?_)
    rintro e w1 ⟨rfl, b1⟩
    have B := hid (B.out.trans (b1.mono B.out.size))
    have LX := hid (LX.out.old b1)
    have q0 := LX.out.c 2 rfl
    have q1 := LX.out.c 3 rfl
    have q2 := LX.out.c 4 rfl
    clear b1
    go_wp2_with fail
    (with_reducible refine (K2.out _).mono ?_)
    rintro e w2 ⟨rfl, b2⟩
    have B := hid (B.out.trans (b2.mono B.out.size))
    clear b2 q0 q1 q2
    go_wp2
    go_ret
    exact ⟨rfl, B.out⟩
set_option maxRecDepth 100000 in
set_option maxHeartbeats 6400000 in
theorem toRow_came (a : Option Addr) (n c : Nat) (x : Int) (s : Bool) (b : Option Addr) (m d : Nat) (e : Option Addr) (k f : Nat) (h : Nat) (K : List Tq) (A D : List Int) (hK : szU K ≤ 1048576) (hA : A.length ≤ 1048576) (hD : D.length ≤ 1048576) (w : World) (h1 : WCame w h a n K b m A e k D) :
    Calls Try.prog 101 #[.agg #[.slice a n c, .int .i64 x, .bool s, .slice b m d, .slice e k f]] w (RowRM K x s A D w) := by
  have H := hid h1
  have K1 := hid (fun (W : World) (g : TCame W h a n K) => toTermS_came a n c h K hK W g)
  have K2 := hid (fun (W : World) (g : CameR W h b m A e k D) => toRat_came s b m d e k f h A D (by omega) (by omega) W g)
  clear h1
  have B := hid (show Below w.heap.size w (((w.alloc (.cells #[.slice a n c, .int .i64 x, .bool s, .slice b m d, .slice e k f] 130)).alloc (.cells #[.slice none 0 0, .int .i64 0, .bool false, .slice none 0 0, .slice none 0 0] 91)).alloc (.cells #[.slice none 0 0, .int .i64 0, .bool false, .slice none 0 0, .slice none 0 0] 91)) from (((Below.refl _ _).alloc (Nat.le_refl _) _).alloc (by simp) _).alloc (by simp; omega) _)
  have LP := hid (show LocA 130 (((w.alloc (.cells #[.slice a n c, .int .i64 x, .bool s, .slice b m d, .slice e k f] 130)).alloc (.cells #[.slice none 0 0, .int .i64 0, .bool false, .slice none 0 0, .slice none 0 0] 91)).alloc (.cells #[.slice none 0 0, .int .i64 0, .bool false, .slice none 0 0, .slice none 0 0] 91)) w.heap.size #[.slice a n c, .int .i64 x, .bool s, .slice b m d, .slice e k f] from (LocA.at rfl).new1.new1)
  have LR := hid (show LocA 91 (((w.alloc (.cells #[.slice a n c, .int .i64 x, .bool s, .slice b m d, .slice e k f] 130)).alloc (.cells #[.slice none 0 0, .int .i64 0, .bool false, .slice none 0 0, .slice none 0 0] 91)).alloc (.cells #[.slice none 0 0, .int .i64 0, .bool false, .slice none 0 0, .slice none 0 0] 91)) (w.heap.size + 1) #[.slice none 0 0, .int .i64 0, .bool false, .slice none 0 0, .slice none 0 0] from (LocA.at (by simp)).new1)
  have LO := hid (show LocA 91 (((w.alloc (.cells #[.slice a n c, .int .i64 x, .bool s, .slice b m d, .slice e k f] 130)).alloc (.cells #[.slice none 0 0, .int .i64 0, .bool false, .slice none 0 0, .slice none 0 0] 91)).alloc (.cells #[.slice none 0 0, .int .i64 0, .bool false, .slice none 0 0, .slice none 0 0] 91)) (w.heap.size + 1 + 1) #[.slice none 0 0, .int .i64 0, .bool false, .slice none 0 0, .slice none 0 0] from LocA.at (by simp))
  have hsW := hid (show (((w.alloc (.cells #[.slice a n c, .int .i64 x, .bool s, .slice b m d, .slice e k f] 130)).alloc (.cells #[.slice none 0 0, .int .i64 0, .bool false, .slice none 0 0, .slice none 0 0] 91)).alloc (.cells #[.slice none 0 0, .int .i64 0, .bool false, .slice none 0 0, .slice none 0 0] 91)).heap.size = w.heap.size + 1 + 1 + 1 by simp)
  generalize hW : ((w.alloc (.cells #[.slice a n c, .int .i64 x, .bool s, .slice b m d, .slice e k f] 130)).alloc (.cells #[.slice none 0 0, .int .i64 0, .bool false, .slice none 0 0, .slice none 0 0] 91)).alloc (.cells #[.slice none 0 0, .int .i64 0, .bool false, .slice none 0 0, .slice none 0 0] 91) = W0 at B LP LR LO hsW
  have HW := hid hW
  clear hW
  have hs0 := B.out.size
  have hs1 := LO.out.lt
  have hsW' := hsW.out
  have q0 := LP.out.c 0 rfl
  go_enter Try.func101, Try.ntmps101
  go_wp2_with fail
  rw [HW.out]
  (with_reducible refine (K1.out _ (H.out.t.old B.out)).mono ?_)
  clear q0
  rintro e w1 ⟨a1, n1, c1, rfl, i1, b1⟩
  obtain rfl := i1.num
  have hs2 := b1.size
  have LP := hid (LP.out.old b1)
  have LR := hid (LR.out.old b1)
  have LO := hid (LO.out.old b1)
  have B := hid (B.out.trans (b1.mono B.out.size))
  have f0 := LO.out.f 0
  have f1 := LO.out.f 1
  have p0 := LO.out.c 0 rfl
  have p1 := LO.out.c 1 rfl
  have q1 := LP.out.c 1 rfl
  have hz : ((w1.setCell ⟨w.heap.size + 1 + 1, 0, none⟩ (.slice a1 K.length c1)).setCell ⟨w.heap.size + 1 + 1, 1, none⟩ (.int .i64 x)).heap.size = w1.heap.size := (size_set _ _ _).trans (size_set _ _ _)
  have S1 : Only (InG (w.heap.size + 1 + 1) (w.heap.size + 1 + 1 + 1) w1.heap.size) w1 ((w1.setCell ⟨w.heap.size + 1 + 1, 0, none⟩ (.slice a1 K.length c1)).setCell ⟨w.heap.size + 1 + 1, 1, none⟩ (.int .i64 x)) := ((Only.refl _ _).setCell (p := ⟨w.heap.size + 1 + 1, 0, none⟩) (.inl ⟨Nat.le_refl _, Nat.lt_succ_self _⟩) _).setCell (p := ⟨w.heap.size + 1 + 1, 1, none⟩) (.inl ⟨Nat.le_refl _, Nat.lt_succ_self _⟩) _
  have I1 := hid (i1.onlyG S1 (.inr (by omega)))
  have B := hid ((B.out.setCell (by show w.heap.size ≤ w.heap.size + 1 + 1; omega) (.slice a1 K.length c1) (p := ⟨w.heap.size + 1 + 1, 0, none⟩)).setCell (by show w.heap.size ≤ w.heap.size + 1 + 1; omega) (.int .i64 x) (p := ⟨w.heap.size + 1 + 1, 1, none⟩))
  have LP1 := hid (LP.out.setne (i := 0) (x := .slice a1 K.length c1) (show w.heap.size ≠ w.heap.size + 1 + 1 by omega))
  have LP := hid ((LP.out.setne (i := 0) (x := .slice a1 K.length c1) (show w.heap.size ≠ w.heap.size + 1 + 1 by omega)).setne (i := 1) (x := .int .i64 x) (show w.heap.size ≠ w.heap.size + 1 + 1 by omega))
  have LR := hid ((LR.out.setne (i := 0) (x := .slice a1 K.length c1) (show w.heap.size + 1 ≠ w.heap.size + 1 + 1 by omega)).setne (i := 1) (x := .int .i64 x) (show w.heap.size + 1 ≠ w.heap.size + 1 + 1 by omega))
  have LO := hid (show LocA 91 _ (w.heap.size + 1 + 1) #[.slice a1 K.length c1, .int .i64 x, .bool false, .slice none 0 0, .slice none 0 0] from (LO.out.set (i := 0) (x := .slice a1 K.length c1)).set (i := 1) (x := .int .i64 x))
  have q1' := LP1.out.c 1 rfl
  have q2 := LP.out.c 2 rfl
  have q3 := LP.out.c 3 rfl
  have q4 := LP.out.c 4 rfl
  clear i1 b1 S1
  go_wp2_with fail
  generalize (w1.setCell ⟨w.heap.size + 1 + 1, 0, none⟩ (.slice a1 K.length c1)).setCell ⟨w.heap.size + 1 + 1, 1, none⟩ (.int .i64 x) = W2 at B LP LR LO I1 hz q2 q3 q4 ⊢
  clear p0 p1 q1 q1' LP1
  (with_reducible refine (K2.out _ (H.out.r.old B.out)).mono ?_)
  clear q2 q3 q4 f0 f1
  rintro e w2 ⟨v, u, rfl, r1, b2⟩
  have hs3 := b2.size
  have hsB := B.out.size
  have LR := hid (LR.out.old b2)
  have LO := hid (LO.out.old b2)
  have I1 := hid (I1.out.old b2)
  have B := hid (B.out.trans (b2.mono B.out.size))
  obtain ⟨a2, c2, b3, d2, rfl, rfl⟩ := r1.form
  have f2 := LO.out.f 2
  have f3 := LO.out.f 3
  have f4 := LO.out.f 4
  have p0 := LO.out.c 0 rfl
  have p1 := LO.out.c 1 rfl
  have p2 := LO.out.c 2 rfl
  have p3 := LO.out.c 3 rfl
  have p4 := LO.out.c 4 rfl
  have g0 := LR.out.f 0
  have g1 := LR.out.f 1
  have g2 := LR.out.f 2
  have g3 := LR.out.f 3
  have g4 := LR.out.f 4
  have o0 := LR.out.c 0 rfl
  have o1 := LR.out.c 1 rfl
  have o2 := LR.out.c 2 rfl
  have o3 := LR.out.c 3 rfl
  have o4 := LR.out.c 4 rfl
  have hB := hid ((((((((B.out.setCell (p := ⟨w.heap.size + 1 + 1, 2, none⟩) (by show w.heap.size ≤ w.heap.size + 1 + 1; omega) (.bool s)).setCell (p := ⟨w.heap.size + 1 + 1, 3, none⟩) (by show w.heap.size ≤ w.heap.size + 1 + 1; omega) (.slice a2 A.length c2)).setCell (p := ⟨w.heap.size + 1 + 1, 4, none⟩) (by show w.heap.size ≤ w.heap.size + 1 + 1; omega) (.slice b3 D.length d2)).setCell (p := ⟨w.heap.size + 1, 0, none⟩) (by show w.heap.size ≤ w.heap.size + 1; omega) (.slice a1 K.length c1)).setCell (p := ⟨w.heap.size + 1, 1, none⟩) (by show w.heap.size ≤ w.heap.size + 1; omega) (.int .i64 x)).setCell (p := ⟨w.heap.size + 1, 2, none⟩) (by show w.heap.size ≤ w.heap.size + 1; omega) (.bool s)).setCell (p := ⟨w.heap.size + 1, 3, none⟩) (by show w.heap.size ≤ w.heap.size + 1; omega) (.slice a2 A.length c2)).setCell (p := ⟨w.heap.size + 1, 4, none⟩) (by show w.heap.size ≤ w.heap.size + 1; omega) (.slice b3 D.length d2))
  have S2 := (((((((((Only.refl (InG (w.heap.size + 1) (w.heap.size + 1 + 1 + 1) w2.heap.size) w2).setCell (p := ⟨w.heap.size + 1 + 1, 2, none⟩) (.inl ⟨by show w.heap.size + 1 ≤ w.heap.size + 1 + 1; omega, by show w.heap.size + 1 + 1 < w.heap.size + 1 + 1 + 1; omega⟩) (.bool s)).setCell (p := ⟨w.heap.size + 1 + 1, 3, none⟩) (.inl ⟨by show w.heap.size + 1 ≤ w.heap.size + 1 + 1; omega, by show w.heap.size + 1 + 1 < w.heap.size + 1 + 1 + 1; omega⟩) (.slice a2 A.length c2)).setCell (p := ⟨w.heap.size + 1 + 1, 4, none⟩) (.inl ⟨by show w.heap.size + 1 ≤ w.heap.size + 1 + 1; omega, by show w.heap.size + 1 + 1 < w.heap.size + 1 + 1 + 1; omega⟩) (.slice b3 D.length d2)).setCell (p := ⟨w.heap.size + 1, 0, none⟩) (.inl ⟨by show w.heap.size + 1 ≤ w.heap.size + 1; omega, by show w.heap.size + 1 < w.heap.size + 1 + 1 + 1; omega⟩) (.slice a1 K.length c1)).setCell (p := ⟨w.heap.size + 1, 1, none⟩) (.inl ⟨by show w.heap.size + 1 ≤ w.heap.size + 1; omega, by show w.heap.size + 1 < w.heap.size + 1 + 1 + 1; omega⟩) (.int .i64 x)).setCell (p := ⟨w.heap.size + 1, 2, none⟩) (.inl ⟨by show w.heap.size + 1 ≤ w.heap.size + 1; omega, by show w.heap.size + 1 < w.heap.size + 1 + 1 + 1; omega⟩) (.bool s)).setCell (p := ⟨w.heap.size + 1, 3, none⟩) (.inl ⟨by show w.heap.size + 1 ≤ w.heap.size + 1; omega, by show w.heap.size + 1 < w.heap.size + 1 + 1 + 1; omega⟩) (.slice a2 A.length c2)).setCell (p := ⟨w.heap.size + 1, 4, none⟩) (.inl ⟨by show w.heap.size + 1 ≤ w.heap.size + 1; omega, by show w.heap.size + 1 < w.heap.size + 1 + 1 + 1; omega⟩) (.slice b3 D.length d2))
  have hz2 : ((((((((w2.setCell ⟨w.heap.size + 1 + 1, 2, none⟩ (.bool s)).setCell ⟨w.heap.size + 1 + 1, 3, none⟩ (.slice a2 A.length c2)).setCell ⟨w.heap.size + 1 + 1, 4, none⟩ (.slice b3 D.length d2)).setCell ⟨w.heap.size + 1, 0, none⟩ (.slice a1 K.length c1)).setCell ⟨w.heap.size + 1, 1, none⟩ (.int .i64 x)).setCell ⟨w.heap.size + 1, 2, none⟩ (.bool s)).setCell ⟨w.heap.size + 1, 3, none⟩ (.slice a2 A.length c2)).setCell ⟨w.heap.size + 1, 4, none⟩ (.slice b3 D.length d2)).heap.size = w2.heap.size := by simp only [size_set]
  have hT := hid ((I1.out.onlyG S2 (.inr (by omega))).wide hs0 (Nat.le_refl _))
  have hR := hid (r1.onlyG S2 (.inr (by omega)))
  have hF := hid (show RwM ((((((((w2.setCell ⟨w.heap.size + 1 + 1, 2, none⟩ (.bool s)).setCell ⟨w.heap.size + 1 + 1, 3, none⟩ (.slice a2 A.length c2)).setCell ⟨w.heap.size + 1 + 1, 4, none⟩ (.slice b3 D.length d2)).setCell ⟨w.heap.size + 1, 0, none⟩ (.slice a1 K.length c1)).setCell ⟨w.heap.size + 1, 1, none⟩ (.int .i64 x)).setCell ⟨w.heap.size + 1, 2, none⟩ (.bool s)).setCell ⟨w.heap.size + 1, 3, none⟩ (.slice a2 A.length c2)).setCell ⟨w.heap.size + 1, 4, none⟩ (.slice b3 D.length d2)) (.slice a1 K.length c1) (.slice a2 A.length c2) (.slice b3 D.length d2) K A D w.heap.size w1.heap.size ((((((((w2.setCell ⟨w.heap.size + 1 + 1, 2, none⟩ (.bool s)).setCell ⟨w.heap.size + 1 + 1, 3, none⟩ (.slice a2 A.length c2)).setCell ⟨w.heap.size + 1 + 1, 4, none⟩ (.slice b3 D.length d2)).setCell ⟨w.heap.size + 1, 0, none⟩ (.slice a1 K.length c1)).setCell ⟨w.heap.size + 1, 1, none⟩ (.int .i64 x)).setCell ⟨w.heap.size + 1, 2, none⟩ (.bool s)).setCell ⟨w.heap.size + 1, 3, none⟩ (.slice a2 A.length c2)).setCell ⟨w.heap.size + 1, 4, none⟩ (.slice b3 D.length d2)).heap.size from ⟨hT.out, by rw [hz2, ← hz]; exact hR.out, by omega, by rw [hz2]; omega⟩)
  clear r1 b2 S2 hT hR hz2 hz
  go_wp2
  exact bodyPost_ret (v := .agg #[.slice a1 K.length c1, .int .i64 x, .bool s, .slice a2 A.length c2, .slice b3 D.length d2]) (by simp [results, Try.results101, go_sem, o0, o1, o2, o3, o4]) rfl ⟨_, _, _, _, _, _, _, rfl, hF.out, hB.out⟩
theorem eqTermS_rw {t1 v1 u1 t2 v2 u2 : Value} {K : List Tq} {A D : List Int} (hK : szT K ≤ 4194304) (W : World) (g1 : RwW W t1 v1 u1 K A D) (g2 : RwW W t2 v2 u2 K A D) : Calls Try.prog 52 #[t1, t2] W (RetB (.bool true) W) := by
  obtain ⟨⟨_, _, _, a1⟩, -⟩ := g1
  obtain ⟨⟨_, _, _, a2⟩, -⟩ := g2
  exact eqTermS_k hK W a1 a2
theorem eqRat_rw {s : Bool} {t1 v1 u1 t2 v2 u2 : Value} {K : List Tq} {A D : List Int} (hA : A.length ≤ 1073741824) (hD : D.length ≤ 1073741824) (W : World) (g1 : RwW W t1 v1 u1 K A D) (g2 : RwW W t2 v2 u2 K A D) : Calls Try.prog 44 #[.agg #[.bool s, v1, u1], .agg #[.bool s, v2, u2]] W (RetB (.bool true) W) := by
  obtain ⟨-, _, _, a1⟩ := g1
  obtain ⟨-, _, _, a2⟩ := g2
  exact eqRat_w s v1 u1 v2 u2 A D _ _ _ _ hA hD W a1 a2
set_option maxRecDepth 100000 in
set_option maxHeartbeats 6400000 in
theorem eqRow_k (x : Int) (s : Bool) {t1 v1 u1 t2 v2 u2 : Value} {K : List Tq} {A D : List Int} (hK : szT K ≤ 4194304) (hA : A.length ≤ 1073741824) (hD : D.length ≤ 1073741824) (w : World) (o1 : RwW w t1 v1 u1 K A D) (o2 : RwW w t2 v2 u2 K A D) :
    Calls Try.prog 59 #[.agg #[t1, .int .i64 x, .bool s, v1, u1], .agg #[t2, .int .i64 x, .bool s, v2, u2]] w (RetB (.bool true) w) := by
  obtain ⟨a1, c1, b1, d1, e1, f1, rfl, rfl, rfl⟩ := o1.form
  obtain ⟨a2, c2, b2, d2, e2, f2, rfl, rfl, rfl⟩ := o2.form
  have B := hid (below_new2 (w := w) (o := .cells #[.slice a1 K.length c1, .int .i64 x, .bool s, .slice b1 A.length d1, .slice e1 D.length f1] 91) (o' := .cells #[.slice a2 K.length c2, .int .i64 x, .bool s, .slice b2 A.length d2, .slice e2 D.length f2] 91))
  have L1 := hid ((LocA.at (T := 91) (w := w) (b := w.heap.size) (cs := #[.slice a1 K.length c1, .int .i64 x, .bool s, .slice b1 A.length d1, .slice e1 D.length f1]) rfl).new1 (o := .cells #[.slice a2 K.length c2, .int .i64 x, .bool s, .slice b2 A.length d2, .slice e2 D.length f2] 91))
  have L2 := hid (LocA.at (T := 91) (w := w.alloc (.cells #[.slice a1 K.length c1, .int .i64 x, .bool s, .slice b1 A.length d1, .slice e1 D.length f1] 91)) (b := w.heap.size + 1) (cs := #[.slice a2 K.length c2, .int .i64 x, .bool s, .slice b2 A.length d2, .slice e2 D.length f2]) (by simp))
  have O1 := hid (o1.old B.out)
  have O2 := hid (o2.old B.out)
  have K1 := hid (fun (W : World) (g1 : RwW W (.slice a1 K.length c1) (.slice b1 A.length d1) (.slice e1 D.length f1) K A D) (g2 : RwW W (.slice a2 K.length c2) (.slice b2 A.length d2) (.slice e2 D.length f2) K A D) => eqTermS_rw hK W g1 g2)
  have K2 := hid (fun (W : World) (g1 : RwW W (.slice a1 K.length c1) (.slice b1 A.length d1) (.slice e1 D.length f1) K A D) (g2 : RwW W (.slice a2 K.length c2) (.slice b2 A.length d2) (.slice e2 D.length f2) K A D) => eqRat_rw (s := s) hA hD W g1 g2)
  clear o1 o2
  generalize hW : (w.alloc (.cells #[.slice a1 K.length c1, .int .i64 x, .bool s, .slice b1 A.length d1, .slice e1 D.length f1] 91)).alloc (.cells #[.slice a2 K.length c2, .int .i64 x, .bool s, .slice b2 A.length d2, .slice e2 D.length f2] 91) = W0 at B L1 L2 O1 O2
  have HW := hid hW
  clear hW
  go_enter Try.func59, Try.ntmps59
  go_wp2_with fail
  rw [HW.out]
  (with_reducible refine (K1.out _ O1.out O2.out).mono ?_)
  rintro e w1 ⟨rfl, g1⟩
  have O1 := hid (O1.out.old g1)
  have O2 := hid (O2.out.old g1)
  have L1 := hid (L1.out.old g1)
  have L2 := hid (L2.out.old g1)
  have B := hid (B.out.trans (g1.mono B.out.size))
  have q0 := L1.out.c 1 rfl
  have q1 := L1.out.c 2 rfl
  have q2 := L1.out.c 3 rfl
  have q3 := L1.out.c 4 rfl
  have q4 := L2.out.c 1 rfl
  have q5 := L2.out.c 2 rfl
  have q6 := L2.out.c 3 rfl
  have q7 := L2.out.c 4 rfl
  clear g1
  go_wp2_with fail
  (with_reducible refine (K2.out _ O1.out O2.out).mono ?_)
  rintro e w2 ⟨rfl, g1⟩
  have B := hid (B.out.trans (g1.mono B.out.size))
  clear g1 q0 q1 q2 q3 q4 q5 q6 q7
  go_wp2
  go_ret
  exact ⟨rfl, B.out⟩
/-- What a marking call leaves of a row's struct. -/
def MarkRw (t v u : Value) (K : List Tq) (A D : List Int) (m : Int) (lo mi hi : Nat) (w : World) (e : Ending) (w' : World) : Prop := e = .returned (.int .i64 (m + (szT K : Int) + (A.length : Int) + (D.length : Int))) ∧ RwM w' t v u (mkT K m) (marks A.length (m + (szT K : Int))) (marks D.length (m + (szT K : Int) + (A.length : Int))) lo mi hi ∧ Only (InG lo hi w.heap.size) w w'
theorem ret_bool' {b b' : Bool} {w w' : World} (h : b = b') (hb : Below w.heap.size w w') : RetB (.bool b') w (.returned (.bool b)) w' := ⟨by rw [h], hb⟩
end Go.Proofs.Yteanocjkdehhgaa
