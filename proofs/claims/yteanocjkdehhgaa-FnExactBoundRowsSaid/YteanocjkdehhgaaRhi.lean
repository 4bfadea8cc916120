/- Merged: Rh Ri. -/
import Derived.Test.YteanocjkdehhgaaFra
import Derived.Test.YteanocjkdehhgaaSra
/- The laws' helpers on fractions. -/
namespace Go.Proofs.Yteanocjkdehhgaa
open Go.RowKit
open Go.Lib (hid)
set_option linter.unusedVariables false

theorem Obj_at {w' : World} {v : Value} {L : List Int} {B lo : Nat} (h : Ints w' B v L) (hlo : lo ≤ B) : Obj w' v L lo w'.heap.size := ⟨Ints_base h hlo, fun k hk => (Ints_lt h k hk).2⟩
theorem Obj_drew1 {w : World} {v : Value} {L : List Int} {lo hi : Nat} (h : Obj w v L lo hi) : Obj w.drew v L lo hi := ⟨h.ints, h.high⟩
theorem Obj.one {w : World} {v : Value} {L : List Int} {lo hi : Nat} (h : Obj w v L lo hi) : ∃ a b, Obj w v L a b ∧ lo ≤ a ∧ (b = 0 ∨ b ≤ hi) ∧ b ≤ w.heap.size ∧ ((v.ownBlock = none ∧ b = 0) ∨ (v.ownBlock = some a ∧ b = a + 1)) := by
  cases hv : v.ownBlock with
  | none => exact ⟨lo, 0, ⟨h.ints, fun k hk => by rw [hv] at hk; cases hk⟩, Nat.le_refl _, .inl rfl, Nat.zero_le _, .inl ⟨rfl, rfl⟩⟩
  | some k =>
    have hk := Ints_lt h.ints k hv
    have hh := h.high k hv
    exact ⟨k, k + 1, ⟨Ints_rebase h.ints fun j hj => by rw [hv] at hj; cases hj; exact Nat.le_refl _, fun j hj => by rw [hv] at hj; cases hj; omega⟩, hk.1, .inr (by omega), by omega, .inr ⟨rfl, rfl⟩⟩
/-- A fraction's struct of the law's own: its two slices lie between lo and hi, apart from each other. -/
structure ROb (w : World) (v u : Value) (A D : List Int) (lo hi : Nat) : Prop where
  a : Obj w v A lo hi
  d : Obj w u D lo hi
  ne : ∀ k, v.ownBlock = some k → u.ownBlock ≠ some k
theorem ROb.old {w w' : World} {v u : Value} {A D : List Int} {lo hi : Nat} (h : ROb w v u A D lo hi) (hb : Below w.heap.size w w') : ROb w' v u A D lo hi := ⟨h.a.old hb, h.d.old hb, h.ne⟩
theorem ROb.at {w : World} {v u : Value} {A D : List Int} {l lo hi : Nat} (h : ROb w v u A D l hi) (hl : lo ≤ l) : ROb w v u A D lo hi := ⟨⟨Ints_base h.a.ints hl, h.a.high⟩, ⟨Ints_base h.d.ints hl, h.d.high⟩, h.ne⟩
theorem ROb.form {w : World} {v u : Value} {A D : List Int} {lo hi : Nat} (h : ROb w v u A D lo hi) : ∃ (a : Option Addr) (c : Nat) (b : Option Addr) (d : Nat), v = .slice a A.length c ∧ u = .slice b D.length d := by
  obtain ⟨a1, c1, rfl, -⟩ := Ints_form h.a.ints
  obtain ⟨a2, c2, rfl, -⟩ := Ints_form h.d.ints
  exact ⟨_, _, _, _, rfl, rfl⟩
theorem ROb.rl {w : World} {v u : Value} {A D : List Int} {lo hi : Nat} (h : ROb w v u A D lo hi) (la : A.length ≤ 1048576) (ld : D.length ≤ 1048576) : RL w v u A D := ⟨⟨_, h.a.ints⟩, ⟨_, h.d.ints⟩, la, ld⟩
theorem ROb.onlyG {w w' : World} {v u : Value} {A D : List Int} {lo hi a b : Nat} (h : ROb w v u A D lo hi) (hb : Only (InG a b w.heap.size) w w') (hd : hi ≤ a ∨ b ≤ lo) : ROb w' v u A D lo hi := ⟨h.a.onlyG hb hd, h.d.onlyG hb hd, h.ne⟩
theorem ROb.split {w : World} {v u : Value} {A D : List Int} {lo hi : Nat} (h : ROb w v u A D lo hi) :
    ∃ a b c d, Obj w v A a b ∧ Obj w u D c d ∧ lo ≤ a ∧ lo ≤ c ∧ (b = 0 ∨ b ≤ hi) ∧ (d = 0 ∨ d ≤ hi) ∧ b ≤ w.heap.size ∧ d ≤ w.heap.size ∧ (b ≤ c ∨ d ≤ a) := by
  obtain ⟨a, b, o1, l1, u1, s1, k1⟩ := h.a.one
  obtain ⟨c, d, o2, l2, u2, s2, k2⟩ := h.d.one
  refine ⟨a, b, c, d, o1, o2, l1, l2, u1, u2, s1, s2, ?_⟩
  rcases k1 with ⟨-, k1⟩ | ⟨e1, k1⟩
  · omega
  · rcases k2 with ⟨-, k2⟩ | ⟨e2, k2⟩
    · omega
    · have : a ≠ c := by
        intro e
        subst e
        exact h.ne a e1 e2
      omega
/-- A fraction's struct that came in. -/
structure CameR (w : World) (h : Nat) (a : Option Addr) (n : Nat) (A : List Int) (b : Option Addr) (m : Nat) (D : List Int) : Prop where
  x : Came w h a n A
  y : Came w h b m D
theorem CameR.old {w w' : World} {h n m : Nat} {a b : Option Addr} {A D : List Int} (c : CameR w h a n A b m D) (hb : Below w.heap.size w w') : CameR w' h a n A b m D := ⟨c.x.old hb, c.y.old hb⟩
theorem CameR.onlyG {w w' : World} {h n m lo hi : Nat} {a b : Option Addr} {A D : List Int} (c : CameR w h a n A b m D) (hb : Only (InG lo hi w.heap.size) w w') (hlo : h ≤ lo) : CameR w' h a n A b m D := ⟨c.x.onlyG hb hlo, c.y.onlyG hb hlo⟩
theorem LocA.only {S : Nat → Prop} {T : TypeId} {w w' : World} {b : Nat} {cs : Array Value} (h : LocA T w b cs) (hb : Only S w w') (hS : ¬ S b) : LocA T w' b cs := (hb.block _ hS).trans h
theorem LocA.onlyG {T : TypeId} {w w' : World} {b lo hi : Nat} {cs : Array Value} (h : LocA T w b cs) (hb : Only (InG lo hi w.heap.size) w w') (hd : b < lo ∨ hi ≤ b) : LocA T w' b cs :=
  h.only hb fun hs => by have := InG_cases hs; have := h.lt; omega
/-- A fraction's struct of the call's own, in the laws' words. -/
def OwnRR (s : Bool) (A D : List Int) (w : World) (e : Ending) (w' : World) : Prop := ∃ v u, e = .returned (.agg #[.bool s, v, u]) ∧ ROb w' v u A D w.heap.size w'.heap.size ∧ Below w.heap.size w w'
theorem OwnRR_of {o : Option Rat} {w w' : World} {e : Ending} (h : OwnR o w e w') : OwnRR (gzs (qn o)) (gzl (qn o)) (gzl (qd o)) w e w' := by
  obtain ⟨v, u, he, h1, h2, hd, hb⟩ := h
  exact ⟨v, u, he, ⟨Obj_at h1 (Nat.le_refl _), Obj_at h2 (Nat.le_refl _), hd⟩, hb⟩
theorem szRat_yes (s : Bool) (a : Option Addr) (n c : Nat) (b : Option Addr) (m d : Nat) (z : Int) (h0 : (n : Int) + (m : Int) ≤ z) (h1 : z ≤ 1048576) (w : World) :
    Calls Try.prog 40 #[.agg #[.bool s, .slice a n c, .slice b m d], .int .i64 z] w (RetB (.int .i64 (z - n - m)) w) := by
  have K := hid (szBigInt_yes s a n c z (by omega) h1)
  have K2 := hid (szIntS_yes b m d (z - n) (by omega) (by omega))
  have h2 : ¬ z - (n : Int) < 0 := by omega
  have h3 : ¬ z - (n : Int) - (m : Int) < 0 := by omega
  have B := hid (below_new' (w := w) (o := .cells #[.bool s, .slice a n c, .slice b m d] 26))
  have LX := hid (LocA.new (w := w) (T := 26) (cs := #[.bool s, .slice a n c, .slice b m d]))
  go_enter Try.func40, Try.ntmps40
  go_wp2_with fail
  generalize w.alloc (.cells #[.bool s, .slice a n c, .slice b m d] 26) = W at B LX ⊢
  (with_reducible refine (K.out _).mono ?_)
  rintro e w1 ⟨rfl, b1⟩
  have B := hid (B.out.trans (b1.mono B.out.size))
  have LX := hid (LX.out.old b1)
  have q0 := LX.out.c 2 rfl
  clear b1
  go_wp2_with fail
  (with_reducible refine (K2.out _).mono ?_)
  rintro e w2 ⟨rfl, rfl⟩
  go_wp2
  go_ret
  exact ⟨rfl, B.out⟩
theorem szRat_no (s : Bool) (a : Option Addr) (n c : Nat) (b : Option Addr) (m d : Nat) (z : Int) (hn : n ≤ maxLen) (hm : m ≤ maxLen) (h0 : z < (n : Int) + (m : Int)) (hz : 0 ≤ z) (h1 : z ≤ 1048576) (w : World) :
    Calls Try.prog 40 #[.agg #[.bool s, .slice a n c, .slice b m d], .int .i64 z] w (RetB (.int .i64 (-1)) w) := by
  have B := hid (below_new' (w := w) (o := .cells #[.bool s, .slice a n c, .slice b m d] 26))
  have LX := hid (LocA.new (w := w) (T := 26) (cs := #[.bool s, .slice a n c, .slice b m d]))
  by_cases hA : z < (n : Int)
  · have K := hid (szBigInt_no s a n c z hn hA hz h1)
    go_enter Try.func40, Try.ntmps40
    go_wp2_with fail
    generalize w.alloc (.cells #[.bool s, .slice a n c, .slice b m d] 26) = W at B LX ⊢
    (with_reducible refine (K.out _).mono ?_)
    rintro e w1 ⟨rfl, b1⟩
    have B := hid (B.out.trans (b1.mono B.out.size))
    clear b1
    go_wp2
    go_ret
    exact ⟨rfl, B.out⟩
  · have K := hid (szBigInt_yes s a n c z (by omega) h1)
    have K2 := hid (szIntS_no b m d (z - n) hm (by omega) (by omega) (by omega))
    have h2 : ¬ z - (n : Int) < 0 := by omega
    go_enter Try.func40, Try.ntmps40
    go_wp2_with fail
    generalize w.alloc (.cells #[.bool s, .slice a n c, .slice b m d] 26) = W at B LX ⊢
    (with_reducible refine (K.out _).mono ?_)
    rintro e w1 ⟨rfl, b1⟩
    have B := hid (B.out.trans (b1.mono B.out.size))
    have LX := hid (LX.out.old b1)
    have q0 := LX.out.c 2 rfl
    clear b1
    go_wp2_with fail
    (with_reducible refine (K2.out _).mono ?_)
    rintro e w2 ⟨rfl, rfl⟩
    go_wp2
    go_ret
    exact ⟨rfl, B.out⟩
theorem eqRat_obj (s : Bool) (v1 u1 v2 u2 : Value) (A D : List Int) (l1 h1 l2 h2 : Nat) (hA : A.length ≤ 1073741824) (hD : D.length ≤ 1073741824) (w : World) (o1 : ROb w v1 u1 A D l1 h1) (o2 : ROb w v2 u2 A D l2 h2) :
    Calls Try.prog 44 #[.agg #[.bool s, v1, u1], .agg #[.bool s, v2, u2]] w (RetB (.bool true) w) := by
  have B := hid (below_new2 (w := w) (o := .cells #[.bool s, v1, u1] 33) (o' := .cells #[.bool s, v2, u2] 33))
  have L1 := hid ((LocA.at (T := 33) (w := w) (b := w.heap.size) (cs := #[.bool s, v1, u1]) rfl).new1 (o := .cells #[.bool s, v2, u2] 33))
  have L2 := hid (LocA.at (T := 33) (w := w.alloc (.cells #[.bool s, v1, u1] 33)) (b := w.heap.size + 1) (cs := #[.bool s, v2, u2]) (by simp))
  have O1 := hid (o1.old B.out)
  have O2 := hid (o2.old B.out)
  have K := hid (fun (W : World) (g1 : Obj W v1 A l1 h1) (g2 : Obj W v2 A l2 h2) => eqBigInt_obj s v1 v2 A l1 h1 l2 h2 hA W g1 g2)
  have K2 := hid (fun (W : World) (g1 : Obj W u1 D l1 h1) (g2 : Obj W u2 D l2 h2) => eqIntS_obj u1 u2 D l1 h1 l2 h2 hD W g1 g2)
  obtain ⟨a1, c1, b1, d1, rfl, rfl⟩ := o1.form
  obtain ⟨a2, c2, b2, d2, rfl, rfl⟩ := o2.form
  clear o1 o2
  generalize hW : (w.alloc (.cells #[.bool s, .slice a1 A.length c1, .slice b1 D.length d1] 33)).alloc (.cells #[.bool s, .slice a2 A.length c2, .slice b2 D.length d2] 33) = W0 at B L1 L2 O1 O2
  have HW := hid hW
  clear hW
  go_enter Try.func44, Try.ntmps44
  go_wp2_with fail
  rw [HW.out]
  (with_reducible refine (K.out _ O1.out.a O2.out.a).mono ?_)
  rintro e w1 ⟨rfl, g1⟩
  have O1 := hid (O1.out.old g1)
  have O2 := hid (O2.out.old g1)
  have L1 := hid (L1.out.old g1)
  have L2 := hid (L2.out.old g1)
  have B := hid (B.out.trans (g1.mono B.out.size))
  have q0 := L1.out.c 2 rfl
  have q1 := L2.out.c 2 rfl
  clear g1
  go_wp2_with fail
  (with_reducible refine (K2.out _ O1.out.d O2.out.d).mono ?_)
  rintro e w2 ⟨rfl, g1⟩
  have B := hid (B.out.trans (g1.mono B.out.size))
  clear g1 q0 q1
  go_wp2
  go_ret
  exact ⟨rfl, B.out⟩
theorem Obj.wide {w : World} {v : Value} {L : List Int} {lo hi a b : Nat} (h : Obj w v L a b) (h1 : lo ≤ a) (h2 : b = 0 ∨ b ≤ hi) : Obj w v L lo hi := ⟨Ints_base h.ints h1, fun k hk => by have := h.high k hk; omega⟩
/-- What a marking call leaves of a fraction's struct. -/
def MarkRR (s : Bool) (v u : Value) (A D : List Int) (m : Int) (lo hi : Nat) (w : World) (e : Ending) (w' : World) : Prop := e = .returned (.int .i64 (m + (A.length : Int) + (D.length : Int))) ∧ ROb w' v u (marks A.length m) (marks D.length (m + (A.length : Int))) lo hi ∧ Only (InG lo hi w.heap.size) w w'
theorem InG_sub {lo hi a b h h' k : Nat} (hk : InG a b h' k) (h1 : lo ≤ a) (h2 : b = 0 ∨ b ≤ hi) (h3 : h ≤ h') : InG lo hi h k := by
  rcases InG_cases hk with h | h
  · exact .inl ⟨by omega, by omega⟩
  · exact .inr (by omega)
end Go.Proofs.Yteanocjkdehhgaa

/- What the laws on fractions hold: structs of their own, structs laid into variables. -/
namespace Go.Proofs.Yteanocjkdehhgaa
open Go.RowKit
open Go.Lib (hid)
set_option linter.unusedVariables false

/-- As ROb, the two slices perhaps not apart. -/
structure ROw (w : World) (v u : Value) (A D : List Int) (lo hi : Nat) : Prop where
  a : Obj w v A lo hi
  d : Obj w u D lo hi
theorem ROb.w {w : World} {v u : Value} {A D : List Int} {lo hi : Nat} (h : ROb w v u A D lo hi) : ROw w v u A D lo hi := ⟨h.a, h.d⟩
theorem ROw.w {w : World} {v u : Value} {A D : List Int} {lo hi : Nat} (h : ROw w v u A D lo hi) : ROw w v u A D lo hi := h
theorem ROw.old {w w' : World} {v u : Value} {A D : List Int} {lo hi : Nat} (h : ROw w v u A D lo hi) (hb : Below w.heap.size w w') : ROw w' v u A D lo hi := ⟨h.a.old hb, h.d.old hb⟩
theorem ROw.at {w : World} {v u : Value} {A D : List Int} {l lo hi : Nat} (h : ROw w v u A D l hi) (hl : lo ≤ l) : ROw w v u A D lo hi := ⟨⟨Ints_base h.a.ints hl, h.a.high⟩, ⟨Ints_base h.d.ints hl, h.d.high⟩⟩
theorem ROw.form {w : World} {v u : Value} {A D : List Int} {lo hi : Nat} (h : ROw w v u A D lo hi) : ∃ (a : Option Addr) (c : Nat) (b : Option Addr) (d : Nat), v = .slice a A.length c ∧ u = .slice b D.length d := by
  obtain ⟨a1, c1, rfl, -⟩ := Ints_form h.a.ints
  obtain ⟨a2, c2, rfl, -⟩ := Ints_form h.d.ints
  exact ⟨_, _, _, _, rfl, rfl⟩
theorem ROw.onlyG {w w' : World} {v u : Value} {A D : List Int} {lo hi a b : Nat} (h : ROw w v u A D lo hi) (hb : Only (InG a b w.heap.size) w w') (hd : hi ≤ a ∨ b ≤ lo) : ROw w' v u A D lo hi := ⟨h.a.onlyG hb hd, h.d.onlyG hb hd⟩
def OwnRS (s : Bool) (A D : List Int) (w : World) (e : Ending) (w' : World) : Prop := ∃ v u, e = .returned (.agg #[.bool s, v, u]) ∧ ROw w' v u A D w.heap.size w'.heap.size ∧ Below w.heap.size w w'
theorem OwnRS_of {o : Option Rat} {w w' : World} {e : Ending} (h : OwnS o w e w') : OwnRS (gzs (qn o)) (gzl (qn o)) (gzl (qd o)) w e w' := by
  obtain ⟨v, u, he, h1, h2, hb⟩ := h
  exact ⟨v, u, he, ⟨Obj_at h1 (Nat.le_refl _), Obj_at h2 (Nat.le_refl _)⟩, hb⟩
theorem cell_set3x {w : World} {b N i : Nat} {u v x : Value} (h : b ≠ N) : (((w.setCell ⟨N, 0, none⟩ u).setCell ⟨N, 1, none⟩ v).setCell ⟨N, 2, none⟩ x).cell? ⟨b, i, none⟩ = w.cell? ⟨b, i, none⟩ := cell_set3 h
theorem eqRat_w (s : Bool) (v1 u1 v2 u2 : Value) (A D : List Int) (l1 h1 l2 h2 : Nat) (hA : A.length ≤ 1073741824) (hD : D.length ≤ 1073741824) (w : World) (o1 : ROw w v1 u1 A D l1 h1) (o2 : ROw w v2 u2 A D l2 h2) :
    Calls Try.prog 44 #[.agg #[.bool s, v1, u1], .agg #[.bool s, v2, u2]] w (RetB (.bool true) w) := by
  have B := hid (below_new2 (w := w) (o := .cells #[.bool s, v1, u1] 33) (o' := .cells #[.bool s, v2, u2] 33))
  have L1 := hid ((LocA.at (T := 33) (w := w) (b := w.heap.size) (cs := #[.bool s, v1, u1]) rfl).new1 (o := .cells #[.bool s, v2, u2] 33))
  have L2 := hid (LocA.at (T := 33) (w := w.alloc (.cells #[.bool s, v1, u1] 33)) (b := w.heap.size + 1) (cs := #[.bool s, v2, u2]) (by simp))
  have O1 := hid (o1.old B.out)
  have O2 := hid (o2.old B.out)
  have K := hid (fun (W : World) (g1 : Obj W v1 A l1 h1) (g2 : Obj W v2 A l2 h2) => eqBigInt_obj s v1 v2 A l1 h1 l2 h2 hA W g1 g2)
  have K2 := hid (fun (W : World) (g1 : Obj W u1 D l1 h1) (g2 : Obj W u2 D l2 h2) => eqIntS_obj u1 u2 D l1 h1 l2 h2 hD W g1 g2)
  obtain ⟨a1, c1, b1, d1, rfl, rfl⟩ := o1.form
  obtain ⟨a2, c2, b2, d2, rfl, rfl⟩ := o2.form
  clear o1 o2
  generalize hW : (w.alloc (.cells #[.bool s, .slice a1 A.length c1, .slice b1 D.length d1] 33)).alloc (.cells #[.bool s, .slice a2 A.length c2, .slice b2 D.length d2] 33) = W0 at B L1 L2 O1 O2
  have HW := hid hW
  clear hW
  go_enter Try.func44, Try.ntmps44
  go_wp2_with fail
  rw [HW.out]
  (with_reducible refine (K.out _ O1.out.a O2.out.a).mono ?_)
  rintro e w1 ⟨rfl, g1⟩
  have O1 := hid (O1.out.old g1)
  have O2 := hid (O2.out.old g1)
  have L1 := hid (L1.out.old g1)
  have L2 := hid (L2.out.old g1)
  have B := hid (B.out.trans (g1.mono B.out.size))
  have q0 := L1.out.c 2 rfl
  have q1 := L2.out.c 2 rfl
  clear g1
  go_wp2_with fail
  (with_reducible refine (K2.out _ O1.out.d O2.out.d).mono ?_)
  rintro e w2 ⟨rfl, g1⟩
  have B := hid (B.out.trans (g1.mono B.out.size))
  clear g1 q0 q1
  go_wp2
  go_ret
  exact ⟨rfl, B.out⟩
/-- A fraction's struct of the law's own has been laid into a variable of its own, at block g. -/
def LaidRR (T : TypeId) (W : World) (rs : Bool) (R1 R2 : List Int) (sl : Value) (wx : World) : Prop := ∃ g a c b d lo hi, sl = .pointer (some ⟨g, 0, none⟩) ∧ LocA T wx g #[.bool rs, .slice a R1.length c, .slice b R2.length d] ∧ ROb wx (.slice a R1.length c) (.slice b R2.length d) R1 R2 lo hi ∧ W.heap.size ≤ lo ∧ W.heap.size ≤ g ∧ (g < lo ∨ hi ≤ g) ∧ g < wx.heap.size ∧ hi ≤ wx.heap.size ∧ Below W.heap.size W wx
theorem LaidRR_a {T : TypeId} {W wf : World} {rs : Bool} {R1 R2 : List Int} {a b : Option Addr} {c d B : Nat} (hi : ROb wf (.slice a R1.length c) (.slice b R2.length d) R1 R2 B wf.heap.size) (hB : W.heap.size ≤ B) (hb : Below W.heap.size W wf) :
    LaidRR T W rs R1 R2 (.pointer (some ⟨wf.heap.size, 0, none⟩)) (wf.alloc (.cells #[.bool rs, .slice a R1.length c, .slice b R2.length d] T)) :=
  ⟨wf.heap.size, a, c, b, d, W.heap.size, wf.heap.size, rfl, LocA.new, (hi.old below_new').at hB, Nat.le_refl _, hb.size, .inr (Nat.le_refl _), by simp, by simp, hb.alloc hb.size _⟩
theorem LaidRR_b {T : TypeId} {W wf : World} {rs : Bool} {R1 R2 : List Int} {a b : Option Addr} {c d B N : Nat} (hT : T ≠ 3) (hL : LocA T wf N #[.bool false, .slice none 0 0, .slice none 0 0]) (hN : W.heap.size ≤ N) (hNB : N < B) (hi : ROb wf (.slice a R1.length c) (.slice b R2.length d) R1 R2 B wf.heap.size) (hb : Below W.heap.size W wf) :
    LaidRR T W rs R1 R2 (.pointer (some ⟨N, 0, none⟩)) (((wf.setCell ⟨N, 0, none⟩ (.bool rs)).setCell ⟨N, 1, none⟩ (.slice a R1.length c)).setCell ⟨N, 2, none⟩ (.slice b R2.length d)) := by
  have n1 := hL.ne hT hi.a.ints
  have n2 := hL.ne hT hi.d.ints
  have hz : (((wf.setCell ⟨N, 0, none⟩ (.bool rs)).setCell ⟨N, 1, none⟩ (.slice a R1.length c)).setCell ⟨N, 2, none⟩ (.slice b R2.length d)).heap.size = wf.heap.size := by simp [World.setCell]
  have hl := hL.lt
  have o1 : Obj (((wf.setCell ⟨N, 0, none⟩ (.bool rs)).setCell ⟨N, 1, none⟩ (.slice a R1.length c)).setCell ⟨N, 2, none⟩ (.slice b R2.length d)) (.slice a R1.length c) R1 B wf.heap.size := ⟨Ints_set (Ints_set (Ints_set hi.a.ints n1) n1) n1, hi.a.high⟩
  have o2 : Obj (((wf.setCell ⟨N, 0, none⟩ (.bool rs)).setCell ⟨N, 1, none⟩ (.slice a R1.length c)).setCell ⟨N, 2, none⟩ (.slice b R2.length d)) (.slice b R2.length d) R2 B wf.heap.size := ⟨Ints_set (Ints_set (Ints_set hi.d.ints n2) n2) n2, hi.d.high⟩
  refine ⟨N, a, c, b, d, B, wf.heap.size, rfl, ?_, ⟨o1, o2, hi.ne⟩, by omega, hN, .inl hNB, by rw [hz]; exact hl, by rw [hz]; exact Nat.le_refl _, ((hb.setCell hN _).setCell hN _).setCell hN _⟩
  unfold LocA at hL ⊢
  simp [World.setCell, Array.getElem?_modify, hL]
/-- A fraction's struct of the law's own has been laid into a variable of its own, at block g. -/
def LaidRW (T : TypeId) (W : World) (rs : Bool) (R1 R2 : List Int) (sl : Value) (wx : World) : Prop := ∃ g a c b d lo hi, sl = .pointer (some ⟨g, 0, none⟩) ∧ LocA T wx g #[.bool rs, .slice a R1.length c, .slice b R2.length d] ∧ ROw wx (.slice a R1.length c) (.slice b R2.length d) R1 R2 lo hi ∧ W.heap.size ≤ lo ∧ W.heap.size ≤ g ∧ (g < lo ∨ hi ≤ g) ∧ g < wx.heap.size ∧ hi ≤ wx.heap.size ∧ Below W.heap.size W wx
theorem LaidRW_a {T : TypeId} {W wf : World} {rs : Bool} {R1 R2 : List Int} {a b : Option Addr} {c d B : Nat} (hi : ROw wf (.slice a R1.length c) (.slice b R2.length d) R1 R2 B wf.heap.size) (hB : W.heap.size ≤ B) (hb : Below W.heap.size W wf) :
    LaidRW T W rs R1 R2 (.pointer (some ⟨wf.heap.size, 0, none⟩)) (wf.alloc (.cells #[.bool rs, .slice a R1.length c, .slice b R2.length d] T)) :=
  ⟨wf.heap.size, a, c, b, d, W.heap.size, wf.heap.size, rfl, LocA.new, (hi.old below_new').at hB, Nat.le_refl _, hb.size, .inr (Nat.le_refl _), by simp, by simp, hb.alloc hb.size _⟩
theorem LaidRW_b {T : TypeId} {W wf : World} {rs : Bool} {R1 R2 : List Int} {a b : Option Addr} {c d B N : Nat} (hT : T ≠ 3) (hL : LocA T wf N #[.bool false, .slice none 0 0, .slice none 0 0]) (hN : W.heap.size ≤ N) (hNB : N < B) (hi : ROw wf (.slice a R1.length c) (.slice b R2.length d) R1 R2 B wf.heap.size) (hb : Below W.heap.size W wf) :
    LaidRW T W rs R1 R2 (.pointer (some ⟨N, 0, none⟩)) (((wf.setCell ⟨N, 0, none⟩ (.bool rs)).setCell ⟨N, 1, none⟩ (.slice a R1.length c)).setCell ⟨N, 2, none⟩ (.slice b R2.length d)) := by
  have n1 := hL.ne hT hi.a.ints
  have n2 := hL.ne hT hi.d.ints
  have hz : (((wf.setCell ⟨N, 0, none⟩ (.bool rs)).setCell ⟨N, 1, none⟩ (.slice a R1.length c)).setCell ⟨N, 2, none⟩ (.slice b R2.length d)).heap.size = wf.heap.size := by simp [World.setCell]
  have hl := hL.lt
  have o1 : Obj (((wf.setCell ⟨N, 0, none⟩ (.bool rs)).setCell ⟨N, 1, none⟩ (.slice a R1.length c)).setCell ⟨N, 2, none⟩ (.slice b R2.length d)) (.slice a R1.length c) R1 B wf.heap.size := ⟨Ints_set (Ints_set (Ints_set hi.a.ints n1) n1) n1, hi.a.high⟩
  have o2 : Obj (((wf.setCell ⟨N, 0, none⟩ (.bool rs)).setCell ⟨N, 1, none⟩ (.slice a R1.length c)).setCell ⟨N, 2, none⟩ (.slice b R2.length d)) (.slice b R2.length d) R2 B wf.heap.size := ⟨Ints_set (Ints_set (Ints_set hi.d.ints n2) n2) n2, hi.d.high⟩
  refine ⟨N, a, c, b, d, B, wf.heap.size, rfl, ?_, ⟨o1, o2⟩, by omega, hN, .inl hNB, by rw [hz]; exact hl, by rw [hz]; exact Nat.le_refl _, ((hb.setCell hN _).setCell hN _).setCell hN _⟩
  unfold LocA at hL ⊢
  simp [World.setCell, Array.getElem?_modify, hL]
def CutV (v : Value) (W : World) (sl : Value) (wx : World) : Prop := sl = v ∧ Below W.heap.size W wx
theorem LocA.set {T : TypeId} {w : World} {b i : Nat} {cs : Array Value} {x : Value} (h : LocA T w b cs) : LocA T (w.setCell ⟨b, i, none⟩ x) b (cs.setIfInBounds i x) := by
  unfold LocA at h ⊢
  simp [World.setCell, Array.getElem?_modify, h]
theorem LocA.setne {T : TypeId} {w : World} {b N i : Nat} {cs : Array Value} {x : Value} (h : LocA T w b cs) (hb : b ≠ N) : LocA T (w.setCell ⟨N, i, none⟩ x) b cs := (set_block w N i b x hb).trans h
theorem OwnRR_L {s : Bool} {A D : List Int} {w w' : World} {e : Ending} (h : OwnL s A D w e w') : OwnRR s A D w e w' := by
  obtain ⟨v, u, he, h1, h2, hd, hb⟩ := h
  exact ⟨v, u, he, ⟨Obj_at h1 (Nat.le_refl _), Obj_at h2 (Nat.le_refl _), hd⟩, hb⟩
theorem size_set (w : World) (p : Addr) (x : Value) : (w.setCell p x).heap.size = w.heap.size := by simp [World.setCell]
set_option maxRecDepth 100000 in
set_option maxHeartbeats 3200000 in
theorem toRat_came (s : Bool) (a : Option Addr) (n c : Nat) (b : Option Addr) (m d h : Nat) (A D : List Int) (hA : A.length ≤ 1073741824) (hD : D.length ≤ 1073741824) (w : World) (h1 : CameR w h a n A b m D) :
    Calls Try.prog 42 #[.agg #[.bool s, .slice a n c, .slice b m d]] w (OwnRR s A D w) := by
  have H := hid h1
  have K1 := hid (fun (W : World) (g : Came W h a n A) => toBigInt_came s a n c h A hA W g)
  have K2 := hid (fun (W : World) (g : Came W h b m D) => toIntS_came b m d h D hD W g)
  clear h1
  have B := hid (show Below w.heap.size w (((w.alloc (.cells #[.bool s, .slice a n c, .slice b m d] 26)).alloc (.cells #[.bool false, .slice none 0 0, .slice none 0 0] 33)).alloc (.cells #[.bool false, .slice none 0 0, .slice none 0 0] 33)) from (((Below.refl _ _).alloc (Nat.le_refl _) _).alloc (by simp) _).alloc (by simp; omega) _)
  have LP := hid (show LocA 26 (((w.alloc (.cells #[.bool s, .slice a n c, .slice b m d] 26)).alloc (.cells #[.bool false, .slice none 0 0, .slice none 0 0] 33)).alloc (.cells #[.bool false, .slice none 0 0, .slice none 0 0] 33)) w.heap.size #[.bool s, .slice a n c, .slice b m d] from (LocA.at rfl).new1.new1)
  have LR := hid (show LocA 33 (((w.alloc (.cells #[.bool s, .slice a n c, .slice b m d] 26)).alloc (.cells #[.bool false, .slice none 0 0, .slice none 0 0] 33)).alloc (.cells #[.bool false, .slice none 0 0, .slice none 0 0] 33)) (w.heap.size + 1) #[.bool false, .slice none 0 0, .slice none 0 0] from (LocA.at (by simp)).new1)
  have LO := hid (show LocA 33 (((w.alloc (.cells #[.bool s, .slice a n c, .slice b m d] 26)).alloc (.cells #[.bool false, .slice none 0 0, .slice none 0 0] 33)).alloc (.cells #[.bool false, .slice none 0 0, .slice none 0 0] 33)) (w.heap.size + 1 + 1) #[.bool false, .slice none 0 0, .slice none 0 0] from LocA.at (by simp))
  generalize hW : ((w.alloc (.cells #[.bool s, .slice a n c, .slice b m d] 26)).alloc (.cells #[.bool false, .slice none 0 0, .slice none 0 0] 33)).alloc (.cells #[.bool false, .slice none 0 0, .slice none 0 0] 33) = W0 at B LP LR LO
  have HW := hid hW
  clear hW
  have hs0 := B.out.size
  have hs1 := LO.out.lt
  have q0 := LP.out.c 0 rfl
  have q1 := LP.out.c 1 rfl
  go_enter Try.func42, Try.ntmps42
  go_wp2_with fail
  rw [HW.out]
  (with_reducible refine (K1.out _ (H.out.x.old B.out)).mono ?_)
  clear q0 q1
  rintro e w1 ⟨r, rfl, i1, b1⟩
  have hs2 := b1.size
  have LP := hid (LP.out.old b1)
  have LR := hid (LR.out.old b1)
  have LO := hid (LO.out.old b1)
  have B := hid (B.out.trans (b1.mono B.out.size))
  have n1 := LO.out.ne (by decide) i1
  have n1' := LR.out.ne (by decide) i1
  have NR := hid n1'
  have NO := hid n1
  have I1 := hid (Ints_set (i := 1) (u := r) (Ints_set (i := 0) (u := .bool s) i1 n1) n1)
  have BL := hid (show ∀ k, r.ownBlock = some k → k < w1.heap.size from fun k hk => (Ints_lt i1 k hk).2)
  have f0 := LO.out.f 0
  have f1 := LO.out.f 1
  have p0 := LO.out.c 0 rfl
  have p1 := LO.out.c 1 rfl
  have hz : ((w1.setCell ⟨w.heap.size + 1 + 1, 0, none⟩ (.bool s)).setCell ⟨w.heap.size + 1 + 1, 1, none⟩ r).heap.size = w1.heap.size := (size_set _ _ _).trans (size_set _ _ _)
  have B := hid ((B.out.setCell (by show w.heap.size ≤ w.heap.size + 1 + 1; omega) (.bool s) (p := ⟨w.heap.size + 1 + 1, 0, none⟩)).setCell (by show w.heap.size ≤ w.heap.size + 1 + 1; omega) r (p := ⟨w.heap.size + 1 + 1, 1, none⟩))
  have LP := hid ((LP.out.setne (i := 0) (x := .bool s) (show w.heap.size ≠ w.heap.size + 1 + 1 by omega)).setne (i := 1) (x := r) (show w.heap.size ≠ w.heap.size + 1 + 1 by omega))
  have LR := hid ((LR.out.setne (i := 0) (x := .bool s) (show w.heap.size + 1 ≠ w.heap.size + 1 + 1 by omega)).setne (i := 1) (x := r) (show w.heap.size + 1 ≠ w.heap.size + 1 + 1 by omega))
  have LO := hid (show LocA 33 _ (w.heap.size + 1 + 1) #[.bool s, r, .slice none 0 0] from (LO.out.set (i := 0) (x := .bool s)).set (i := 1) (x := r))
  obtain ⟨a1, c1, rfl, -⟩ := Ints_form i1
  clear i1 b1 n1 n1'
  have q0 := LP.out.c 2 rfl
  go_wp2_with fail
  generalize (w1.setCell ⟨w.heap.size + 1 + 1, 0, none⟩ (.bool s)).setCell ⟨w.heap.size + 1 + 1, 1, none⟩ (.slice a1 A.length c1) = W2 at B LP LR LO I1 hz q0 ⊢
  clear p0 p1
  (with_reducible refine (K2.out _ (H.out.y.old B.out)).mono ?_)
  clear q0 f0 f1
  rintro e w2 ⟨r2, rfl, i2, b2⟩
  have hs3 := b2.size
  have hsB := B.out.size
  have LR := hid (LR.out.old b2)
  have LO := hid (LO.out.old b2)
  have I1 := hid (Ints_old I1.out b2)
  have B := hid (B.out.trans (b2.mono B.out.size))
  have ND := hid (show ∀ k, (Value.slice a1 A.length c1).ownBlock = some k → r2.ownBlock ≠ some k from fun k hk hj => by have := BL.out k hk; have := (Ints_lt i2 k hj).1; omega)
  have n2 := LO.out.ne (by decide) i2
  have n3 := LO.out.ne (by decide) I1.out
  have J1 := hid (Ints_set (i := 2) (u := r2) I1.out n3)
  have J2 := hid (Ints_set (i := 2) (u := r2) i2 n2)
  have g0 := LO.out.c 0 rfl
  have g1 := LO.out.c 1 rfl
  have g2 := LO.out.f 2
  have g3 := LO.out.c 2 rfl
  have B := hid (B.out.setCell (by show w.heap.size ≤ w.heap.size + 1 + 1; omega) r2 (p := ⟨w.heap.size + 1 + 1, 2, none⟩))
  have f0 := LR.out.f 0
  have f1 := LR.out.f 1
  have f2 := LR.out.f 2
  have p0 := LR.out.c 0 rfl
  have p1 := LR.out.c 1 rfl
  have p2 := LR.out.c 2 rfl
  have LR := hid (LR.out.setne (N := w.heap.size + 1 + 1) (i := 2) (x := r2) (show w.heap.size + 1 ≠ w.heap.size + 1 + 1 by omega))
  have R := hid (OwnRR_L (OwnL_out (s := s) (N := w.heap.size + 1) (w := w) (by omega) LR.out (by decide) (by omega) (by omega) J1.out J2.out ND.out B.out))
  obtain ⟨a2, c2, rfl, -⟩ := Ints_form i2
  clear i2 b2 n2 n3 LR LO
  go_wp2
  exact bodyPost_ret (v := .agg #[.bool s, .slice a1 _ c1, .slice a2 _ c2]) (by simp [results, Try.results42, go_sem, p0, p1, p2]) rfl R.out
end Go.Proofs.Yteanocjkdehhgaa
