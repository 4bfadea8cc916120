/- Merged: Rh Ri. -/
import Derived.Test.YtookglpeieennabGreatDoorFra
import Derived.Test.YtookglpeieennabGreatDoorSra
/- The laws' helpers on fractions. -/
namespace Go.Proofs.YtookglpeieennabGreatDoor
open Go.RowKit
open Go.Lib (hid)
set_option linter.unusedVariables false

theorem Obj_at {w' : World} {v : Value} {L : List Int} {B lo : Nat} (h : Ints w' B v L) (hlo : lo ≤ B) : Obj w' v L lo w'.heap.size := ⟨Ints_base h hlo, fun k hk => (Ints_lt h k hk).2⟩
theorem Obj_drew1 {w : World} {v : Value} {L : List Int} {lo hi : Nat} (h : Obj w v L lo hi) : Obj w.drew v L lo hi := ⟨h.ints, h.high⟩
theorem Obj.one {w : World} {v : Value} {L : List Int} {lo hi : Nat} (h : Obj w v L lo hi) : ∃ a b, Obj w v L a b ∧ lo ≤ a ∧ (b = 0 ∨ b ≤ hi) ∧ b ≤ w.heap.size ∧ ((v.ownBlock = none ∧ b = 0) ∨ (v.ownBlock = some a ∧ b = a + 1)) := by
  cases hv : v.ownBlock with
  | none => exact ⟨lo, 0, ⟨h.ints, fun k hk => by rw [hv] at hk; cases hk⟩, Nat.le_refl _, .inl rfl, Nat.zero_le _, .inl ⟨rfl, rfl⟩⟩
  | some k =>
    have hk := Ints_lt h.ints k hv
    have hh := h.high k hv
    exact ⟨k, k + 1, ⟨Ints_rebase h.ints fun j hj => by rw [hv] at hj; cases hj; exact Nat.le_refl _, fun j hj => by rw [hv] at hj; cases hj; omega⟩, hk.1, .inr (by omega), by omega, .inr ⟨rfl, rfl⟩⟩
/-- A fraction's struct of the law's own: its two slices lie between lo and hi, apart from each other. -/
structure ROb (w : World) (v u : Value) (A D : List Int) (lo hi : Nat) : Prop where
  a : Obj w v A lo hi
  d : Obj w u D lo hi
  ne : ∀ k, v.ownBlock = some k → u.ownBlock ≠ some k
theorem ROb.old {w w' : World} {v u : Value} {A D : List Int} {lo hi : Nat} (h : ROb w v u A D lo hi) (hb : Below w.heap.size w w') : ROb w' v u A D lo hi := ⟨h.a.old hb, h.d.old hb, h.ne⟩
theorem ROb.at {w : World} {v u : Value} {A D : List Int} {l lo hi : Nat} (h : ROb w v u A D l hi) (hl : lo ≤ l) : ROb w v u A D lo hi := ⟨⟨Ints_base h.a.ints hl, h.a.high⟩, ⟨Ints_base h.d.ints hl, h.d.high⟩, h.ne⟩
theorem ROb.form {w : World} {v u : Value} {A D : List Int} {lo hi : Nat} (h : ROb w v u A D lo hi) : ∃ (a : Option Addr) (c : Nat) (b : Option Addr) (d : Nat), v = .slice a A.length c ∧ u = .slice b D.length d := by
  obtain ⟨a1, c1, rfl, -⟩ := Ints_form h.a.ints
  obtain ⟨a2, c2, rfl, -⟩ := Ints_form h.d.ints
  exact ⟨_, _, _, _, rfl, rfl⟩
theorem ROb.rl {w : World} {v u : Value} {A D : List Int} {lo hi : Nat} (h : ROb w v u A D lo hi) (la : A.length ≤ 1048576) (ld : D.length ≤ 1048576) : RL w v u A D := ⟨⟨_, h.a.ints⟩, ⟨_, h.d.ints⟩, la, ld⟩
theorem ROb.onlyG {w w' : World} {v u : Value} {A D : List Int} {lo hi a b : Nat} (h : ROb w v u A D lo hi) (hb : Only (InG a b w.heap.size) w w') (hd : hi ≤ a ∨ b ≤ lo) : ROb w' v u A D lo hi := ⟨h.a.onlyG hb hd, h.d.onlyG hb hd, h.ne⟩
theorem ROb.split {w : World} {v u : Value} {A D : List Int} {lo hi : Nat} (h : ROb w v u A D lo hi) :
    ∃ a b c d, Obj w v A a b ∧ Obj w u D c d ∧ lo ≤ a ∧ lo ≤ c ∧ (b = 0 ∨ b ≤ hi) ∧ (d = 0 ∨ d ≤ hi) ∧ b ≤ w.heap.size ∧ d ≤ w.heap.size ∧ (b ≤ c ∨ d ≤ a) := by
  obtain ⟨a, b, o1, l1, u1, s1, k1⟩ := h.a.one
  obtain ⟨c, d, o2, l2, u2, s2, k2⟩ := h.d.one
  refine ⟨a, b, c, d, o1, o2, l1, l2, u1, u2, s1, s2, ?_⟩
  rcases k1 with ⟨-, k1⟩ | ⟨e1, k1⟩
  · omega
  · rcases k2 with ⟨-, k2⟩ | ⟨e2, k2⟩
    · omega
    · have : a ≠ c := by
        intro e
        subst e
        exact h.ne a e1 e2
      omega
/-- A fraction's struct that came in. -/
structure CameR (w : World) (h : Nat) (a : Option Addr) (n : Nat) (A : List Int) (b : Option Addr) (m : Nat) (D : List Int) : Prop where
  x : Came w h a n A
  y : Came w h b m D
theorem CameR.old {w w' : World} {h n m : Nat} {a b : Option Addr} {A D : List Int} (c : CameR w h a n A b m D) (hb : Below w.heap.size w w') : CameR w' h a n A b m D := ⟨c.x.old hb, c.y.old hb⟩
theorem CameR.onlyG {w w' : World} {h n m lo hi : Nat} {a b : Option Addr} {A D : List Int} (c : CameR w h a n A b m D) (hb : Only (InG lo hi w.heap.size) w w') (hlo : h ≤ lo) : CameR w' h a n A b m D := ⟨c.x.onlyG hb hlo, c.y.onlyG hb hlo⟩
theorem LocA.only {S : Nat → Prop} {T : TypeId} {w w' : World} {b : Nat} {cs : Array Value} (h : LocA T w b cs) (hb : Only S w w') (hS : ¬ S b) : LocA T w' b cs := (hb.block _ hS).trans h
theorem LocA.onlyG {T : TypeId} {w w' : World} {b lo hi : Nat} {cs : Array Value} (h : LocA T w b cs) (hb : Only (InG lo hi w.heap.size) w w') (hd : b < lo ∨ hi ≤ b) : LocA T w' b cs :=
  h.only hb fun hs => by have := InG_cases hs; have := h.lt; omega
/-- A fraction's struct of the call's own, in the laws' words. -/
def OwnRR (s : Bool) (A D : List Int) (w : World) (e : Ending) (w' : World) : Prop := ∃ v u, e = .returned (.agg #[.bool s, v, u]) ∧ ROb w' v u A D w.heap.size w'.heap.size ∧ Below w.heap.size w w'
theorem OwnRR_of {o : Option Rat} {w w' : World} {e : Ending} (h : OwnR o w e w') : OwnRR (gzs (qn o)) (gzl (qn o)) (gzl (qd o)) w e w' := by
  obtain ⟨v, u, he, h1, h2, hd, hb⟩ := h
  exact ⟨v, u, he, ⟨Obj_at h1 (Nat.le_refl _), Obj_at h2 (Nat.le_refl _), hd⟩, hb⟩
theorem eqRat_obj (s : Bool) (v1 u1 v2 u2 : Value) (A D : List Int) (l1 h1 l2 h2 : Nat) (hA : A.length ≤ 1073741824) (hD : D.length ≤ 1073741824) (w : World) (o1 : ROb w v1 u1 A D l1 h1) (o2 : ROb w v2 u2 A D l2 h2) :
    Calls Tryz.prog 23 #[.agg #[.bool s, v1, u1], .agg #[.bool s, v2, u2]] w (RetB (.bool true) w) := by
  have B := hid (below_new2 (w := w) (o := .cells #[.bool s, v1, u1] 29) (o' := .cells #[.bool s, v2, u2] 29))
  have L1 := hid ((LocA.at (T := 29) (w := w) (b := w.heap.size) (cs := #[.bool s, v1, u1]) rfl).new1 (o := .cells #[.bool s, v2, u2] 29))
  have L2 := hid (LocA.at (T := 29) (w := w.alloc (.cells #[.bool s, v1, u1] 29)) (b := w.heap.size + 1) (cs := #[.bool s, v2, u2]) (by simp))
  have O1 := hid (o1.old B.out)
  have O2 := hid (o2.old B.out)
  have K := hid (fun (W : World) (g1 : Obj W v1 A l1 h1) (g2 : Obj W v2 A l2 h2) => eqBigInt_obj s v1 v2 A l1 h1 l2 h2 hA W g1 g2)
  have K2 := hid (fun (W : World) (g1 : Obj W u1 D l1 h1) (g2 : Obj W u2 D l2 h2) => eqIntS_obj u1 u2 D l1 h1 l2 h2 hD W g1 g2)
  obtain ⟨a1, c1, b1, d1, rfl, rfl⟩ := o1.form
  obtain ⟨a2, c2, b2, d2, rfl, rfl⟩ := o2.form
  clear o1 o2
  generalize hW : (w.alloc (.cells #[.bool s, .slice a1 A.length c1, .slice b1 D.length d1] 29)).alloc (.cells #[.bool s, .slice a2 A.length c2, .slice b2 D.length d2] 29) = W0 at B L1 L2 O1 O2
  have HW := hid hW
  clear hW
  go_enter Tryz.func23, Tryz.ntmps23
  go_wp2_with fail
  rw [HW.out]
  (with_reducible refine (K.out _ O1.out.a O2.out.a).mono ?_)
  rintro e w1 ⟨rfl, g1⟩
  have O1 := hid (O1.out.old g1)
  have O2 := hid (O2.out.old g1)
  have L1 := hid (L1.out.old g1)
  have L2 := hid (L2.out.old g1)
  have B := hid (B.out.trans (g1.mono B.out.size))
  have q0 := L1.out.c 2 rfl
  have q1 := L2.out.c 2 rfl
  clear g1
  go_wp2_with fail
  (with_reducible refine (K2.out _ O1.out.d O2.out.d).mono ?_)
  rintro e w2 ⟨rfl, g1⟩
  have B := hid (B.out.trans (g1.mono B.out.size))
  clear g1 q0 q1
  go_wp2
  go_ret
  exact ⟨rfl, B.out⟩
theorem Obj.wide {w : World} {v : Value} {L : List Int} {lo hi a b : Nat} (h : Obj w v L a b) (h1 : lo ≤ a) (h2 : b = 0 ∨ b ≤ hi) : Obj w v L lo hi := ⟨Ints_base h.ints h1, fun k hk => by have := h.high k hk; omega⟩
/-- What a marking call leaves of a fraction's struct. -/
def MarkRR (s : Bool) (v u : Value) (A D : List Int) (m : Int) (lo hi : Nat) (w : World) (e : Ending) (w' : World) : Prop := e = .returned (.int .i64 (m + (A.length : Int) + (D.length : Int))) ∧ ROb w' v u (marks A.length m) (marks D.length (m + (A.length : Int))) lo hi ∧ Only (InG lo hi w.heap.size) w w'
theorem InG_sub {lo hi a b h h' k : Nat} (hk : InG a b h' k) (h1 : lo ≤ a) (h2 : b = 0 ∨ b ≤ hi) (h3 : h ≤ h') : InG lo hi h k := by
  rcases InG_cases hk with h | h
  · exact .inl ⟨by omega, by omega⟩
  · exact .inr (by omega)
theorem markRat_obj (s : Bool) (v u : Value) (A D : List Int) (m : Int) (lo hi : Nat) (hA : A.length ≤ 2097152) (hD : D.length ≤ 2097152) (m0 : 0 ≤ m) (m1 : m ≤ 4194304) (w : World) (h1 : ROb w v u A D lo hi) :
    Calls Tryz.prog 24 #[.agg #[.bool s, v, u], .int .i64 m] w (MarkRR s v u A D m lo hi w) := by
  obtain ⟨x1, y1, x2, y2, o1, o2, l1, l2, k1, k2, z1, z2, hd⟩ := h1.split
  have hne := hid h1.ne
  have B := hid (show Only (InG lo hi w.heap.size) w (w.alloc (.cells #[.bool s, v, u] 29)) from (Only.refl _ w).alloc (.inr (Nat.le_refl _)) (.cells #[.bool s, v, u] 29))
  have LX := hid (LocA.new (w := w) (T := 29) (cs := #[.bool s, v, u]))
  have O1 := hid (o1.old (below_new' (o := .cells #[.bool s, v, u] 29)))
  have O2 := hid (o2.old (below_new' (o := .cells #[.bool s, v, u] 29)))
  have K := hid (fun (W : World) (g1 : Obj W v A x1 y1) => markBigInt_obj s v A m x1 y1 (by omega) m0 (by omega) W g1)
  have K2 := hid (fun (W : World) (g1 : Obj W u D x2 y2) => markIntS_obj u D (m + (A.length : Int)) x2 y2 (by omega) (by omega) (by omega) W g1)
  have HW := hid (show (w.alloc (.cells #[.bool s, v, u] 29)).heap.size = w.heap.size + 1 by simp)
  obtain ⟨a1, c1, b1, d1, rfl, rfl⟩ := h1.form
  clear h1 o1 o2
  go_enter Tryz.func24, Tryz.ntmps24
  go_wp2_with fail
  generalize w.alloc (.cells #[.bool s, .slice a1 A.length c1, .slice b1 D.length d1] 29) = W at B LX O1 O2 HW ⊢
  (with_reducible refine (K.out _ O1.out).mono ?_)
  rintro e w1 ⟨rfl, p1, g1⟩
  have O1 := hid p1
  have O2 := hid (O2.out.onlyG g1 (by omega))
  have hw := HW.out
  have LX := hid (LX.out.onlyG g1 (.inr z1))
  have B := hid (B.out.trans (g1.mono fun k hk => InG_sub hk l1 k1 (by omega)))
  have q0 := LX.out.c 2 rfl
  clear p1 g1
  go_wp2_with fail
  (with_reducible refine (K2.out _ O2.out).mono ?_)
  rintro e w2 ⟨rfl, p1, g1⟩
  have O1 := hid (O1.out.only g1 (by omega))
  have B := hid (B.out.trans (g1.mono fun k hk => .inl ⟨by have := hk.1; omega, by have := hk.2; omega⟩))
  have R := hid (show ROb w2 (.slice a1 A.length c1) (.slice b1 D.length d1) (marks A.length m) (marks D.length (m + (A.length : Int))) lo hi from ⟨O1.out.wide l1 k1, p1.wide l2 k2, hne.out⟩)
  clear p1 g1 q0
  go_wp2
  go_ret
  exact ⟨rfl, R.out, B.out⟩
theorem heldRat_obj (s : Bool) (v u : Value) (n n' : Nat) (m : Int) (lo hi : Nat) (hn : n ≤ 2097152) (hn' : n' ≤ 2097152) (m0 : 0 ≤ m) (m1 : m ≤ 4194304) (w : World) (h1 : ROb w v u (marks n m) (marks n' (m + (n : Int))) lo hi) :
    Calls Tryz.prog 25 #[.agg #[.bool s, v, u], .int .i64 m] w (RetB (.int .i64 (m + (n : Int) + (n' : Int))) w) := by
  have B := hid (below_new' (w := w) (o := .cells #[.bool s, v, u] 29))
  have LX := hid (LocA.new (w := w) (T := 29) (cs := #[.bool s, v, u]))
  have O := hid (h1.old B.out)
  have K := hid (fun (W : World) (g1 : Obj W v (marks n m) lo hi) => heldBigInt_obj s v n m lo hi (by omega) m0 (by omega) W g1)
  have K2 := hid (fun (W : World) (g1 : Obj W u (marks n' (m + (n : Int))) lo hi) => heldIntS_obj u n' (m + (n : Int)) lo hi (by omega) (by omega) (by omega) W g1)
  have e1 : ¬ m + (n : Int) < 0 := by omega
  have e2 : ¬ m + (n : Int) + (n' : Int) < 0 := by omega
  obtain ⟨a1, c1, b1, d1, rfl, rfl⟩ := h1.form
  rw [marks_len, marks_len] at *
  clear h1
  go_enter Tryz.func25, Tryz.ntmps25
  go_wp2_with fail
  generalize w.alloc (.cells #[.bool s, .slice a1 n c1, .slice b1 n' d1] 29) = W at B LX O ⊢
  (with_reducible refine (K.out _ O.out.a).mono ?_)
  rintro e w1 ⟨rfl, g1⟩
  have O := hid (O.out.old g1)
  have LX := hid (LX.out.old g1)
  have B := hid (B.out.trans (g1.mono B.out.size))
  have q0 := LX.out.c 2 rfl
  clear g1
  go_wp2_with fail
  (with_reducible refine (K2.out _ O.out.d).mono ?_)
  rintro e w2 ⟨rfl, g1⟩
  have B := hid (B.out.trans (g1.mono B.out.size))
  clear g1 q0
  go_wp2
  go_ret
  exact ⟨rfl, B.out⟩
end Go.Proofs.YtookglpeieennabGreatDoor

/- What the laws on fractions hold: structs of their own, structs laid into variables. -/
namespace Go.Proofs.YtookglpeieennabGreatDoor
open Go.RowKit
open Go.Lib (hid)
set_option linter.unusedVariables false

/-- As ROb, the two slices perhaps not apart. -/
structure ROw (w : World) (v u : Value) (A D : List Int) (lo hi : Nat) : Prop where
  a : Obj w v A lo hi
  d : Obj w u D lo hi
theorem ROb.w {w : World} {v u : Value} {A D : List Int} {lo hi : Nat} (h : ROb w v u A D lo hi) : ROw w v u A D lo hi := ⟨h.a, h.d⟩
theorem ROw.w {w : World} {v u : Value} {A D : List Int} {lo hi : Nat} (h : ROw w v u A D lo hi) : ROw w v u A D lo hi := h
theorem ROw.old {w w' : World} {v u : Value} {A D : List Int} {lo hi : Nat} (h : ROw w v u A D lo hi) (hb : Below w.heap.size w w') : ROw w' v u A D lo hi := ⟨h.a.old hb, h.d.old hb⟩
theorem ROw.at {w : World} {v u : Value} {A D : List Int} {l lo hi : Nat} (h : ROw w v u A D l hi) (hl : lo ≤ l) : ROw w v u A D lo hi := ⟨⟨Ints_base h.a.ints hl, h.a.high⟩, ⟨Ints_base h.d.ints hl, h.d.high⟩⟩
theorem ROw.form {w : World} {v u : Value} {A D : List Int} {lo hi : Nat} (h : ROw w v u A D lo hi) : ∃ (a : Option Addr) (c : Nat) (b : Option Addr) (d : Nat), v = .slice a A.length c ∧ u = .slice b D.length d := by
  obtain ⟨a1, c1, rfl, -⟩ := Ints_form h.a.ints
  obtain ⟨a2, c2, rfl, -⟩ := Ints_form h.d.ints
  exact ⟨_, _, _, _, rfl, rfl⟩
theorem ROw.onlyG {w w' : World} {v u : Value} {A D : List Int} {lo hi a b : Nat} (h : ROw w v u A D lo hi) (hb : Only (InG a b w.heap.size) w w') (hd : hi ≤ a ∨ b ≤ lo) : ROw w' v u A D lo hi := ⟨h.a.onlyG hb hd, h.d.onlyG hb hd⟩
def OwnRS (s : Bool) (A D : List Int) (w : World) (e : Ending) (w' : World) : Prop := ∃ v u, e = .returned (.agg #[.bool s, v, u]) ∧ ROw w' v u A D w.heap.size w'.heap.size ∧ Below w.heap.size w w'
theorem OwnRS_of {o : Option Rat} {w w' : World} {e : Ending} (h : OwnS o w e w') : OwnRS (gzs (qn o)) (gzl (qn o)) (gzl (qd o)) w e w' := by
  obtain ⟨v, u, he, h1, h2, hb⟩ := h
  exact ⟨v, u, he, ⟨Obj_at h1 (Nat.le_refl _), Obj_at h2 (Nat.le_refl _)⟩, hb⟩
theorem cell_set3x {w : World} {b N i : Nat} {u v x : Value} (h : b ≠ N) : (((w.setCell ⟨N, 0, none⟩ u).setCell ⟨N, 1, none⟩ v).setCell ⟨N, 2, none⟩ x).cell? ⟨b, i, none⟩ = w.cell? ⟨b, i, none⟩ := cell_set3 h
theorem eqRat_w (s : Bool) (v1 u1 v2 u2 : Value) (A D : List Int) (l1 h1 l2 h2 : Nat) (hA : A.length ≤ 1073741824) (hD : D.length ≤ 1073741824) (w : World) (o1 : ROw w v1 u1 A D l1 h1) (o2 : ROw w v2 u2 A D l2 h2) :
    Calls Tryz.prog 23 #[.agg #[.bool s, v1, u1], .agg #[.bool s, v2, u2]] w (RetB (.bool true) w) := by
  have B := hid (below_new2 (w := w) (o := .cells #[.bool s, v1, u1] 29) (o' := .cells #[.bool s, v2, u2] 29))
  have L1 := hid ((LocA.at (T := 29) (w := w) (b := w.heap.size) (cs := #[.bool s, v1, u1]) rfl).new1 (o := .cells #[.bool s, v2, u2] 29))
  have L2 := hid (LocA.at (T := 29) (w := w.alloc (.cells #[.bool s, v1, u1] 29)) (b := w.heap.size + 1) (cs := #[.bool s, v2, u2]) (by simp))
  have O1 := hid (o1.old B.out)
  have O2 := hid (o2.old B.out)
  have K := hid (fun (W : World) (g1 : Obj W v1 A l1 h1) (g2 : Obj W v2 A l2 h2) => eqBigInt_obj s v1 v2 A l1 h1 l2 h2 hA W g1 g2)
  have K2 := hid (fun (W : World) (g1 : Obj W u1 D l1 h1) (g2 : Obj W u2 D l2 h2) => eqIntS_obj u1 u2 D l1 h1 l2 h2 hD W g1 g2)
  obtain ⟨a1, c1, b1, d1, rfl, rfl⟩ := o1.form
  obtain ⟨a2, c2, b2, d2, rfl, rfl⟩ := o2.form
  clear o1 o2
  generalize hW : (w.alloc (.cells #[.bool s, .slice a1 A.length c1, .slice b1 D.length d1] 29)).alloc (.cells #[.bool s, .slice a2 A.length c2, .slice b2 D.length d2] 29) = W0 at B L1 L2 O1 O2
  have HW := hid hW
  clear hW
  go_enter Tryz.func23, Tryz.ntmps23
  go_wp2_with fail
  rw [HW.out]
  (with_reducible refine (K.out _ O1.out.a O2.out.a).mono ?_)
  rintro e w1 ⟨rfl, g1⟩
  have O1 := hid (O1.out.old g1)
  have O2 := hid (O2.out.old g1)
  have L1 := hid (L1.out.old g1)
  have L2 := hid (L2.out.old g1)
  have B := hid (B.out.trans (g1.mono B.out.size))
  have q0 := L1.out.c 2 rfl
  have q1 := L2.out.c 2 rfl
  clear g1
  go_wp2_with fail
  (with_reducible refine (K2.out _ O1.out.d O2.out.d).mono ?_)
  rintro e w2 ⟨rfl, g1⟩
  have B := hid (B.out.trans (g1.mono B.out.size))
  clear g1 q0 q1
  go_wp2
  go_ret
  exact ⟨rfl, B.out⟩
/-- A fraction's struct of the law's own has been laid into a variable of its own, at block g. -/
def LaidRR (T : TypeId) (W : World) (rs : Bool) (R1 R2 : List Int) (sl : Value) (wx : World) : Prop := ∃ g a c b d lo hi, sl = .pointer (some ⟨g, 0, none⟩) ∧ LocA T wx g #[.bool rs, .slice a R1.length c, .slice b R2.length d] ∧ ROb wx (.slice a R1.length c) (.slice b R2.length d) R1 R2 lo hi ∧ W.heap.size ≤ lo ∧ W.heap.size ≤ g ∧ (g < lo ∨ hi ≤ g) ∧ g < wx.heap.size ∧ hi ≤ wx.heap.size ∧ Below W.heap.size W wx
theorem LaidRR_a {T : TypeId} {W wf : World} {rs : Bool} {R1 R2 : List Int} {a b : Option Addr} {c d B : Nat} (hi : ROb wf (.slice a R1.length c) (.slice b R2.length d) R1 R2 B wf.heap.size) (hB : W.heap.size ≤ B) (hb : Below W.heap.size W wf) :
    LaidRR T W rs R1 R2 (.pointer (some ⟨wf.heap.size, 0, none⟩)) (wf.alloc (.cells #[.bool rs, .slice a R1.length c, .slice b R2.length d] T)) :=
  ⟨wf.heap.size, a, c, b, d, W.heap.size, wf.heap.size, rfl, LocA.new, (hi.old below_new').at hB, Nat.le_refl _, hb.size, .inr (Nat.le_refl _), by simp, by simp, hb.alloc hb.size _⟩
theorem LaidRR_b {T : TypeId} {W wf : World} {rs : Bool} {R1 R2 : List Int} {a b : Option Addr} {c d B N : Nat} (hT : T ≠ 3) (hL : LocA T wf N #[.bool false, .slice none 0 0, .slice none 0 0]) (hN : W.heap.size ≤ N) (hNB : N < B) (hi : ROb wf (.slice a R1.length c) (.slice b R2.length d) R1 R2 B wf.heap.size) (hb : Below W.heap.size W wf) :
    LaidRR T W rs R1 R2 (.pointer (some ⟨N, 0, none⟩)) (((wf.setCell ⟨N, 0, none⟩ (.bool rs)).setCell ⟨N, 1, none⟩ (.slice a R1.length c)).setCell ⟨N, 2, none⟩ (.slice b R2.length d)) := by
  have n1 := hL.ne hT hi.a.ints
  have n2 := hL.ne hT hi.d.ints
  have hz : (((wf.setCell ⟨N, 0, none⟩ (.bool rs)).setCell ⟨N, 1, none⟩ (.slice a R1.length c)).setCell ⟨N, 2, none⟩ (.slice b R2.length d)).heap.size = wf.heap.size := by simp [World.setCell]
  have hl := hL.lt
  have o1 : Obj (((wf.setCell ⟨N, 0, none⟩ (.bool rs)).setCell ⟨N, 1, none⟩ (.slice a R1.length c)).setCell ⟨N, 2, none⟩ (.slice b R2.length d)) (.slice a R1.length c) R1 B wf.heap.size := ⟨Ints_set (Ints_set (Ints_set hi.a.ints n1) n1) n1, hi.a.high⟩
  have o2 : Obj (((wf.setCell ⟨N, 0, none⟩ (.bool rs)).setCell ⟨N, 1, none⟩ (.slice a R1.length c)).setCell ⟨N, 2, none⟩ (.slice b R2.length d)) (.slice b R2.length d) R2 B wf.heap.size := ⟨Ints_set (Ints_set (Ints_set hi.d.ints n2) n2) n2, hi.d.high⟩
  refine ⟨N, a, c, b, d, B, wf.heap.size, rfl, ?_, ⟨o1, o2, hi.ne⟩, by omega, hN, .inl hNB, by rw [hz]; exact hl, by rw [hz]; exact Nat.le_refl _, ((hb.setCell hN _).setCell hN _).setCell hN _⟩
  unfold LocA at hL ⊢
  simp [World.setCell, Array.getElem?_modify, hL]
/-- A fraction's struct of the law's own has been laid into a variable of its own, at block g. -/
def LaidRW (T : TypeId) (W : World) (rs : Bool) (R1 R2 : List Int) (sl : Value) (wx : World) : Prop := ∃ g a c b d lo hi, sl = .pointer (some ⟨g, 0, none⟩) ∧ LocA T wx g #[.bool rs, .slice a R1.length c, .slice b R2.length d] ∧ ROw wx (.slice a R1.length c) (.slice b R2.length d) R1 R2 lo hi ∧ W.heap.size ≤ lo ∧ W.heap.size ≤ g ∧ (g < lo ∨ hi ≤ g) ∧ g < wx.heap.size ∧ hi ≤ wx.heap.size ∧ Below W.heap.size W wx
theorem LaidRW_a {T : TypeId} {W wf : World} {rs : Bool} {R1 R2 : List Int} {a b : Option Addr} {c d B : Nat} (hi : ROw wf (.slice a R1.length c) (.slice b R2.length d) R1 R2 B wf.heap.size) (hB : W.heap.size ≤ B) (hb : Below W.heap.size W wf) :
    LaidRW T W rs R1 R2 (.pointer (some ⟨wf.heap.size, 0, none⟩)) (wf.alloc (.cells #[.bool rs, .slice a R1.length c, .slice b R2.length d] T)) :=
  ⟨wf.heap.size, a, c, b, d, W.heap.size, wf.heap.size, rfl, LocA.new, (hi.old below_new').at hB, Nat.le_refl _, hb.size, .inr (Nat.le_refl _), by simp, by simp, hb.alloc hb.size _⟩
theorem LaidRW_b {T : TypeId} {W wf : World} {rs : Bool} {R1 R2 : List Int} {a b : Option Addr} {c d B N : Nat} (hT : T ≠ 3) (hL : LocA T wf N #[.bool false, .slice none 0 0, .slice none 0 0]) (hN : W.heap.size ≤ N) (hNB : N < B) (hi : ROw wf (.slice a R1.length c) (.slice b R2.length d) R1 R2 B wf.heap.size) (hb : Below W.heap.size W wf) :
    LaidRW T W rs R1 R2 (.pointer (some ⟨N, 0, none⟩)) (((wf.setCell ⟨N, 0, none⟩ (.bool rs)).setCell ⟨N, 1, none⟩ (.slice a R1.length c)).setCell ⟨N, 2, none⟩ (.slice b R2.length d)) := by
  have n1 := hL.ne hT hi.a.ints
  have n2 := hL.ne hT hi.d.ints
  have hz : (((wf.setCell ⟨N, 0, none⟩ (.bool rs)).setCell ⟨N, 1, none⟩ (.slice a R1.length c)).setCell ⟨N, 2, none⟩ (.slice b R2.length d)).heap.size = wf.heap.size := by simp [World.setCell]
  have hl := hL.lt
  have o1 : Obj (((wf.setCell ⟨N, 0, none⟩ (.bool rs)).setCell ⟨N, 1, none⟩ (.slice a R1.length c)).setCell ⟨N, 2, none⟩ (.slice b R2.length d)) (.slice a R1.length c) R1 B wf.heap.size := ⟨Ints_set (Ints_set (Ints_set hi.a.ints n1) n1) n1, hi.a.high⟩
  have o2 : Obj (((wf.setCell ⟨N, 0, none⟩ (.bool rs)).setCell ⟨N, 1, none⟩ (.slice a R1.length c)).setCell ⟨N, 2, none⟩ (.slice b R2.length d)) (.slice b R2.length d) R2 B wf.heap.size := ⟨Ints_set (Ints_set (Ints_set hi.d.ints n2) n2) n2, hi.d.high⟩
  refine ⟨N, a, c, b, d, B, wf.heap.size, rfl, ?_, ⟨o1, o2⟩, by omega, hN, .inl hNB, by rw [hz]; exact hl, by rw [hz]; exact Nat.le_refl _, ((hb.setCell hN _).setCell hN _).setCell hN _⟩
  unfold LocA at hL ⊢
  simp [World.setCell, Array.getElem?_modify, hL]
def CutV (v : Value) (W : World) (sl : Value) (wx : World) : Prop := sl = v ∧ Below W.heap.size W wx
theorem LocA.set {T : TypeId} {w : World} {b i : Nat} {cs : Array Value} {x : Value} (h : LocA T w b cs) : LocA T (w.setCell ⟨b, i, none⟩ x) b (cs.setIfInBounds i x) := by
  unfold LocA at h ⊢
  simp [World.setCell, Array.getElem?_modify, h]
theorem LocA.setne {T : TypeId} {w : World} {b N i : Nat} {cs : Array Value} {x : Value} (h : LocA T w b cs) (hb : b ≠ N) : LocA T (w.setCell ⟨N, i, none⟩ x) b cs := (set_block w N i b x hb).trans h
theorem OwnRR_L {s : Bool} {A D : List Int} {w w' : World} {e : Ending} (h : OwnL s A D w e w') : OwnRR s A D w e w' := by
  obtain ⟨v, u, he, h1, h2, hd, hb⟩ := h
  exact ⟨v, u, he, ⟨Obj_at h1 (Nat.le_refl _), Obj_at h2 (Nat.le_refl _), hd⟩, hb⟩
theorem size_set (w : World) (p : Addr) (x : Value) : (w.setCell p x).heap.size = w.heap.size := by simp [World.setCell]
end Go.Proofs.YtookglpeieennabGreatDoor
