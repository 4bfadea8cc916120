/- Models' structs: what came in, what is held, the laws' helpers. -/
import Derived.Test.YteanocjkdehhgaaKf
import Derived.Deep.RegionHeld3
namespace Go.Proofs.Yteanocjkdehhgaa
open Go.RowKit
open Go.Lib (hid)
set_option linter.unusedVariables false

/-- A model's struct that is read. -/
structure MdW (w : World) (x y z : Value) (C : List Cq) (K : List Tq) (R : List Wq) : Prop where
  c : CS w x C
  t : ∃ p lo hi, TK p w y K lo hi
  r : RS w z R
/-- A model's struct of a call's own, in the blocks S: its three slices lie apart. -/
structure MdM (w : World) (x y z : Value) (C : List Cq) (K : List Tq) (R : List Wq) (lo : Nat) (S : Nat → Prop) : Prop where
  ex : ∃ S1 S3 l2 h2, CM w x C lo S1 ∧ TK true w y K l2 h2 ∧ RM w z R lo S3 ∧ (∀ k, S1 k → S k) ∧ (∀ k, S3 k → S k) ∧ (∀ k, l2 ≤ k → k < h2 → S k) ∧ (∀ k, S1 k → ¬ S3 k) ∧ (∀ k, l2 ≤ k → k < h2 → ¬ S1 k) ∧ (∀ k, l2 ≤ k → k < h2 → ¬ S3 k)
theorem MdW.old {w w' : World} {x y z : Value} {C : List Cq} {K : List Tq} {R : List Wq} (h : MdW w x y z C K R) (hb : Below w.heap.size w w') : MdW w' x y z C K R := by
  obtain ⟨c, ⟨p, l, h, t⟩, r⟩ := h
  exact ⟨c.old hb, ⟨p, l, h, t.old hb⟩, r.old hb⟩
theorem MdW.form {w : World} {x y z : Value} {C : List Cq} {K : List Tq} {R : List Wq} (h : MdW w x y z C K R) : ∃ (a : Option Addr) (c : Nat) (b : Option Addr) (d : Nat) (e : Option Addr) (f : Nat), x = .slice a C.length c ∧ y = .slice b K.length d ∧ z = .slice e R.length f := by
  obtain ⟨c, ⟨p, l, h, t⟩, r⟩ := h
  obtain ⟨a1, c1, rfl⟩ := c.form
  obtain ⟨a2, c2, rfl⟩ := t.form
  obtain ⟨a3, c3, rfl⟩ := r.form
  exact ⟨_, _, _, _, _, _, rfl, rfl, rfl⟩
theorem MdM.old {w w' : World} {x y z : Value} {C : List Cq} {K : List Tq} {R : List Wq} {lo : Nat} {S : Nat → Prop} (h : MdM w x y z C K R lo S) (hb : Below w.heap.size w w') : MdM w' x y z C K R lo S := by
  obtain ⟨S1, S3, l2, h2, c, t, r, hs⟩ := h.ex
  exact ⟨S1, S3, l2, h2, c.old hb, t.old hb, r.old hb, hs⟩
theorem MdM.only {w w' : World} {x y z : Value} {C : List Cq} {K : List Tq} {R : List Wq} {lo : Nat} {S S' : Nat → Prop} (h : MdM w x y z C K R lo S) (hb : Only S' w w') (hd : ∀ k, S k → ¬ S' k) : MdM w' x y z C K R lo S := by
  obtain ⟨S1, S3, l2, h2, c, t, r, i1, i2, i3, hs⟩ := h.ex
  exact ⟨S1, S3, l2, h2, c.only hb fun k hk => hd k (i1 k hk), t.onlyS hb fun k k1 k2 => hd k (i3 k k1 k2), r.only hb fun k hk => hd k (i2 k hk), i1, i2, i3, hs⟩
theorem MdM.mono {w : World} {x y z : Value} {C : List Cq} {K : List Tq} {R : List Wq} {lo : Nat} {S S' : Nat → Prop} (h : MdM w x y z C K R lo S) (hs : ∀ k, S k → S' k) : MdM w x y z C K R lo S' := by
  obtain ⟨S1, S3, l2, h2, c, t, r, i1, i2, i3, hd⟩ := h.ex
  exact ⟨S1, S3, l2, h2, c, t, r, fun k hk => hs k (i1 k hk), fun k hk => hs k (i2 k hk), fun k a b => hs k (i3 k a b), hd⟩
theorem MdM.w {w : World} {x y z : Value} {C : List Cq} {K : List Tq} {R : List Wq} {lo : Nat} {S : Nat → Prop} (h : MdM w x y z C K R lo S) : MdW w x y z C K R := by
  obtain ⟨S1, S3, l2, h2, c, t, r, -⟩ := h.ex
  exact ⟨c.r, ⟨_, _, _, t⟩, r.r⟩
theorem MdW.w {w : World} {x y z : Value} {C : List Cq} {K : List Tq} {R : List Wq} (h : MdW w x y z C K R) : MdW w x y z C K R := h
theorem MdM.form {w : World} {x y z : Value} {C : List Cq} {K : List Tq} {R : List Wq} {lo : Nat} {S : Nat → Prop} (h : MdM w x y z C K R lo S) : ∃ (a : Option Addr) (c : Nat) (b : Option Addr) (d : Nat) (e : Option Addr) (f : Nat), x = .slice a C.length c ∧ y = .slice b K.length d ∧ z = .slice e R.length f := h.w.form
/-- The same between two heights. -/
def MdO (w : World) (x y z : Value) (C : List Cq) (K : List Tq) (R : List Wq) (lo hi : Nat) : Prop := MdM w x y z C K R lo (fun k => lo ≤ k ∧ k < hi) ∧ hi ≤ w.heap.size
theorem MdO.old {w w' : World} {x y z : Value} {C : List Cq} {K : List Tq} {R : List Wq} {lo hi : Nat} (h : MdO w x y z C K R lo hi) (hb : Below w.heap.size w w') : MdO w' x y z C K R lo hi := ⟨h.1.old hb, Nat.le_trans h.2 hb.size⟩
theorem MdO.onlyG {w w' : World} {x y z : Value} {C : List Cq} {K : List Tq} {R : List Wq} {lo hi a b : Nat} (h : MdO w x y z C K R lo hi) (hb : Only (InG a b w.heap.size) w w') (hd : hi ≤ a ∨ b ≤ lo) : MdO w' x y z C K R lo hi :=
  ⟨h.1.only hb fun k hk hs => by have := InG_cases hs; have := hk.1; have := hk.2; have := h.2; omega, Nat.le_trans h.2 hb.size⟩
theorem MdO.w {w : World} {x y z : Value} {C : List Cq} {K : List Tq} {R : List Wq} {lo hi : Nat} (h : MdO w x y z C K R lo hi) : MdW w x y z C K R := h.1.w
theorem MdO.form {w : World} {x y z : Value} {C : List Cq} {K : List Tq} {R : List Wq} {lo hi : Nat} (h : MdO w x y z C K R lo hi) : ∃ (a : Option Addr) (c : Nat) (b : Option Addr) (d : Nat) (e : Option Addr) (f : Nat), x = .slice a C.length c ∧ y = .slice b K.length d ∧ z = .slice e R.length f := h.1.form
def okR (f : Wq) : Prop := f.K.length ≤ maxLen ∧ (∀ g ∈ f.K, g.A.length ≤ maxLen ∧ g.D.length ≤ maxLen) ∧ f.A.length ≤ maxLen ∧ f.D.length ≤ maxLen
def okC (f : Cq) : Prop := f.n.size ≤ maxLen ∧ f.A.length ≤ maxLen ∧ f.D.length ≤ maxLen ∧ f.F.length ≤ maxLen ∧ f.G.length ≤ maxLen
/-- A slice of rows' structs of a call's own, between two heights. -/
def RMO (w : World) (v : Value) (L : List Wq) (lo hi : Nat) : Prop := RM w v L lo (fun k => lo ≤ k ∧ k < hi) ∧ hi ≤ w.heap.size
theorem RMO.old {w w' : World} {v : Value} {L : List Wq} {lo hi : Nat} (h : RMO w v L lo hi) (hb : Below w.heap.size w w') : RMO w' v L lo hi := ⟨h.1.old hb, Nat.le_trans h.2 hb.size⟩
theorem RMO.onlyG {w w' : World} {v : Value} {L : List Wq} {lo hi a b : Nat} (h : RMO w v L lo hi) (hb : Only (InG a b w.heap.size) w w') (hd : hi ≤ a ∨ b ≤ lo) : RMO w' v L lo hi :=
  ⟨h.1.only hb fun k hk hs => by have := InG_cases hs; have := hk.1; have := hk.2; have := h.2; omega, Nat.le_trans h.2 hb.size⟩
theorem RMO.r {w : World} {v : Value} {L : List Wq} {lo hi : Nat} (h : RMO w v L lo hi) : RS w v L := h.1.r
/-- A model's struct that came in. -/
structure NCame (w : World) (h : Nat) (a : Option Addr) (n : Nat) (C : List Cq) (b : Option Addr) (m : Nat) (K : List Tq) (e : Option Addr) (k : Nat) (R : List Wq) : Prop where
  c : CCame w h a n C
  t : TCame w h b m K
  r : RCame w h e k R
theorem NCame.old {w w' : World} {h n m k : Nat} {a b e : Option Addr} {C : List Cq} {K : List Tq} {R : List Wq} (c : NCame w h a n C b m K e k R) (hb : Below w.heap.size w w') : NCame w' h a n C b m K e k R := ⟨c.c.old hb, c.t.old hb, c.r.old hb⟩
theorem NCame.onlyG {w w' : World} {h n m k lo hi : Nat} {a b e : Option Addr} {C : List Cq} {K : List Tq} {R : List Wq} (c : NCame w h a n C b m K e k R) (hb : Only (InG lo hi w.heap.size) w w') (hlo : h ≤ lo) : NCame w' h a n C b m K e k R := ⟨c.c.onlyG hb hlo, c.t.onlyG hb hlo, c.r.onlyG hb hlo⟩
/-- How much the law counts of a model, how much it marks. -/
def szM0 (C : List Cq) (K : List Tq) (R : List Wq) : Nat := tot Cq.m C + szU K + tot Wq.m R
def szM1 (C : List Cq) (K : List Tq) (R : List Wq) : Nat := tot Cq.nm C + szT K + tot Wq.n R
theorem Cq.n4 (q : Cq) : q.nm ≤ 4 * q.m := by simp only [Cq.nm, Cq.m]; omega
theorem Wq.n2 (q : Wq) : q.n ≤ 2 * q.m := by have := szT_szU q.K; simp only [Wq.n, Wq.m]; omega
theorem tot_four {α : Type} {f g : α → Nat} (hf : ∀ e, f e ≤ 4 * g e) : ∀ K : List α, tot f K ≤ 4 * tot g K
  | [] => Nat.le_refl _
  | e :: K => by have := tot_four hf K; have := hf e; simp only [tot]; omega
theorem szM1_le (C : List Cq) (K : List Tq) (R : List Wq) : szM1 C K R ≤ 4 * szM0 C K R := by
  have := tot_four Cq.n4 C
  have := szT_szU K
  have := tot_two Wq.n2 R
  simp only [szM0, szM1]; omega
set_option maxRecDepth 100000 in
set_option maxHeartbeats 6400000 in
theorem szModel_yes (a : Option Addr) (n c : Nat) (b : Option Addr) (m d : Nat) (e : Option Addr) (k f : Nat) (h : Nat) (C : List Cq) (K : List Tq) (R : List Wq) (z : Int) (h0 : (tot Cq.m C : Int) + (szU K : Int) + (tot Wq.m R : Int) ≤ z) (h1 : z ≤ 1048576) (w : World) (hc : NCame w h a n C b m K e k R) :
    Calls Try.prog 15 #[.agg #[.slice a n c, .slice b m d, .slice e k f], .int .i64 z] w (RetB (.int .i64 (z - (tot Cq.m C : Int) - (szU K : Int) - (tot Wq.m R : Int))) w) := by
  have B := hid (below_new' (w := w) (o := .cells #[.slice a n c, .slice b m d, .slice e k f] 43))
  have LX := hid (LocA.new (w := w) (T := 43) (cs := #[.slice a n c, .slice b m d, .slice e k f]))
  have hc := hid (hc.old B.out)
  have K1 := hid (fun (W : World) (g : NCame W h a n C b m K e k R) => szColS_yes a n c h C z (by omega) h1 W g.c)
  have K2 := hid (fun (W : World) (g : NCame W h a n C b m K e k R) => szTermS_yes b m d h K (z - (tot Cq.m C : Int)) (by omega) (by omega) W g.t)
  have e1 : ¬ z - (tot Cq.m C : Int) < 0 := by omega
  have K3 := hid (fun (W : World) (g : NCame W h a n C b m K e k R) => szRowS_yes e k f h R (z - (tot Cq.m C : Int) - (szU K : Int)) (by omega) (by omega) W g.r)
  have e2 : ¬ z - (tot Cq.m C : Int) - (szU K : Int) < 0 := by omega
  have e3 : ¬ z - (tot Cq.m C : Int) - (szU K : Int) - (tot Wq.m R : Int) < 0 := by omega
  go_enter Try.func15, Try.ntmps15
  go_wp2_with fail
  generalize w.alloc (.cells #[.slice a n c, .slice b m d, .slice e k f] 43) = W at B LX hc ⊢
  (with_reducible refine (K1.out _ hc.out).mono ?_)
  rintro e w1 ⟨rfl, b1⟩
  have B := hid (B.out.trans (b1.mono B.out.size))
  have LX := hid (LX.out.old b1)
  have hc := hid (hc.out.old b1)
  clear b1
  have q0 := LX.out.c 1 rfl
  go_wp2_with fail
  (with_reducible refine (K2.out _ hc.out).mono ?_)
  rintro e w2 ⟨rfl, b1⟩
  have B := hid (B.out.trans (b1.mono B.out.size))
  have LX := hid (LX.out.old b1)
  have hc := hid (hc.out.old b1)
  clear b1 q0
  have q0 := LX.out.c 2 rfl
  go_wp2_with fail
  (with_reducible refine (K3.out _ hc.out).mono ?_)
  rintro e w3 ⟨rfl, b1⟩
  have B := hid (B.out.trans (b1.mono B.out.size))
  have LX := hid (LX.out.old b1)
  have hc := hid (hc.out.old b1)
  clear b1 q0
  go_wp2
  go_ret
  exact ⟨rfl, B.out⟩
set_option maxRecDepth 100000 in
set_option maxHeartbeats 6400000 in
theorem szModel_no (a : Option Addr) (n c : Nat) (b : Option Addr) (m d : Nat) (e : Option Addr) (k f : Nat) (h : Nat) (C : List Cq) (K : List Tq) (R : List Wq) (z : Int) (hn : n ≤ maxLen) (hC : ∀ f ∈ C, okC f) (hm : m ≤ maxLen) (hK : ∀ f ∈ K, f.A.length ≤ maxLen ∧ f.D.length ≤ maxLen) (hk : k ≤ maxLen) (hR : ∀ f ∈ R, okR f) (h0 : z < (tot Cq.m C : Int) + (szU K : Int) + (tot Wq.m R : Int)) (hz : 0 ≤ z) (h1 : z ≤ 1048576) (w : World) (hc : NCame w h a n C b m K e k R) :
    Calls Try.prog 15 #[.agg #[.slice a n c, .slice b m d, .slice e k f], .int .i64 z] w (RetB (.int .i64 (-1)) w) := by
  have B := hid (below_new' (w := w) (o := .cells #[.slice a n c, .slice b m d, .slice e k f] 43))
  have LX := hid (LocA.new (w := w) (T := 43) (cs := #[.slice a n c, .slice b m d, .slice e k f]))
  have hc := hid (hc.old B.out)
  by_cases c1 : z < (tot Cq.m C : Int)
  case pos =>
    have K1 := hid (fun (W : World) (g : NCame W h a n C b m K e k R) => szColS_no a n c h C z hn hC c1 hz h1 W g.c)
    go_enter Try.func15, Try.ntmps15
    go_wp2_with fail
    generalize w.alloc (.cells #[.slice a n c, .slice b m d, .slice e k f] 43) = W at B LX hc ⊢
    (with_reducible refine (K1.out _ hc.out).mono ?_)
    rintro e w1 ⟨rfl, b1⟩
    have B := hid (B.out.trans (b1.mono B.out.size))
    have LX := hid (LX.out.old b1)
    have hc := hid (hc.out.old b1)
    clear b1
    go_wp2
    go_ret
    exact ⟨rfl, B.out⟩
  by_cases c2 : z < (tot Cq.m C : Int) + (szU K : Int)
  case pos =>
    have K1 := hid (fun (W : World) (g : NCame W h a n C b m K e k R) => szColS_yes a n c h C z (by omega) h1 W g.c)
    have K2 := hid (fun (W : World) (g : NCame W h a n C b m K e k R) => szTermS_no b m d h K (z - (tot Cq.m C : Int)) hm hK (by omega) (by omega) (by omega) W g.t)
    have e1 : ¬ z - (tot Cq.m C : Int) < 0 := by omega
    go_enter Try.func15, Try.ntmps15
    go_wp2_with fail
    generalize w.alloc (.cells #[.slice a n c, .slice b m d, .slice e k f] 43) = W at B LX hc ⊢
    (with_reducible refine (K1.out _ hc.out).mono ?_)
    rintro e w1 ⟨rfl, b1⟩
    have B := hid (B.out.trans (b1.mono B.out.size))
    have LX := hid (LX.out.old b1)
    have hc := hid (hc.out.old b1)
    clear b1
    have q0 := LX.out.c 1 rfl
    go_wp2_with fail
    (with_reducible refine (K2.out _ hc.out).mono ?_)
    rintro e w2 ⟨rfl, b1⟩
    have B := hid (B.out.trans (b1.mono B.out.size))
    have LX := hid (LX.out.old b1)
    have hc := hid (hc.out.old b1)
    clear b1 q0
    go_wp2
    go_ret
    exact ⟨rfl, B.out⟩
  have K1 := hid (fun (W : World) (g : NCame W h a n C b m K e k R) => szColS_yes a n c h C z (by omega) h1 W g.c)
  have K2 := hid (fun (W : World) (g : NCame W h a n C b m K e k R) => szTermS_yes b m d h K (z - (tot Cq.m C : Int)) (by omega) (by omega) W g.t)
  have e1 : ¬ z - (tot Cq.m C : Int) < 0 := by omega
  have K3 := hid (fun (W : World) (g : NCame W h a n C b m K e k R) => szRowS_no e k f h R (z - (tot Cq.m C : Int) - (szU K : Int)) hk hR (by omega) (by omega) (by omega) W g.r)
  have e2 : ¬ z - (tot Cq.m C : Int) - (szU K : Int) < 0 := by omega
  go_enter Try.func15, Try.ntmps15
  go_wp2_with fail
  generalize w.alloc (.cells #[.slice a n c, .slice b m d, .slice e k f] 43) = W at B LX hc ⊢
  (with_reducible refine (K1.out _ hc.out).mono ?_)
  rintro e w1 ⟨rfl, b1⟩
  have B := hid (B.out.trans (b1.mono B.out.size))
  have LX := hid (LX.out.old b1)
  have hc := hid (hc.out.old b1)
  clear b1
  have q0 := LX.out.c 1 rfl
  go_wp2_with fail
  (with_reducible refine (K2.out _ hc.out).mono ?_)
  rintro e w2 ⟨rfl, b1⟩
  have B := hid (B.out.trans (b1.mono B.out.size))
  have LX := hid (LX.out.old b1)
  have hc := hid (hc.out.old b1)
  clear b1 q0
  have q0 := LX.out.c 2 rfl
  go_wp2_with fail
  (with_reducible refine (K3.out _ hc.out).mono ?_)
  rintro e w3 ⟨rfl, b1⟩
  have B := hid (B.out.trans (b1.mono B.out.size))
  have LX := hid (LX.out.old b1)
  have hc := hid (hc.out.old b1)
  clear b1 q0
  go_wp2
  go_ret
  exact ⟨rfl, B.out⟩
/-- A model's struct of a call's own is returned. -/
def MdR (C : List Cq) (K : List Tq) (R : List Wq) (w : World) (e : Ending) (w' : World) : Prop := ∃ a c b d g f, e = .returned (.agg #[.slice a C.length c, .slice b K.length d, .slice g R.length f]) ∧ MdO w' (.slice a C.length c) (.slice b K.length d) (.slice g R.length f) C K R w.heap.size w'.heap.size ∧ Below w.heap.size w w'
set_option maxRecDepth 100000 in
set_option maxHeartbeats 6400000 in
theorem toModel_came (a : Option Addr) (n c : Nat) (b : Option Addr) (m d : Nat) (e : Option Addr) (k f : Nat) (h : Nat) (C : List Cq) (K : List Tq) (R : List Wq) (hC : tot Cq.m C ≤ 1048576) (hK : szU K ≤ 1048576) (hR : tot Wq.m R ≤ 1048576) (w : World) (h1 : NCame w h a n C b m K e k R) :
    Calls Try.prog 17 #[.agg #[.slice a n c, .slice b m d, .slice e k f]] w (MdR C K R w) := by
  have H := hid h1
  have K1 := hid (fun (W : World) (g : NCame W h a n C b m K e k R) => toColS_came a n c h C hC W g.c)
  have K2 := hid (fun (W : World) (g : NCame W h a n C b m K e k R) => toTermS_came b m d h K hK W g.t)
  have K3 := hid (fun (W : World) (g : NCame W h a n C b m K e k R) => toRowS_came e k f h R hR W g.r)
  clear h1
  have B := hid (show Below w.heap.size w (((w.alloc (.cells #[.slice a n c, .slice b m d, .slice e k f] 43)).alloc (.cells #[.slice none 0 0, .slice none 0 0, .slice none 0 0] 51)).alloc (.cells #[.slice none 0 0, .slice none 0 0, .slice none 0 0] 51)) from (((Below.refl _ _).alloc (Nat.le_refl _) _).alloc (by simp) _).alloc (by simp; omega) _)
  have LP := hid (show LocA 43 (((w.alloc (.cells #[.slice a n c, .slice b m d, .slice e k f] 43)).alloc (.cells #[.slice none 0 0, .slice none 0 0, .slice none 0 0] 51)).alloc (.cells #[.slice none 0 0, .slice none 0 0, .slice none 0 0] 51)) w.heap.size #[.slice a n c, .slice b m d, .slice e k f] from (LocA.at rfl).new1.new1)
  have LR := hid (show LocA 51 (((w.alloc (.cells #[.slice a n c, .slice b m d, .slice e k f] 43)).alloc (.cells #[.slice none 0 0, .slice none 0 0, .slice none 0 0] 51)).alloc (.cells #[.slice none 0 0, .slice none 0 0, .slice none 0 0] 51)) (w.heap.size + 1) #[.slice none 0 0, .slice none 0 0, .slice none 0 0] from (LocA.at (by simp)).new1)
  have LO := hid (show LocA 51 (((w.alloc (.cells #[.slice a n c, .slice b m d, .slice e k f] 43)).alloc (.cells #[.slice none 0 0, .slice none 0 0, .slice none 0 0] 51)).alloc (.cells #[.slice none 0 0, .slice none 0 0, .slice none 0 0] 51)) (w.heap.size + 1 + 1) #[.slice none 0 0, .slice none 0 0, .slice none 0 0] from LocA.at (by simp))
  have hsW := hid (show (((w.alloc (.cells #[.slice a n c, .slice b m d, .slice e k f] 43)).alloc (.cells #[.slice none 0 0, .slice none 0 0, .slice none 0 0] 51)).alloc (.cells #[.slice none 0 0, .slice none 0 0, .slice none 0 0] 51)).heap.size = w.heap.size + 1 + 1 + 1 by simp)
  generalize hW : ((w.alloc (.cells #[.slice a n c, .slice b m d, .slice e k f] 43)).alloc (.cells #[.slice none 0 0, .slice none 0 0, .slice none 0 0] 51)).alloc (.cells #[.slice none 0 0, .slice none 0 0, .slice none 0 0] 51) = W0 at B LP LR LO hsW
  have HW := hid hW
  clear hW
  have hsW' := hsW.out
  have q0 := LP.out.c 0 rfl
  go_enter Try.func17, Try.ntmps17
  go_wp2_with fail
  rw [HW.out]
  (with_reducible refine (K1.out _ (H.out.old B.out)).mono ?_)
  clear q0
  rintro e w1 ⟨a1, c1, rfl, i1, b1⟩
  have hs2 := b1.size
  have LP := hid (LP.out.old b1)
  have LR := hid (LR.out.old b1)
  have LO := hid (LO.out.old b1)
  have B := hid (B.out.trans (b1.mono B.out.size))
  have fo := LO.out.f 0
  have po := LO.out.c 0 rfl
  have hz1 : (w1.setCell ⟨w.heap.size + 1 + 1, 0, none⟩ (.slice a1 C.length c1)).heap.size = w1.heap.size := by simp only [size_set]
  have S1 := ((Only.refl (fun k => w.heap.size + 1 ≤ k ∧ k < w.heap.size + 1 + 1 + 1) w1).setCell (p := ⟨w.heap.size + 1 + 1, 0, none⟩) (by show w.heap.size + 1 ≤ w.heap.size + 1 + 1 ∧ w.heap.size + 1 + 1 < w.heap.size + 1 + 1 + 1; omega) (.slice a1 C.length c1))
  have I1 := hid (i1.only S1 (fun k h1 h3 => by have := h3.1; have := h3.2; have := h1.1; omega))
  have B := hid ((B.out.setCell (p := ⟨w.heap.size + 1 + 1, 0, none⟩) (by show w.heap.size ≤ w.heap.size + 1 + 1; omega) (.slice a1 C.length c1)))
  have LP := hid ((LP.out.setne (i := 0) (x := .slice a1 C.length c1) (show w.heap.size ≠ w.heap.size + 1 + 1 by omega)))
  have LR := hid ((LR.out.setne (i := 0) (x := .slice a1 C.length c1) (show w.heap.size + 1 ≠ w.heap.size + 1 + 1 by omega)))
  have LO := hid (show LocA 51 _ (w.heap.size + 1 + 1) #[.slice a1 C.length c1, .slice none 0 0, .slice none 0 0] from LO.out.set (i := 0) (x := .slice a1 C.length c1))
  have q0 := LP.out.c 1 rfl
  clear i1 b1 S1
  go_wp2_with fail
  generalize (w1.setCell ⟨w.heap.size + 1 + 1, 0, none⟩ (.slice a1 C.length c1)) = X1 at B LP LR LO I1 hz1 q0 ⊢
  (with_reducible refine (K2.out _ (H.out.old B.out)).mono ?_)
  clear q0 fo po
  rintro e w2 ⟨a2, n2, c2, rfl, i2, b1⟩
  obtain rfl := i2.num
  have hs3 := b1.size
  have LP := hid (LP.out.old b1)
  have LR := hid (LR.out.old b1)
  have LO := hid (LO.out.old b1)
  have I1 := hid (I1.out.old b1)
  have hsB1 := B.out.size
  have B := hid (B.out.trans (b1.mono B.out.size))
  have fo := LO.out.f 1
  have po := LO.out.c 1 rfl
  have hz2 : (w2.setCell ⟨w.heap.size + 1 + 1, 1, none⟩ (.slice a2 K.length c2)).heap.size = w2.heap.size := by simp only [size_set]
  have S1 := ((Only.refl (fun k => w.heap.size + 1 ≤ k ∧ k < w.heap.size + 1 + 1 + 1) w2).setCell (p := ⟨w.heap.size + 1 + 1, 1, none⟩) (by show w.heap.size + 1 ≤ w.heap.size + 1 + 1 ∧ w.heap.size + 1 + 1 < w.heap.size + 1 + 1 + 1; omega) (.slice a2 K.length c2))
  have I1 := hid (I1.out.only S1 (fun k h1 h3 => by have := h3.1; have := h3.2; have := h1.1; omega))
  have I2 := hid (i2.onlyS S1 (fun k h1 h2 h3 => by have := h3.1; have := h3.2; omega))
  have B := hid ((B.out.setCell (p := ⟨w.heap.size + 1 + 1, 1, none⟩) (by show w.heap.size ≤ w.heap.size + 1 + 1; omega) (.slice a2 K.length c2)))
  have LP := hid ((LP.out.setne (i := 1) (x := .slice a2 K.length c2) (show w.heap.size ≠ w.heap.size + 1 + 1 by omega)))
  have LR := hid ((LR.out.setne (i := 1) (x := .slice a2 K.length c2) (show w.heap.size + 1 ≠ w.heap.size + 1 + 1 by omega)))
  have LO := hid (show LocA 51 _ (w.heap.size + 1 + 1) #[.slice a1 C.length c1, .slice a2 K.length c2, .slice none 0 0] from LO.out.set (i := 1) (x := .slice a2 K.length c2))
  have q0 := LP.out.c 2 rfl
  clear i2 b1 S1
  go_wp2_with fail
  generalize (w2.setCell ⟨w.heap.size + 1 + 1, 1, none⟩ (.slice a2 K.length c2)) = X2 at B LP LR LO I1 I2 hz2 q0 ⊢
  (with_reducible refine (K3.out _ (H.out.old B.out)).mono ?_)
  clear q0 fo po
  rintro e w3 ⟨a3, c3, rfl, i3, b1⟩
  have hs4 := b1.size
  have LP := hid (LP.out.old b1)
  have LR := hid (LR.out.old b1)
  have LO := hid (LO.out.old b1)
  have I1 := hid (I1.out.old b1)
  have I2 := hid (I2.out.old b1)
  have hsB2 := B.out.size
  have B := hid (B.out.trans (b1.mono B.out.size))
  have o0 := LR.out.c 0 rfl
  have g0 := LR.out.f 0
  have p0 := LO.out.c 0 rfl
  have o1 := LR.out.c 1 rfl
  have g1 := LR.out.f 1
  have p1 := LO.out.c 1 rfl
  have o2 := LR.out.c 2 rfl
  have g2 := LR.out.f 2
  have p2 := LO.out.c 2 rfl
  have fo := LO.out.f 2
  have hB := hid (((((B.out.setCell (p := ⟨w.heap.size + 1 + 1, 2, none⟩) (by show w.heap.size ≤ w.heap.size + 1 + 1; omega) (.slice a3 R.length c3)).setCell (p := ⟨w.heap.size + 1, 0, none⟩) (by show w.heap.size ≤ w.heap.size + 1; omega) (.slice a1 C.length c1)).setCell (p := ⟨w.heap.size + 1, 1, none⟩) (by show w.heap.size ≤ w.heap.size + 1; omega) (.slice a2 K.length c2)).setCell (p := ⟨w.heap.size + 1, 2, none⟩) (by show w.heap.size ≤ w.heap.size + 1; omega) (.slice a3 R.length c3)))
  have S2 := (((((Only.refl (fun k => w.heap.size + 1 ≤ k ∧ k < w.heap.size + 1 + 1 + 1) w3).setCell (p := ⟨w.heap.size + 1 + 1, 2, none⟩) (by show w.heap.size + 1 ≤ w.heap.size + 1 + 1 ∧ w.heap.size + 1 + 1 < w.heap.size + 1 + 1 + 1; omega) (.slice a3 R.length c3)).setCell (p := ⟨w.heap.size + 1, 0, none⟩) (by show w.heap.size + 1 ≤ w.heap.size + 1 ∧ w.heap.size + 1 < w.heap.size + 1 + 1 + 1; omega) (.slice a1 C.length c1)).setCell (p := ⟨w.heap.size + 1, 1, none⟩) (by show w.heap.size + 1 ≤ w.heap.size + 1 ∧ w.heap.size + 1 < w.heap.size + 1 + 1 + 1; omega) (.slice a2 K.length c2)).setCell (p := ⟨w.heap.size + 1, 2, none⟩) (by show w.heap.size + 1 ≤ w.heap.size + 1 ∧ w.heap.size + 1 < w.heap.size + 1 + 1 + 1; omega) (.slice a3 R.length c3))
  have hz3 : ((((w3.setCell ⟨w.heap.size + 1 + 1, 2, none⟩ (.slice a3 R.length c3)).setCell ⟨w.heap.size + 1, 0, none⟩ (.slice a1 C.length c1)).setCell ⟨w.heap.size + 1, 1, none⟩ (.slice a2 K.length c2)).setCell ⟨w.heap.size + 1, 2, none⟩ (.slice a3 R.length c3)).heap.size = w3.heap.size := by simp only [size_set]
  have hI1 := I1.out.only S2 (fun k h1 h3 => by have := h3.1; have := h3.2; have := h1.1; omega)
  have hI2 := I2.out.onlyS S2 (fun k h1 h2 h3 => by have := h3.1; have := h3.2; omega)
  have hI3 := i3.only S2 (fun k h1 h3 => by have := h3.1; have := h3.2; have := h1.1; omega)
  have hF := hid (show MdM ((((w3.setCell ⟨w.heap.size + 1 + 1, 2, none⟩ (.slice a3 R.length c3)).setCell ⟨w.heap.size + 1, 0, none⟩ (.slice a1 C.length c1)).setCell ⟨w.heap.size + 1, 1, none⟩ (.slice a2 K.length c2)).setCell ⟨w.heap.size + 1, 2, none⟩ (.slice a3 R.length c3)) (.slice a1 C.length c1) (.slice a2 K.length c2) (.slice a3 R.length c3) C K R w.heap.size (fun k => w.heap.size ≤ k ∧ k < ((((w3.setCell ⟨w.heap.size + 1 + 1, 2, none⟩ (.slice a3 R.length c3)).setCell ⟨w.heap.size + 1, 0, none⟩ (.slice a1 C.length c1)).setCell ⟨w.heap.size + 1, 1, none⟩ (.slice a2 K.length c2)).setCell ⟨w.heap.size + 1, 2, none⟩ (.slice a3 R.length c3)).heap.size) from
    ⟨_, _, _, _, hI1.mono (lo' := w.heap.size) (by omega) (fun k h => h), hI2, hI3.mono (lo' := w.heap.size) (by omega) (fun k h => h), fun k h => (by rw [hz3]; have := h.1; have := h.2; constructor <;> omega), fun k h => (by rw [hz3]; have := h.1; have := h.2; constructor <;> omega), fun k h1 h2 => (by rw [hz3]; constructor <;> omega),
      fun k h1 h2 => (by have := h1.1; have := h1.2; have := h2.1; have := h2.2; omega), fun k h1 h2 h3 => (by have := h3.1; have := h3.2; omega), fun k h1 h2 h3 => (by have := h3.1; have := h3.2; omega)⟩)
  clear i3 b1 S2 hz3 hz1 hz2 hI1 hI2 hI3
  go_wp2
  exact bodyPost_ret (v := .agg #[.slice a1 C.length c1, .slice a2 K.length c2, .slice a3 R.length c3]) (by simp [results, Try.results17, go_sem, o0, o1, o2]) rfl ⟨_, _, _, _, _, _, rfl, ⟨hF.out, Nat.le_refl _⟩, hB.out⟩
theorem eqTermS_md {y1 y2 : Value} {K : List Tq} (hK : szT K ≤ 4194304) (W : World) (g1 : ∃ p lo hi, TK p W y1 K lo hi) (g2 : ∃ p lo hi, TK p W y2 K lo hi) : Calls Try.prog 52 #[y1, y2] W (RetB (.bool true) W) := by
  obtain ⟨_, _, _, a1⟩ := g1
  obtain ⟨_, _, _, a2⟩ := g2
  exact eqTermS_k hK W a1 a2
set_option maxRecDepth 100000 in
set_option maxHeartbeats 6400000 in
theorem eqModel_k {x1 y1 z1 x2 y2 z2 : Value} {C : List Cq} {K : List Tq} {R : List Wq} (hM : szM1 C K R ≤ 4194304) (w : World) (o1 : MdW w x1 y1 z1 C K R) (o2 : MdW w x2 y2 z2 C K R) :
    Calls Try.prog 20 #[.agg #[x1, y1, z1], .agg #[x2, y2, z2]] w (RetB (.bool true) w) := by
  simp only [szM1] at hM
  obtain ⟨a1, c1, b1, d1, e1, f1, rfl, rfl, rfl⟩ := o1.form
  obtain ⟨a2, c2, b2, d2, e2, f2, rfl, rfl, rfl⟩ := o2.form
  have B := hid (below_new2 (w := w) (o := .cells #[.slice a1 C.length c1, .slice b1 K.length d1, .slice e1 R.length f1] 51) (o' := .cells #[.slice a2 C.length c2, .slice b2 K.length d2, .slice e2 R.length f2] 51))
  have L1 := hid ((LocA.at (T := 51) (w := w) (b := w.heap.size) (cs := #[.slice a1 C.length c1, .slice b1 K.length d1, .slice e1 R.length f1]) rfl).new1 (o := .cells #[.slice a2 C.length c2, .slice b2 K.length d2, .slice e2 R.length f2] 51))
  have L2 := hid (LocA.at (T := 51) (w := w.alloc (.cells #[.slice a1 C.length c1, .slice b1 K.length d1, .slice e1 R.length f1] 51)) (b := w.heap.size + 1) (cs := #[.slice a2 C.length c2, .slice b2 K.length d2, .slice e2 R.length f2]) (by simp))
  have O1 := hid (o1.old B.out)
  have O2 := hid (o2.old B.out)
  have K1 := hid (fun (W : World) (g1 : MdW W (.slice a1 C.length c1) (.slice b1 K.length d1) (.slice e1 R.length f1) C K R) (g2 : MdW W (.slice a2 C.length c2) (.slice b2 K.length d2) (.slice e2 R.length f2) C K R) => eqColS_k (by omega) W g1.c g2.c)
  have K2 := hid (fun (W : World) (g1 : MdW W (.slice a1 C.length c1) (.slice b1 K.length d1) (.slice e1 R.length f1) C K R) (g2 : MdW W (.slice a2 C.length c2) (.slice b2 K.length d2) (.slice e2 R.length f2) C K R) => eqTermS_md (by omega) W g1.t g2.t)
  have K3 := hid (fun (W : World) (g1 : MdW W (.slice a1 C.length c1) (.slice b1 K.length d1) (.slice e1 R.length f1) C K R) (g2 : MdW W (.slice a2 C.length c2) (.slice b2 K.length d2) (.slice e2 R.length f2) C K R) => eqRowS_k (by omega) (fun q hq => by have := tot_mem Wq.n hq; simp only [Wq.n] at this; omega) W g1.r g2.r)
  clear o1 o2
  generalize hW : (w.alloc (.cells #[.slice a1 C.length c1, .slice b1 K.length d1, .slice e1 R.length f1] 51)).alloc (.cells #[.slice a2 C.length c2, .slice b2 K.length d2, .slice e2 R.length f2] 51) = W0 at B L1 L2 O1 O2
  have HW := hid hW
  clear hW
  go_enter Try.func20, Try.ntmps20
  go_wp2_with fail
  rw [HW.out]
  (with_reducible refine (K1.out _ O1.out O2.out).mono ?_)
  rintro e w1 ⟨rfl, g1⟩
  have O1 := hid (O1.out.old g1)
  have O2 := hid (O2.out.old g1)
  have L1 := hid (L1.out.old g1)
  have L2 := hid (L2.out.old g1)
  have B := hid (B.out.trans (g1.mono B.out.size))
  clear g1
  have q0 := L1.out.c 1 rfl
  have q1 := L2.out.c 1 rfl
  go_wp2_with fail
  clear q0 q1
  (with_reducible refine (K2.out _ O1.out O2.out).mono ?_)
  rintro e w2 ⟨rfl, g1⟩
  have O1 := hid (O1.out.old g1)
  have O2 := hid (O2.out.old g1)
  have L1 := hid (L1.out.old g1)
  have L2 := hid (L2.out.old g1)
  have B := hid (B.out.trans (g1.mono B.out.size))
  clear g1
  have q0 := L1.out.c 2 rfl
  have q1 := L2.out.c 2 rfl
  go_wp2_with fail
  clear q0 q1
  (with_reducible refine (K3.out _ O1.out O2.out).mono ?_)
  rintro e w3 ⟨rfl, g1⟩
  have O1 := hid (O1.out.old g1)
  have O2 := hid (O2.out.old g1)
  have L1 := hid (L1.out.old g1)
  have L2 := hid (L2.out.old g1)
  have B := hid (B.out.trans (g1.mono B.out.size))
  clear g1
  go_wp2
  go_ret
  exact ⟨rfl, B.out⟩
/-- What a marking call leaves of a model. -/
def MarkMd (x y z : Value) (C : List Cq) (K : List Tq) (R : List Wq) (m : Int) (lo : Nat) (S : Nat → Prop) (w : World) (e : Ending) (w' : World) : Prop := e = .returned (.int .i64 (m + (tot Cq.nm C : Int) + (szT K : Int) + (tot Wq.n R : Int))) ∧ MdM w' x y z (mkC C m) (mkT K (m + (tot Cq.nm C : Int))) (mkR R (m + (tot Cq.nm C : Int) + (szT K : Int))) lo S ∧ Only (fun k => S k ∨ w.heap.size ≤ k) w w'
set_option maxRecDepth 100000 in
set_option maxHeartbeats 6400000 in
theorem markModel_k {x y z : Value} {C : List Cq} {K : List Tq} {R : List Wq} {m : Int} {lo : Nat} {S : Nat → Prop} (hM : szM1 C K R ≤ 4194304) (hm : m ≤ 4194304) (m0 : 0 < m) (w : World) (h1 : MdM w x y z C K R lo S) (hS : ∀ k, S k → k < w.heap.size) :
    Calls Try.prog 21 #[.agg #[x, y, z], .int .i64 m] w (MarkMd x y z C K R m lo S w) := by
  simp only [szM1] at hM
  obtain ⟨a1, c1, b1, d1, e1, f1, rfl, rfl, rfl⟩ := h1.form
  have h1 := h1.old (below_new' (o := .cells #[.slice a1 C.length c1, .slice b1 K.length d1, .slice e1 R.length f1] 51))
  obtain ⟨S1, S3, l2, h2, xC, xK, xR, i1, i2, i3, s1, s2, s3⟩ := h1.ex
  have B := hid (show Only (fun k => S k ∨ w.heap.size ≤ k) w (w.alloc (.cells #[.slice a1 C.length c1, .slice b1 K.length d1, .slice e1 R.length f1] 51)) from (Only.refl _ w).alloc (.inr (Nat.le_refl _)) (.cells #[.slice a1 C.length c1, .slice b1 K.length d1, .slice e1 R.length f1] 51))
  have LX := hid (LocA.new (w := w) (T := 51) (cs := #[.slice a1 C.length c1, .slice b1 K.length d1, .slice e1 R.length f1]))
  have XC := hid xC
  have XK := hid xK
  have XR := hid xR
  have hS' := hid hS
  have HI := hid (And.intro i1 (And.intro i2 (And.intro i3 (And.intro s1 (And.intro s2 s3)))))
  have KC := hid (fun (W : World) (g : CM W (.slice a1 C.length c1) C lo S1) => markColS_k (m := m) (by omega) m0 W g)
  obtain ⟨m1, hm1⟩ : ∃ m1, m1 = m + (tot Cq.nm C : Int) := ⟨_, rfl⟩
  obtain ⟨m2, hm2⟩ : ∃ m2, m2 = m1 + (szT K : Int) := ⟨_, rfl⟩
  have HM := hid (And.intro hm1 hm2)
  have KK := hid (fun (W : World) (g : TK true W (.slice b1 K.length d1) K l2 h2) => markTermS_r (m := m1) (by omega) (by omega) (by omega) W g)
  have KR := hid (fun (W : World) (g : RM W (.slice e1 R.length f1) R lo S3) => markRowS_k (m := m2) (by omega) (by omega) (by omega) W g)
  have HW := hid (show (w.alloc (.cells #[.slice a1 C.length c1, .slice b1 K.length d1, .slice e1 R.length f1] 51)).heap.size = w.heap.size + 1 by simp)
  clear h1 xC xK xR i1 i2 i3 s1 s2 s3 hS
  go_enter Try.func21, Try.ntmps21
  go_wp2_with fail
  generalize w.alloc (.cells #[.slice a1 C.length c1, .slice b1 K.length d1, .slice e1 R.length f1] 51) = W at B LX XC XK XR HW ⊢
  (with_reducible refine (KC.out _ XC.out).mono ?_)
  rintro e w1 ⟨rfl, p1, g1⟩
  have hw := HW.out
  have XC := hid p1
  have XK := hid (XK.out.onlyS g1 fun k k1 k2 hs => by
    obtain ⟨i1, i2, i3, s1, s2, s3⟩ := HI.out
    rcases hs with hs | hs
    · exact s2 k k1 k2 hs
    · have := hS'.out k (i3 k k1 k2); omega)
  have XR := hid (XR.out.only g1 fun k k1 hs => by
    obtain ⟨i1, i2, i3, s1, s2, s3⟩ := HI.out
    rcases hs with hs | hs
    · exact s1 k hs k1
    · have := hS'.out k (i2 k k1); omega)
  have LX := hid (LX.out.only g1 fun hs => by
    obtain ⟨i1, -⟩ := HI.out
    rcases hs with hs | hs
    · have := hS'.out _ (i1 _ hs); omega
    · omega)
  have B := hid (B.out.trans (g1.mono fun k hk => by
    obtain ⟨i1, -⟩ := HI.out
    rcases hk with hk | hk
    · exact .inl (i1 k hk)
    · exact .inr (by omega)))
  have hz1 := g1.size
  have q0 := LX.out.c 1 rfl
  rw [← hm1]
  clear p1 g1 hm1
  go_wp2_with fail
  (with_reducible refine (KK.out _ XK.out).mono ?_)
  rintro e w2 ⟨rfl, p1, g1⟩
  have XC := hid (XC.out.only g1 fun k k1 hs => by
    obtain ⟨i1, i2, i3, s1, s2, s3⟩ := HI.out
    rcases InG_cases hs with hs | hs
    · exact s2 k hs.1 hs.2 k1
    · have := hS'.out k (i1 k k1); omega)
  have XK := hid p1
  have XR := hid (XR.out.only g1 fun k k1 hs => by
    obtain ⟨i1, i2, i3, s1, s2, s3⟩ := HI.out
    rcases InG_cases hs with hs | hs
    · exact s3 k hs.1 hs.2 k1
    · have := hS'.out k (i2 k k1); omega)
  have LX := hid (LX.out.only g1 fun hs => by
    obtain ⟨i1, i2, i3, -⟩ := HI.out
    rcases InG_cases hs with hs | hs
    · have := hS'.out _ (i3 _ hs.1 hs.2); omega
    · omega)
  have B := hid (B.out.trans (g1.mono fun k hk => by
    obtain ⟨i1, i2, i3, -⟩ := HI.out
    rcases InG_cases hk with hk | hk
    · exact .inl (i3 k hk.1 hk.2)
    · exact .inr (by omega)))
  have hz2 := g1.size
  have q1 := LX.out.c 2 rfl
  rw [← hm2]
  clear p1 g1 hm2 q0
  go_wp2_with fail
  (with_reducible refine (KR.out _ XR.out).mono ?_)
  rintro e w3 ⟨rfl, p1, g1⟩
  have XC := hid (XC.out.only g1 fun k k1 hs => by
    obtain ⟨i1, i2, i3, s1, s2, s3⟩ := HI.out
    rcases hs with hs | hs
    · exact s1 k k1 hs
    · have := hS'.out k (i1 k k1); omega)
  have XK := hid (XK.out.onlyS g1 fun k k1 k2 hs => by
    obtain ⟨i1, i2, i3, s1, s2, s3⟩ := HI.out
    rcases hs with hs | hs
    · exact s3 k k1 k2 hs
    · have := hS'.out k (i3 k k1 k2); omega)
  have B := hid (B.out.trans (g1.mono fun k hk => by
    obtain ⟨i1, i2, i3, -⟩ := HI.out
    rcases hk with hk | hk
    · exact .inl (i2 k hk)
    · exact .inr (by omega)))
  have RR := hid (show MdM w3 (.slice a1 C.length c1) (.slice b1 K.length d1) (.slice e1 R.length f1) (mkC C m) (mkT K m1) (mkR R m2) lo S from by
    obtain ⟨i1, i2, i3, s1, s2, s3⟩ := HI.out
    exact ⟨S1, S3, l2, h2, XC.out, XK.out, p1, i1, i2, i3, s1, s2, s3⟩)
  clear p1 g1 q1
  go_wp2
  go_ret
  refine ⟨?_, ?_, B.out⟩
  · exact ret_in (by have := HM.out.1; have := HM.out.2; omega)
  · have := RR.out
    rw [HM.out.2, HM.out.1] at this
    exact this
def MarkMo (x y z : Value) (C : List Cq) (K : List Tq) (R : List Wq) (m : Int) (lo hi : Nat) (w : World) (e : Ending) (w' : World) : Prop := e = .returned (.int .i64 (m + (tot Cq.nm C : Int) + (szT K : Int) + (tot Wq.n R : Int))) ∧ MdO w' x y z (mkC C m) (mkT K (m + (tot Cq.nm C : Int))) (mkR R (m + (tot Cq.nm C : Int) + (szT K : Int))) lo hi ∧ Only (InG lo hi w.heap.size) w w'
theorem markModel_o {x y z : Value} {C : List Cq} {K : List Tq} {R : List Wq} {m : Int} {lo hi : Nat} (hM : szM1 C K R ≤ 4194304) (hm : m ≤ 4194304) (m0 : 0 < m) (w : World) (h1 : MdO w x y z C K R lo hi) :
    Calls Try.prog 21 #[.agg #[x, y, z], .int .i64 m] w (MarkMo x y z C K R m lo hi w) :=
  (markModel_k hM hm m0 w h1.1 fun k hk => Nat.lt_of_lt_of_le hk.2 h1.2).mono fun e w' h => ⟨h.1, ⟨h.2.1, Nat.le_trans h1.2 h.2.2.size⟩, h.2.2⟩
def MarkRo (v : Value) (L : List Wq) (m : Int) (lo hi : Nat) (w : World) (e : Ending) (w' : World) : Prop := e = .returned (.int .i64 (m + (tot Wq.n L : Int))) ∧ RMO w' v (mkR L m) lo hi ∧ Only (InG lo hi w.heap.size) w w'
theorem markRowS_o {v : Value} {L : List Wq} {m : Int} {lo hi : Nat} (hM : m + (tot Wq.n L : Int) ≤ 67108864) (hM2 : tot Wq.n L ≤ 33554432) (m0 : 0 ≤ m) (w : World) (h1 : RMO w v L lo hi) :
    Calls Try.prog 27 #[v, .int .i64 m] w (MarkRo v L m lo hi w) := (markRowS_k hM hM2 m0 w h1.1).mono fun e w' h => ⟨h.1, ⟨h.2.1, Nat.le_trans h1.2 h.2.2.size⟩, h.2.2⟩
theorem heldRowS_o {v : Value} {L : List Wq} {m : Int} {lo hi : Nat} (hM : m + (tot Wq.n L : Int) ≤ 67108864) (hM2 : tot Wq.n L ≤ 33554432) (m0 : 0 ≤ m) (w : World) (h1 : RMO w v (mkR L m) lo hi) :
    Calls Try.prog 28 #[v, .int .i64 m] w (RetB (.int .i64 (m + (tot Wq.n L : Int))) w) := heldRowS_k hM hM2 m0 w h1.1
def SmC (C : List Cq) : Prop := (∀ q ∈ C, q.A.length ≤ 1048576 ∧ q.D.length ≤ 1048576 ∧ q.F.length ≤ 1048576 ∧ q.G.length ≤ 1048576) ∧ C.length ≤ 1048576
def SmR (R : List Wq) : Prop := (∀ q ∈ R, SmT q.K ∧ q.A.length ≤ 1048576 ∧ q.D.length ≤ 1048576) ∧ R.length ≤ 1048576
theorem SmC.of {C : List Cq} (h : tot Cq.m C ≤ 1048576) : SmC C := ⟨fun q hq => by have := tot_mem Cq.m hq; simp only [Cq.m] at this; omega, Nat.le_trans (tot_len Cq.m1 C) h⟩
theorem SmR.of {R : List Wq} (h : tot Wq.m R ≤ 1048576) : SmR R := ⟨fun q hq => by have := tot_mem Wq.m hq; simp only [Wq.m] at this; exact ⟨SmT.of (by omega), by omega, by omega⟩, Nat.le_trans (tot_len Wq.m1 R) h⟩
end Go.Proofs.Yteanocjkdehhgaa
