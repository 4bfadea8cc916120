/- Merged: Few Lsm Lf. -/
import Derived.Test.YtookglpeieennaaGreatMtu
import Derived.Test.YtookglpeieennaaGreatLe0
import Derived.Deep.RegionHeld3
import Derived.Deep.DeepCutAuto
/- The draws of small fractions: l04Few, MakeFew. -/
namespace Go.Proofs.YtookglpeieennaaGreat
open Go.RowKit
open Go.Lib (hid)
set_option linter.unusedVariables false

def DrawF (N : Nat) (w : World) (e : Ending) (w' : World) : Prop := ∃ (x : Rat) (v u : Value), szq x 1 ∧ e = .returned (.agg #[.bool (gzs x.num), v, u]) ∧ Ints w' w.heap.size v (gzl x.num) ∧ Ints w' w.heap.size u (gzl (x.den : Int)) ∧ Only (fun k => k = N ∨ w.heap.size ≤ k) w w'
theorem few_cells (i : Nat) (h : i < ([1, 1, 1, 2, 3] : List Int).length) : (#[.int .i64 1, .int .i64 1, .int .i64 1, .int .i64 2, .int .i64 3] : Array Value)[i]? = some (.int .i64 ([1, 1, 1, 2, 3] : List Int)[i]) := by
  have e : i = 0 ∨ i = 1 ∨ i = 2 ∨ i = 3 ∨ i = 4 := by simp at h; omega
  rcases e with rfl | rfl | rfl | rfl | rfl <;> rfl
theorem mk_few {n d : Int} (h0 : -1000 ≤ n) (h1 : n ≤ 1000) (h2 : 0 < d) (h3 : d ≤ 1000) : ∃ x, mkFr n d = some x ∧ szq x 1 := by
  have hp : (1000 : Int) < pw 1 := by decide
  have hs : szq (Rat.divInt n d) 1 := szq_divInt (by omega) (by omega) (by omega)
  refine ⟨_, ?_, hs⟩
  unfold mkFr
  rw [if_neg (by omega)]
  exact capF_yes (szq_fit hs (by decide))
set_option maxRecDepth 100000 in
set_option maxHeartbeats 6400000 in
theorem l04Few_any (N : Nat) (a : Option Addr) (n c : Nat) (Z : List Int) (hZ : Z.length ≤ 1048576) (w : World) (hc : CurE w N a n c Z) (hu : Under N a Z) :
    Calls Tryz.prog 59 #[.pointer (some ⟨N, 0, none⟩)] w (DrawF N w) := by
  have KB := hid (fun (W : World) (h : CurE W N a n c Z) => belowE N a n c Z 21 hZ W h hu (by decide) (by decide))
  have KP := hid (fun (W : World) (g : Nat) (h : CurE W N a n c Z) (h1 : ∀ i (h : i < ([1, 1, 1, 2, 3] : List Int).length), W.cell? ⟨g, i, none⟩ = some (.int .i64 ([1, 1, 1, 2, 3] : List Int)[i])) (h2 : g ≠ N) => (show Calls Tryz.prog 109 #[.pointer (some ⟨N, 0, none⟩), .slice (some ⟨g, 0, none⟩) 5 5] W (PickE [1, 1, 1, 2, 3] N a n c Z W) from pickE N a n c Z g 5 [1, 1, 1, 2, 3] hZ W h hu (by decide) (by decide) h1 h2))
  have hNw := CurE_lt hc
  have C1 := hid (CurE_alloc hc (.cells #[.bool false, .slice none 0 0, .slice none 0 0] 27))
  have B1 := hid (show Only (fun k => k = N ∨ w.heap.size ≤ k) w (w.alloc (.cells #[.bool false, .slice none 0 0, .slice none 0 0] 27)) from (Only.refl _ _).alloc (.inr (Nat.le_refl _)) _)
  have LR := hid (LocA.new (w := w) (T := 27) (cs := #[.bool false, .slice none 0 0, .slice none 0 0]))
  have hne : w.heap.size ≠ N := by omega
  clear hc hu
  go_enter Tryz.func59, Tryz.ntmps59
  go_wp2_with fail
  have hsW := LR.out.lt
  generalize w.alloc (.cells #[.bool false, .slice none 0 0, .slice none 0 0] 27) = W at C1 B1 LR hsW ⊢
  (with_reducible refine (KB.out _ C1.out).mono ?_)
  rintro e w1 ⟨x, x0, x1, rfl, c1, o1⟩
  have C1 := hid c1
  have LR := hid (LR.out.only o1 hne)
  have hs1 := o1.size
  have B1 := hid (B1.out.trans (o1.mono fun k hk => .inl hk))
  clear c1 o1
  have C1 := hid (CurE_alloc C1.out (.cells #[.int .i64 1, .int .i64 1, .int .i64 1, .int .i64 2, .int .i64 3] 3))
  have LR := hid (LR.out.new1 (o := .cells #[.int .i64 1, .int .i64 1, .int .i64 1, .int .i64 2, .int .i64 3] 3))
  have LL := hid (LocA.new (w := w1) (T := 3) (cs := #[.int .i64 1, .int .i64 1, .int .i64 1, .int .i64 2, .int .i64 3]))
  have B1 := hid (B1.out.alloc (.inr (by omega)) (.cells #[.int .i64 1, .int .i64 1, .int .i64 1, .int .i64 2, .int .i64 3] 3))
  have hwN : w1.heap.size ≠ N := by omega
  go_wp2_with fail
  have hs2 : w1.heap.size < (w1.alloc (.cells #[.int .i64 1, .int .i64 1, .int .i64 1, .int .i64 2, .int .i64 3] 3)).heap.size := LL.out.lt
  generalize w1.alloc (.cells #[.int .i64 1, .int .i64 1, .int .i64 1, .int .i64 2, .int .i64 3] 3) = W1 at C1 B1 LR LL hs2 ⊢
  (with_reducible refine (KP.out W1 w1.heap.size C1.out (fun i hi => LL.out.c i (few_cells i hi)) hwN).mono ?_)
  rintro e w2 ⟨y, hy, rfl, c1, o1⟩
  have hy0 : 0 < y ∧ y ≤ 3 := by simp at hy; omega
  have LR := hid (LR.out.only o1 hne)
  have hs3 := o1.size
  have B1 := hid (B1.out.trans (o1.mono fun k hk => .inl hk))
  obtain ⟨q, eq, hq⟩ := mk_few (n := x - 10) (d := y) (by omega) (by omega) (by omega) (by omega)
  have HQ := hid hq
  have KO := hid (fun (W : World) => spec_RatOf (x - 10) y (by omega) (by omega) (by omega) (by omega) W)
  rw [eq] at KO
  clear c1 o1 hy eq hq KB KP
  go_wp2_with fail
  (with_reducible refine (KO.out _).mono ?_)
  rintro e w3 ⟨v1, u1, rfl, j1, j2, b1⟩
  have LR := hid (LR.out.old b1)
  have hsz8 := b1.size
  have B1 := hid (B1.out.trans (Only.of_below b1 fun k hk => .inr (by omega)))
  have J1 := hid (show Ints w3 _ v1 (gzl q.num) from j1)
  have J2 := hid (show Ints w3 _ u1 (gzl (q.den : Int)) from j2)
  rw [show qn (some q) = q.num from rfl]
  have n1 := LR.out.ne (by decide) J1.out
  have n2 := LR.out.ne (by decide) J2.out
  have R := hid (show DrawF N w (.returned (.agg #[.bool (gzs q.num), v1, u1])) (((w3.setCell ⟨w.heap.size, 0, none⟩ (.bool (gzs q.num))).setCell ⟨w.heap.size, 1, none⟩ v1).setCell ⟨w.heap.size, 2, none⟩ u1) from
    ⟨q, v1, u1, HQ.out, rfl, Ints_base (Ints_set (Ints_set (Ints_set J1.out n1) n1) n1) (by omega), Ints_base (Ints_set (Ints_set (Ints_set J2.out n2) n2) n2) (by omega), ((B1.out.setCell (.inr (Nat.le_refl _)) _).setCell (.inr (Nat.le_refl _)) _).setCell (.inr (Nat.le_refl _)) _⟩)
  obtain ⟨gs, hgs⟩ : ∃ g, g = gzs q.num := ⟨_, rfl⟩
  rw [← hgs] at R ⊢
  obtain ⟨e1, d1, rfl, -⟩ := Ints_form J1.out
  obtain ⟨e2, d2, rfl, -⟩ := Ints_form J2.out
  have f0 := LR.out.f 0
  have f1 := LR.out.f 1
  have f2 := LR.out.f 2
  have p0 := LR.out.c 0 rfl
  have p1 := LR.out.c 1 rfl
  have p2 := LR.out.c 2 rfl
  have HG := hid hgs
  clear b1 hgs n1 n2 j1 j2 hy0
  go_wp2
  exact bodyPost_ret (v := .agg #[.bool gs, .slice e1 (gzl q.num).length d1, .slice e2 (gzl (q.den : Int)).length d2]) (by simp [results, Tryz.results59, go_sem, p0, p1, p2]) rfl R.out
/-- MakeFew's answer: a fraction whose parts have at most one limb. -/
def MakeF (w : World) (e : Ending) (w' : World) : Prop := ∃ (x : Rat) (v u : Value), szq x 1 ∧ e = .returned (.agg #[.bool (gzs x.num), v, u]) ∧ Ints w' w.heap.size v (gzl x.num) ∧ Ints w' w.heap.size u (gzl (x.den : Int)) ∧ Below w.heap.size w w'
set_option maxRecDepth 100000 in
set_option maxHeartbeats 3200000 in
theorem MakeFew_any (a : Option Addr) (n c : Nat) (Z : List Int) (t : Int) (hZ : Z.length ≤ 1048576) (w : World) (hr : ByteRow w a n Z) (t0 : 0 ≤ t) (t1 : t ≤ 1000) :
    Calls Tryz.prog 24 #[.slice a n c, .int .i64 t] w (MakeF w) := by
  have B0 := hid (below_new' (w := w) (o := .cells #[.bool false, .slice none 0 0, .slice none 0 0] 27))
  have L0 := hid (LocA.new (w := w) (T := 27) (cs := #[.bool false, .slice none 0 0, .slice none 0 0]))
  have HR := hid (ByteRow_below hr B0.out)
  have HR0 := hid hr
  have K := hid (fun (W : World) (h : ByteRow W a n Z) => l01New_any a n c Z hZ W h)
  have hh := hashTo_le hZ (min Z.length 4000)
  obtain ⟨h, hhe⟩ : ∃ h, h = hashed Z := ⟨_, rfl⟩
  have HH := hid hhe
  change 0 ≤ hashed Z ∧ hashed Z ≤ 1073741824 at hh
  rw [← hhe] at hh
  clear hhe hr
  go_enter Tryz.func24, Tryz.ntmps24
  go_wp2_with fail
  have hlt := L0.out.lt
  generalize w.alloc (.cells #[.bool false, .slice none 0 0, .slice none 0 0] 27) = W at B0 L0 HR hlt ⊢
  (with_reducible refine (K.out _ HR.out).mono ?_)
  rintro e w1 ⟨rfl, rfl⟩
  rw [← HH.out]
  go_wp2_with fail
  have hb0 : Below W.heap.size W (W.alloc (.cells #[.slice a n c, .int .i64 0, .int .i64 (h + t)] 52)) := (Below.refl _ _).alloc (Nat.le_refl _) _
  have HC := hid (show CurE (W.alloc (.cells #[.slice a n c, .int .i64 0, .int .i64 (h + t)] 52)) W.heap.size a n c Z from ⟨ByteRow_below HR.out hb0, 0, h + t, Nat.zero_le _, by unfold IsCur; exact heap_alloc_new W _⟩)
  have HU := hid (show Under W.heap.size a Z from fun g o e h0 => by
    obtain ⟨g', o', e', hg, _⟩ := HR.out.2.2 h0
    rw [e] at e'
    simp at e'
    omega)
  have HB := hid (B0.out.trans (hb0.mono B0.out.size))
  have L1 := hid (L0.out.old hb0)
  have hs2 : W.heap.size < (W.alloc (.cells #[.slice a n c, .int .i64 0, .int .i64 (h + t)] 52)).heap.size := by simp
  clear hb0
  (with_reducible refine (l04Few_any W.heap.size a n c Z hZ _ HC.out HU.out).mono ?_)
  rintro e w2 ⟨x, r, u, hx, rfl, ir, iu, o1⟩
  have HX := hid hx
  have L1 := hid (L1.out.apart o1 (by omega))
  have B1 := hid (HB.out.trans (o1.below (B := w.heap.size) fun k hk hs => by simp at hs; omega))
  have n1 := L1.out.ne (by decide) ir
  have n2 := L1.out.ne (by decide) iu
  have R := hid (show MakeF w (.returned (.agg #[.bool (gzs x.num), r, u])) (((w2.setCell ⟨w.heap.size, 0, none⟩ (.bool (gzs x.num))).setCell ⟨w.heap.size, 1, none⟩ r).setCell ⟨w.heap.size, 2, none⟩ u) from
    ⟨x, r, u, HX.out, rfl, Ints_base (Ints_set (Ints_set (Ints_set ir n1) n1) n1) (by simp; omega), Ints_base (Ints_set (Ints_set (Ints_set iu n2) n2) n2) (by simp; omega), ((B1.out.setCell (Nat.le_refl _) _).setCell (Nat.le_refl _) _).setCell (Nat.le_refl _) _⟩)
  obtain ⟨gs, hgs⟩ : ∃ g, g = gzs x.num := ⟨_, rfl⟩
  rw [← hgs] at R ⊢
  obtain ⟨ar, cr, rfl, -⟩ := Ints_form ir
  obtain ⟨au, cu, rfl, -⟩ := Ints_form iu
  have f0 := L1.out.f 0
  have f1 := L1.out.f 1
  have f2 := L1.out.f 2
  have p0 := L1.out.c 0 rfl
  have p1 := L1.out.c 1 rfl
  have p2 := L1.out.c 2 rfl
  have HG := hid hgs
  clear ir iu o1 n1 n2 hgs hs2
  go_wp2
  exact bodyPost_ret (v := .agg #[.bool gs, .slice ar (gzl x.num).length cr, .slice au (gzl (x.den : Int)).length cu]) (by simp [results, Tryz.results24, go_sem, p0, p1, p2]) rfl R.out
end Go.Proofs.YtookglpeieennaaGreat

/- What the law FnSimple says, as arithmetic; the functions that it calls, at valid fractions. -/
namespace Go.Proofs.YtookglpeieennaaGreat
open Go.RowKit
open Go.Lib (hid)
set_option linter.unusedVariables false

theorem ByteRow.old {w w' : World} {a : Option Addr} {n : Nat} {Z : List Int} (h : ByteRow w a n Z) (hb : Below w.heap.size w w') : ByteRow w' a n Z := ByteRow_below h hb
theorem rat_lt_of_lt_le {x y z : Rat} (h : x < y) (h' : y ≤ z) : x < z := by
  rw [Rat.lt_iff_le_and_not_ge] at h ⊢
  exact ⟨Rat.le_trans h.1 h', fun e => h.2 (Rat.le_trans h' e)⟩
theorem den_mul (x : Rat) : x * ((x.den : Int) : Rat) = ((x.num : Int) : Rat) := by
  have h0 : ((x.den : Int) : Rat) ≠ 0 := by
    have := x.den_pos
    intro e
    have := Rat.intCast_eq_zero_iff.1 e
    omega
  have e : x = ((x.num : Int) : Rat) / ((x.den : Int) : Rat) := by rw [← Rat.divInt_eq_div, Rat.num_divInt_den]
  have h := Rat.div_mul_cancel (a := ((x.num : Int) : Rat)) h0
  rw [← e] at h
  exact h
theorem den_rat_pos (x : Rat) : (0 : Rat) < ((x.den : Int) : Rat) := by
  have := x.den_pos
  have h : (0 : Int) < (x.den : Int) := by omega
  exact Rat.intCast_lt_intCast.2 h
theorem mul_le_int {x : Rat} {k m : Int} : x * (k : Rat) ≤ (m : Rat) ↔ x.num * k ≤ m * x.den := by
  have e : x * (k : Rat) * ((x.den : Int) : Rat) = ((x.num * k : Int) : Rat) := by
    rw [Rat.mul_assoc, Rat.mul_comm (k : Rat), ← Rat.mul_assoc, den_mul, ← Rat.intCast_mul]
  have e2 : (m : Rat) * ((x.den : Int) : Rat) = ((m * x.den : Int) : Rat) := by rw [← Rat.intCast_mul]
  constructor
  · intro h
    have := Rat.mul_le_mul_of_nonneg_right h (Rat.le_of_lt (den_rat_pos x))
    rw [e, e2] at this
    exact Rat.intCast_le_intCast.1 this
  · intro h
    refine Rat.le_of_mul_le_mul_right (c := ((x.den : Int) : Rat)) ?_ (den_rat_pos x)
    rw [e, e2]
    exact Rat.intCast_le_intCast.2 h
theorem int_le_mul {x : Rat} {k m : Int} : (m : Rat) ≤ x * (k : Rat) ↔ m * x.den ≤ x.num * k := by
  have e : x * (k : Rat) * ((x.den : Int) : Rat) = ((x.num * k : Int) : Rat) := by
    rw [Rat.mul_assoc, Rat.mul_comm (k : Rat), ← Rat.mul_assoc, den_mul, ← Rat.intCast_mul]
  have e2 : (m : Rat) * ((x.den : Int) : Rat) = ((m * x.den : Int) : Rat) := by rw [← Rat.intCast_mul]
  constructor
  · intro h
    have := Rat.mul_le_mul_of_nonneg_right h (Rat.le_of_lt (den_rat_pos x))
    rw [e, e2] at this
    exact Rat.intCast_le_intCast.1 this
  · intro h
    refine Rat.le_of_mul_le_mul_right (c := ((x.den : Int) : Rat)) ?_ (den_rat_pos x)
    rw [e, e2]
    exact Rat.intCast_le_intCast.2 h
structure Simplest (x y q : Rat) : Prop where
  lo : x ≤ q
  hi : q ≤ y
  mi : ∀ (m k : Int), 0 < k → x * (k : Rat) ≤ (m : Rat) → (m : Rat) ≤ y * (k : Rat) → (q.den : Int) ≤ k
theorem simplest_pos_rat {x y : Rat} (h : 0 < x) (hle : x ≤ y) : Simplest x y (sqF x y) := by
  have E := ends_of h hle
  have Bt := E.best
  obtain ⟨e1, e2⟩ := sqF_parts E
  have n1 := num_pos'.2 h
  have n2 := num_pos'.2 (lt_le h hle)
  have lo := Bt.lo
  have hi := Bt.hi
  refine ⟨?_, ?_, ?_⟩
  · rw [Rat.le_iff, e1, e2]
    have : ((x.num.toNat * (sst x.num.toNat x.den y.num.toNat y.den).2 : Nat) : Int) ≤ (((sst x.num.toNat x.den y.num.toNat y.den).1 * x.den : Nat) : Int) := Int.ofNat_le.2 lo
    rw [Int.natCast_mul, Int.natCast_mul, Int.toNat_of_nonneg (by omega)] at this
    exact this
  · rw [Rat.le_iff, e1, e2]
    have : (((sst x.num.toNat x.den y.num.toNat y.den).1 * y.den : Nat) : Int) ≤ ((y.num.toNat * (sst x.num.toNat x.den y.num.toNat y.den).2 : Nat) : Int) := Int.ofNat_le.2 hi
    rw [Int.natCast_mul, Int.natCast_mul, Int.toNat_of_nonneg (by omega)] at this
    exact this
  · intro m k hk h1 h2
    have g1 := mul_le_int.1 h1
    have g2 := int_le_mul.1 h2
    have hxk : 0 < x.num * k := Int.mul_pos n1 hk
    have hm : 0 < m := by
      rcases Int.lt_or_le 0 m with e | e
      · exact e
      · have := Int.mul_le_mul_of_nonneg_right e (show (0 : Int) ≤ x.den by omega)
        omega
    have a1 : x.num.toNat * k.toNat ≤ m.toNat * x.den := by
      refine Int.ofNat_le.1 ?_
      rw [Int.natCast_mul, Int.natCast_mul, Int.toNat_of_nonneg (by omega), Int.toNat_of_nonneg (by omega), Int.toNat_of_nonneg (by omega)]
      exact g1
    have a2 : m.toNat * y.den ≤ y.num.toNat * k.toNat := by
      refine Int.ofNat_le.1 ?_
      rw [Int.natCast_mul, Int.natCast_mul, Int.toNat_of_nonneg (by omega), Int.toNat_of_nonneg (by omega), Int.toNat_of_nonneg (by omega)]
      exact g2
    have := (Bt.mi m.toNat k.toNat (by omega) a1 a2).2
    rw [e2]
    omega
theorem simplest_rat {x y q : Rat} (h : simpF x y = some q) : Simplest x y q := by
  unfold simpF at h
  by_cases h1 : y < x
  · rw [if_pos h1] at h; cases h
  rw [if_neg h1] at h
  have hle := Rat.not_lt.1 h1
  by_cases h2 : y < 0
  · rw [if_pos h2] at h
    cases h
    have S := simplest_pos_rat (neg_pos' h2) (Rat.neg_le_neg hle)
    refine ⟨?_, ?_, ?_⟩
    · have := Rat.neg_le_neg S.hi; rwa [Rat.neg_neg] at this
    · have := Rat.neg_le_neg S.lo; rwa [Rat.neg_neg] at this
    · intro m k hk g1 g2
      rw [Rat.neg_den]
      refine S.mi (-m) k hk ?_ ?_
      · rw [Rat.neg_mul, Rat.intCast_neg]; exact Rat.neg_le_neg g2
      · rw [Rat.neg_mul, Rat.intCast_neg]; exact Rat.neg_le_neg g1
  rw [if_neg h2] at h
  by_cases h3 : x ≤ 0
  · rw [if_pos h3] at h
    cases h
    exact ⟨h3, Rat.not_lt.1 h2, fun m k hk _ _ => by rw [Rat.den_intCast]; omega⟩
  · rw [if_neg h3] at h
    cases h
    exact simplest_pos_rat (Rat.not_le.1 h3) hle
/-- An interval at least 1 / 30 long has a fraction whose denominator is at most 30. -/
theorem den_le {x y q : Rat} (h : simpF x y = some q) {t : Int} (ht : 0 ≤ t) (hy : y = x + Rat.divInt (1 + t) 30) : (q.den : Int) ≤ 30 := by
  refine (simplest_rat h).mi ((x * ((30 : Int) : Rat)).ceil) 30 (by decide) Rat.le_ceil ?_
  have h1 : (((x * ((30 : Int) : Rat)).ceil : Int) : Rat) < x * ((30 : Int) : Rat) + 1 := Rat.ceil_lt
  have h2 : y * ((30 : Int) : Rat) = x * ((30 : Int) : Rat) + ((1 + t : Int) : Rat) := by
    rw [hy, Rat.add_mul, Rat.divInt_eq_div, Rat.div_mul_cancel (by decide)]
  rw [h2]
  refine Rat.le_of_lt (rat_lt_of_lt_le h1 ?_)
  rw [Rat.add_comm _ (1 : Rat), Rat.add_comm _ ((1 + t : Int) : Rat)]
  refine (Rat.add_le_add_right).2 ?_
  have : ((1 : Int) : Rat) ≤ ((1 + t : Int) : Rat) := Rat.intCast_le_intCast.2 (by omega)
  exact this
/-- No integer lies in the interval k times as long. -/
theorem no_int {x y q : Rat} (h : simpF x y = some q) {k : Int} (h0 : 0 < k) (hk : k < q.den) : flF (y * (k : Rat)) - ceF (x * (k : Rat)) + ((1 : Int) : Rat) ≤ 0 := by
  have key : (y * (k : Rat)).floor < (x * (k : Rat)).ceil := by
    refine Int.not_le.1 fun e => ?_
    have h1 : x * (k : Rat) ≤ (((x * (k : Rat)).ceil : Int) : Rat) := Rat.le_ceil
    have h2 : (((x * (k : Rat)).ceil : Int) : Rat) ≤ y * (k : Rat) := Rat.le_trans (Rat.intCast_le_intCast.2 e) (Rat.floor_le _)
    have := (simplest_rat h).mi _ k h0 h1 h2
    omega
  unfold flF ceF
  rw [← Rat.intCast_sub, ← Rat.intCast_add]
  exact Rat.intCast_le_intCast.2 (by omega)
theorem szq_ce {x : Rat} {k : Nat} (h : szq x k) : szq (ceF x) k := by rw [ce_neg]; exact szq_neg (szq_fl (szq_neg h))
theorem szq_int {z : Int} (h0 : -1000 ≤ z) (h1 : z ≤ 1000) : szq (z : Rat) 1 := by
  have hp : (1000 : Int) < pw 1 := by decide
  refine ⟨by rw [Rat.num_intCast]; omega, by rw [Rat.den_intCast]; decide⟩
theorem mul_x {w : World} {s t : Bool} {v u v' u' : Value} {x y z : Rat} (h : RA w s v u (some x)) (h' : RA w t v' u' (some y)) (hz : x * y = z) (hf : fit z) : Calls Tryz.prog 30 #[.agg #[.bool s, v, u], .agg #[.bool t, v', u']] w (RatO true (some z) w) := by
  obtain ⟨A, D, r, e⟩ := h
  obtain ⟨A', D', r', e'⟩ := h'
  refine (impl_RatMul s t v u v' u' A D A' D' w r r').mono fun e2 w' hh => RatO_of ?_ (fitO_some hf)
  rw [e, e', bq_some] at hh
  unfold mulF at hh
  rw [hz, capF_yes hf] at hh
  exact hh
theorem between_x {w : World} {s t : Bool} {v u v' u' : Value} {x y q : Rat} (h : RA w s v u (some x)) (h' : RA w t v' u' (some y)) (hq : simpF x y = some q) : Calls Tryz.prog 26 #[.agg #[.bool s, v, u], .agg #[.bool t, v', u']] w (RatO true (some q) w) :=
  (between_o h h').mono fun e w' hh => hh.eqo hq
theorem count_x {w : World} {s t : Bool} {v u v' u' : Value} {x y : Rat} (h : RA w s v u (some x)) (h' : RA w t v' u' (some y)) (f1 : fit (flF y - ceF x)) (f2 : fit (flF y - ceF x + ((1 : Int) : Rat))) (hz : flF y - ceF x + ((1 : Int) : Rat) ≤ 0) : Calls Tryz.prog 29 #[.agg #[.bool s, v, u], .agg #[.bool t, v', u']] w (RatO true (some 0) w) :=
  (count_o h h').mono fun e w' hh => hh.eqo (by
    show posO (bq addF (bq subF (some (flF y)) (some (ceF x))) (some ((1 : Int) : Rat))) = some 0
    rw [bq_some]
    unfold subF
    rw [capF_yes f1, bq_some]
    unfold addF
    rw [capF_yes f2]
    show some (maxF _ ((0 : Int) : Rat)) = some 0
    rw [show ((0 : Int) : Rat) = 0 from rfl]
    unfold maxF
    rcases cmpF_cases (flF y - ceF x + ((1 : Int) : Rat)) 0 with ⟨e, -⟩ | ⟨e, e'⟩ | ⟨e, e'⟩
    · rw [if_pos e]
    · rw [if_neg (by omega), e']
    · exact absurd hz (Rat.not_le.2 e'))
theorem of_x {w : World} {t : Int} (h0 : 0 ≤ t) (h1 : t ≤ 100) : Calls Tryz.prog 22 #[.int .i64 (1 + t), .int .i64 30] w (RatO true (some (Rat.divInt (1 + t) 30)) w) :=
  (of_o (1 + t) 30 (by omega) (by omega) (by decide) (by decide) w).mono fun e w' hh => hh.eqo (by
    unfold mkFr
    rw [if_neg (by decide)]
    have hp : (1000 : Int) < pw 1 := by decide
    exact capF_yes (szq_fit (szq_divInt (k := 1) (by omega) (by decide) (by omega)) (by decide)))
theorem toint_x {w : World} {s : Bool} {v u : Value} {x : Rat} (h : RA w s v u (some x)) (hd : (x.den : Int) ≤ 1000) : Calls Tryz.prog 27 #[u] w (Ret2 (x.den : Int) true w) := by
  have hf := h.fitO x rfl
  obtain ⟨A, D, r, e⟩ := h
  obtain ⟨-, -, e2⟩ := rval_lists e
  have f2 := hf.2
  rw [gzl_nat (by omega) f2] at e2
  obtain ⟨b, i⟩ := r.d
  obtain ⟨n1, n2, n3⟩ := nok_n (x := x.den) (pw24_lt f2)
  have hD : D = rep x.den := e2.symm
  obtain ⟨a, c, rfl, -, r1, -⟩ := Ints_form i
  have hh := impl_NatToInt a _ c D (by rw [hD]; exact n3) w r1
  have ht : tiB D = true := by
    unfold tiB
    rw [hD, n1, n2]
    rw [Bool.true_and]
    refine decide_eq_true ?_
    have : (1000 : Int) ≤ maxI := by decide
    omega
  have hv : tiV D = x.den := by
    unfold tiV
    rw [if_pos ht, hD, n2]
  rw [ht, hv] at hh
  exact hh
theorem sign_zero {w : World} {s : Bool} {v u : Value} (h : RA w s v u (some 0)) : Calls Tryz.prog 19 #[.agg #[.bool s, v, u]] w (RetB (.int .i64 0) w) := sign_x h (by decide)
end Go.Proofs.YtookglpeieennaaGreat

/- The walk of the law FnSimple. -/
namespace Go.Proofs.YtookglpeieennaaGreat
open Go.RowKit
open Go.Lib (hid)
set_option linter.unusedVariables false

theorem okk_x {w : World} {s : Bool} {v u : Value} {x : Rat} (h : RA w s v u (some x)) : Calls Tryz.prog 28 #[.agg #[.bool s, v, u]] w (RetB (.bool true) w) := ok_some h
set_option maxRecDepth 100000 in
set_option maxHeartbeats 25600000 in
theorem law_FnSimple (a : Option Addr) (n c : Nat) (Z : List Int) (hn : n ≤ maxLen) (w : World) (hr : ByteRow w a n Z) :
    Calls Tryz.prog 4 #[.slice a n c] w fun e w' => e = .returned (.bool true) ∧ Below w.heap.size w w' := by
  unfold maxLen at hn
  by_cases hA : 1048576 < (n : Int)
  · go_enter Tryz.func4, Tryz.ntmps4
    go_wp2
    go_ret
    exact ⟨rfl, Below.refl _ _⟩
  have hZ : Z.length ≤ 1048576 := by have := hr.1; omega
  have KM := hid (fun (W : World) (h : ByteRow W a n Z) (t : Int) t0 t1 => MakeFew_any a n c Z t hZ W h t0 t1)
  have KN := hid (fun (W : World) (h : ByteRow W a n Z) => MakeNum_any a n c Z 20 hZ W h (by decide) (by decide))
  have hy := numOf_le Z (m := 20) (by decide)
  obtain ⟨y, hyy⟩ : ∃ y, y = numOf Z 20 := ⟨_, rfl⟩
  rw [← hyy] at KN hy
  obtain ⟨y0, y1⟩ := hy
  clear hyy
  have RW := hid hr
  have B := hid (Below.refl w.heap.size w)
  clear hr
  go_enter Tryz.func4, Tryz.ntmps4
  go_wp2_with fail
  (with_reducible refine (KM.out _ RW.out 1 (by decide) (by decide)).mono ?_)
  rintro e w1 ⟨x, v1, u1, hx, rfl, i1, i2, hb⟩
  have Sx := hid hx
  have RW := hid (ByteRow_below RW.out hb)
  have X := hid (RA.of_x (RatX_of i1 i2 (szq_fit hx (by decide))))
  have B := hid (B.out.trans (hb.mono B.out.size))
  obtain ⟨a1, c1, rfl, -⟩ := Ints_form i1
  obtain ⟨b1, d1, rfl, -⟩ := Ints_form i2
  obtain ⟨s1, hs1⟩ : ∃ zz, zz = gzs x.num := ⟨_, rfl⟩
  obtain ⟨n1, hn1⟩ : ∃ zz, zz = (gzl x.num).length := ⟨_, rfl⟩
  obtain ⟨m1, hm1⟩ : ∃ zz, zz = (gzl (x.den : Int)).length := ⟨_, rfl⟩
  rw [← hs1, ← hn1, ← hm1] at X
  rw [← hs1]
  try rw [← hn1]
  try rw [← hm1]
  clear i1 i2 hb hx hs1 hn1 hm1
  have X := hid (X.out.old (below_new' (o := .cells #[.bool s1, .slice a1 n1 c1, .slice b1 m1 d1] 27)))
  have RW := hid (ByteRow_below RW.out (below_new' (o := .cells #[.bool s1, .slice a1 n1 c1, .slice b1 m1 d1] 27)))
  have B := hid (B.out.alloc B.out.size (.cells #[.bool s1, .slice a1 n1 c1, .slice b1 m1 d1] 27))
  have LX := hid (LocA.new (w := w1) (T := 27) (cs := #[.bool s1, .slice a1 n1 c1, .slice b1 m1 d1]))
  clear KM
  have hp : (1000 : Int) < pw 1 := by decide
  have st : szq (Rat.divInt (1 + y) 30) 1 := szq_divInt (by omega) (by decide) (by omega)
  have sx := Sx.out
  have hwy : IntKind.i64.wrap (1 + y) = 1 + y := IntWalk.i64_in _ (by omega)
  obtain ⟨tt, htt⟩ : ∃ t, t = Rat.divInt (1 + y) 30 := ⟨_, rfl⟩
  obtain ⟨ss, hss⟩ : ∃ s, s = x + tt := ⟨_, rfl⟩
  have s3 : szq ss 3 := by
    have h3 := szq_add sx st
    rw [hss, htt]
    exact h3
  have ht0 : 0 < tt := by
    rw [← num_pos', htt, Rat.num_divInt]
    refine Int.ediv_pos_of_pos_of_dvd (by rw [Int.sign_eq_one_of_pos (by decide), Int.one_mul]; omega) (by omega) ?_
    rw [Int.sign_eq_one_of_pos (by decide), Int.one_mul]
    exact Int.gcd_dvd_right _ _
  have hlt : ¬ ss < x := by
    rw [hss]
    intro h
    have h2 : x + tt < x + 0 := by rw [Rat.add_zero]; exact h
    exact (Rat.lt_iff_le_and_not_ge.1 (Rat.add_lt_add_left.1 h2)).2 (Rat.le_of_lt ht0)
  obtain ⟨q, hq⟩ : ∃ q, simpF x ss = some q := by
    unfold simpF
    rw [if_neg hlt]
    split
    · exact ⟨_, rfl⟩
    · split
      · exact ⟨_, rfl⟩
      · exact ⟨_, rfl⟩
  have hd30 := den_le hq y0 (by rw [hss, htt])
  have hSq := simplest_rat hq
  have HQ := hid hq
  have HN := hid (fun (k : Int) (h0 : 0 < k) (h1 : k < q.den) => no_int hq h0 h1)
  have HF := hid (fun (k : Int) (h0 : 0 ≤ k) (h1 : k ≤ 1000) => (show fit (x * (k : Rat)) ∧ fit (ss * (k : Rat)) ∧ fit (flF (ss * (k : Rat)) - ceF (x * (k : Rat))) ∧ fit (flF (ss * (k : Rat)) - ceF (x * (k : Rat)) + ((1 : Int) : Rat)) from by
    have a1 := szq_mul sx (szq_int (z := k) (by omega) h1)
    have a2 := szq_mul s3 (szq_int (z := k) (by omega) h1)
    have a3 := szq_sub (szq_fl a2) (szq_ce a1)
    exact ⟨szq_fit a1 (by decide), szq_fit a2 (by decide), szq_fit a3 (by decide), szq_fit (szq_add a3 (szq_int (z := 1) (by decide) (by decide))) (by decide)⟩))
  have F3 := hid (szq_fit s3 (by decide))
  have HS := hid hss.symm
  have HT := hid htt
  have hz1 := cmp_ngt (Rat.not_lt.2 hSq.lo)
  have hz2 := cmp_ngt (Rat.not_lt.2 hSq.hi)
  obtain ⟨z1, h1⟩ : ∃ z, z = cmpF x q := ⟨_, rfl⟩
  obtain ⟨z2, h2⟩ : ∃ z, z = cmpF q ss := ⟨_, rfl⟩
  rw [← h1] at hz1
  rw [← h2] at hz2
  have H1 := hid h1.symm
  have H2 := hid h2.symm
  have hdq0 : (0 : Int) < q.den := by have := q.den_pos; omega
  obtain ⟨dq, hdq⟩ : ∃ d : Nat, d = q.den := ⟨_, rfl⟩
  have HD := hid (fun (W : World) (s : Bool) (v u : Value) (h : RA W s v u (some q)) => (show Calls Tryz.prog 27 #[u] W (Ret2 (dq : Int) true W) from by rw [hdq]; exact toint_x h (by omega)))
  rw [← hdq] at hd30 HN hdq0
  have KOF := hid (fun (W : World) => (show Calls Tryz.prog 22 #[.int .i64 (1 + y), .int .i64 30] W (RatO true (some tt) W) from by rw [htt]; exact of_x y0 (by omega)))
  clear st sx s3 ht0 hlt hq hSq h1 h2 hss htt hdq hp
  obtain ⟨WF, hWF⟩ : ∃ W, W = w1.alloc (.cells #[.bool s1, .slice a1 n1 c1, .slice b1 m1 d1] 27) := ⟨_, rfl⟩
  have HWF := hid hWF
  rw [← hWF] at X LX RW B
  clear hWF
  go_upto_region 4 with fail
  rw [← HWF.out]
  go_cut [4] (fun sl wx => LaidO true WF (some ss) sl wx)
  case first =>
    have XD := hid (X.out.old (Below_drew1 (Below.refl _ _)))
    have XE := hid (X.out.old (Below_drew1 (below_new' (o := .cells #[.bool false, .slice none 0 0, .slice none 0 0] 27))))
    have LXD := hid (LX.out.old (Below_drew1 (Below.refl _ _)))
    have LXE := hid (LX.out.old (Below_drew1 (below_new' (o := .cells #[.bool false, .slice none 0 0, .slice none 0 0] 27))))
    have RWD := hid (RW.out.old (Below_drew1 (Below.refl _ _)))
    have RWE := hid (RW.out.old (Below_drew1 (below_new' (o := .cells #[.bool false, .slice none 0 0, .slice none 0 0] 27))))
    have CD := hid (show Below WF.heap.size WF WF.drew from Below_drew1 (Below.refl _ _))
    have CE := hid (show Below WF.heap.size WF (WF.alloc (.cells #[.bool false, .slice none 0 0, .slice none 0 0] 27)).drew from Below_drew1 below_new')
    have NE := hid (show LocA 27 (WF.alloc (.cells #[.bool false, .slice none 0 0, .slice none 0 0] 27)).drew WF.heap.size #[.bool false, .slice none 0 0, .slice none 0 0] from LocA.new)
    have hlX := LX.out.lt
    have q0 := LXD.out.c 0 (v := .bool s1) rfl
    have q1 := LXD.out.c 1 (v := .slice a1 n1 c1) rfl
    have q2 := LXD.out.c 2 (v := .slice b1 m1 d1) rfl
    have qE0 := LXE.out.c 0 (v := .bool s1) rfl
    have qE1 := LXE.out.c 1 (v := .slice a1 n1 c1) rfl
    have qE2 := LXE.out.c 2 (v := .slice b1 m1 d1) rfl
    go_region_held3 (fun w' => w'.cell? ⟨w1.heap.size, 0, none⟩ = some (.bool s1) ∧ w'.cell? ⟨w1.heap.size, 1, none⟩ = some (.slice a1 n1 c1) ∧ w'.cell? ⟨w1.heap.size, 2, none⟩ = some (.slice b1 m1 d1)) (first | with_reducible exact ⟨q0, q1, q2⟩ | with_reducible exact ⟨qE0, qE1, qE2⟩ | ((with_reducible refine ⟨(LXC.out.new1).c 0 ?_, (LXC.out.new1).c 1 ?_, (LXC.out.new1).c 2 ?_⟩) <;> rfl) | ((with_reducible refine ⟨(cell_set3 ?_).trans q0, (cell_set3 ?_).trans q1, (cell_set3 ?_).trans q2⟩) <;> (have := NZ.out.2; omega)) | go_keep) (first | (go_at_call 25; (with_reducible refine (KN.out _ (by first | with_reducible exact RWC.out | with_reducible exact (RWC.out.old (below_new' (o := .cells #[.bool false, .slice none 0 0, .slice none 0 0] 27))) | with_reducible exact RWD.out | with_reducible exact RWE.out)).mono ?_); rintro e wq ⟨rfl, hb⟩; (try (first | (have NZ := hid (And.intro (NZ.out.1.old hb) NZ.out.2)) | (have NZ := hid (And.intro (NE.out.old hb) (show WF.heap.size ≤ WF.heap.size from Nat.le_refl _))) | (have NZ := hid (And.intro ((LocA.new (T := 27) (cs := #[.bool false, .slice none 0 0, .slice none 0 0])).old hb) CC.out.size)))); (first | (have CC := hid (CC.out.trans (hb.mono CC.out.size))) | (have CC := hid ((CC.out.alloc CC.out.size (.cells #[.bool false, .slice none 0 0, .slice none 0 0] 27)).trans (hb.mono (Nat.le_trans CC.out.size (by simp))))) | (have CC := hid (CD.out.trans (hb.mono CD.out.size))) | (have CC := hid (CE.out.trans (hb.mono CE.out.size)))); (first | (with_reducible have XC := hid (XC.out.old hb)) | (with_reducible have XC := hid ((XC.out.old (below_new' (o := .cells #[.bool false, .slice none 0 0, .slice none 0 0] 27))).old hb)) | (with_reducible have XC := hid (XD.out.old hb)) | (with_reducible have XC := hid (XE.out.old hb))); (first | (with_reducible have LXC := hid (LXC.out.old hb)) | (with_reducible have LXC := hid ((LXC.out.old (below_new' (o := .cells #[.bool false, .slice none 0 0, .slice none 0 0] 27))).old hb)) | (with_reducible have LXC := hid (LXD.out.old hb)) | (with_reducible have LXC := hid (LXE.out.old hb))); (first | (with_reducible have RWC := hid (RWC.out.old hb)) | (with_reducible have RWC := hid ((RWC.out.old (below_new' (o := .cells #[.bool false, .slice none 0 0, .slice none 0 0] 27))).old hb)) | (with_reducible have RWC := hid (RWD.out.old hb)) | (with_reducible have RWC := hid (RWE.out.old hb))); (try (first | (with_reducible have SC := hid (SC.out.old hb)) | (with_reducible have SC := hid ((SC.out.old (below_new' (o := .cells #[.bool false, .slice none 0 0, .slice none 0 0] 27))).old hb)))); (try (first | (with_reducible have TC := hid (TC.out.old hb)) | (with_reducible have TC := hid ((TC.out.old (below_new' (o := .cells #[.bool false, .slice none 0 0, .slice none 0 0] 27))).old hb)))); have q0 := LXC.out.c 0 (v := .bool s1) rfl; have q1 := LXC.out.c 1 (v := .slice a1 n1 c1) rfl; have q2 := LXC.out.c 2 (v := .slice b1 m1 d1) rfl; clear hb) | (go_at_call 22; (with_reducible refine (KOF.out _).mono ?_); rintro e wq ⟨gs, aa, nn, cc, bb, mm, dd, rfl, hr, hb⟩; have hr := hr.base (show WF.heap.size ≤ _ from by first | with_reducible exact CC.out.size | with_reducible exact Nat.le_trans CC.out.size (by simp) | with_reducible exact CD.out.size | with_reducible exact CE.out.size); (try (first | (have NZ := hid (And.intro (NZ.out.1.old hb) NZ.out.2)) | (have NZ := hid (And.intro (NE.out.old hb) (show WF.heap.size ≤ WF.heap.size from Nat.le_refl _))) | (have NZ := hid (And.intro ((LocA.new (T := 27) (cs := #[.bool false, .slice none 0 0, .slice none 0 0])).old hb) CC.out.size)))); (first | (have CC := hid (CC.out.trans (hb.mono CC.out.size))) | (have CC := hid ((CC.out.alloc CC.out.size (.cells #[.bool false, .slice none 0 0, .slice none 0 0] 27)).trans (hb.mono (Nat.le_trans CC.out.size (by simp))))) | (have CC := hid (CD.out.trans (hb.mono CD.out.size))) | (have CC := hid (CE.out.trans (hb.mono CE.out.size)))); (first | (with_reducible have XC := hid (XC.out.old hb)) | (with_reducible have XC := hid ((XC.out.old (below_new' (o := .cells #[.bool false, .slice none 0 0, .slice none 0 0] 27))).old hb)) | (with_reducible have XC := hid (XD.out.old hb)) | (with_reducible have XC := hid (XE.out.old hb))); (first | (with_reducible have LXC := hid (LXC.out.old hb)) | (with_reducible have LXC := hid ((LXC.out.old (below_new' (o := .cells #[.bool false, .slice none 0 0, .slice none 0 0] 27))).old hb)) | (with_reducible have LXC := hid (LXD.out.old hb)) | (with_reducible have LXC := hid (LXE.out.old hb))); (first | (with_reducible have RWC := hid (RWC.out.old hb)) | (with_reducible have RWC := hid ((RWC.out.old (below_new' (o := .cells #[.bool false, .slice none 0 0, .slice none 0 0] 27))).old hb)) | (with_reducible have RWC := hid (RWD.out.old hb)) | (with_reducible have RWC := hid (RWE.out.old hb))); (try (first | (with_reducible have SC := hid (SC.out.old hb)) | (with_reducible have SC := hid ((SC.out.old (below_new' (o := .cells #[.bool false, .slice none 0 0, .slice none 0 0] 27))).old hb)))); have TC := hid hr; have q0 := LXC.out.c 0 (v := .bool s1) rfl; have q1 := LXC.out.c 1 (v := .slice a1 n1 c1) rfl; have q2 := LXC.out.c 2 (v := .slice b1 m1 d1) rfl; clear hr hb) | (go_at_call 21; (with_reducible refine (add_x (by first | with_reducible exact XC.out | with_reducible exact (XC.out.old (below_new' (o := .cells #[.bool false, .slice none 0 0, .slice none 0 0] 27))) | with_reducible exact XD.out | with_reducible exact XE.out) (by first | with_reducible exact TC.out.ra | with_reducible exact (TC.out.old (below_new' (o := .cells #[.bool false, .slice none 0 0, .slice none 0 0] 27))).ra) HS.out F3.out).mono ?_); rintro e wq ⟨gs, aa, nn, cc, bb, mm, dd, rfl, hr, hb⟩; have hr := hr.base (show WF.heap.size ≤ _ from by first | with_reducible exact CC.out.size | with_reducible exact Nat.le_trans CC.out.size (by simp) | with_reducible exact CD.out.size | with_reducible exact CE.out.size); (try (first | (have NZ := hid (And.intro (NZ.out.1.old hb) NZ.out.2)) | (have NZ := hid (And.intro (NE.out.old hb) (show WF.heap.size ≤ WF.heap.size from Nat.le_refl _))) | (have NZ := hid (And.intro ((LocA.new (T := 27) (cs := #[.bool false, .slice none 0 0, .slice none 0 0])).old hb) CC.out.size)))); (first | (have CC := hid (CC.out.trans (hb.mono CC.out.size))) | (have CC := hid ((CC.out.alloc CC.out.size (.cells #[.bool false, .slice none 0 0, .slice none 0 0] 27)).trans (hb.mono (Nat.le_trans CC.out.size (by simp))))) | (have CC := hid (CD.out.trans (hb.mono CD.out.size))) | (have CC := hid (CE.out.trans (hb.mono CE.out.size)))); (first | (with_reducible have XC := hid (XC.out.old hb)) | (with_reducible have XC := hid ((XC.out.old (below_new' (o := .cells #[.bool false, .slice none 0 0, .slice none 0 0] 27))).old hb)) | (with_reducible have XC := hid (XD.out.old hb)) | (with_reducible have XC := hid (XE.out.old hb))); (first | (with_reducible have LXC := hid (LXC.out.old hb)) | (with_reducible have LXC := hid ((LXC.out.old (below_new' (o := .cells #[.bool false, .slice none 0 0, .slice none 0 0] 27))).old hb)) | (with_reducible have LXC := hid (LXD.out.old hb)) | (with_reducible have LXC := hid (LXE.out.old hb))); (first | (with_reducible have RWC := hid (RWC.out.old hb)) | (with_reducible have RWC := hid ((RWC.out.old (below_new' (o := .cells #[.bool false, .slice none 0 0, .slice none 0 0] 27))).old hb)) | (with_reducible have RWC := hid (RWD.out.old hb)) | (with_reducible have RWC := hid (RWE.out.old hb))); (try (first | (with_reducible have TC := hid (TC.out.old hb)) | (with_reducible have TC := hid ((TC.out.old (below_new' (o := .cells #[.bool false, .slice none 0 0, .slice none 0 0] 27))).old hb)))); have SC := hid hr; have q0 := LXC.out.c 0 (v := .bool s1) rfl; have q1 := LXC.out.c 1 (v := .slice a1 n1 c1) rfl; have q2 := LXC.out.c 2 (v := .slice b1 m1 d1) rfl; (try (have f0 := NZ.out.1.f 0; have f1 := NZ.out.1.f 1; have f2 := NZ.out.1.f 2; have p0 := NZ.out.1.c 0 rfl; have p1 := NZ.out.1.c 1 rfl; have p2 := NZ.out.1.c 2 rfl)); clear hr hb))
    all_goals
      go_wp2_with fail
      go_meet
      first | with_reducible exact LaidO_a SC.out CC.out | with_reducible exact LaidO_b NZ.out.1 NZ.out.2 SC.out CC.out
  case rest =>
    generalize wc = w2 at hcut ⊢
    obtain ⟨g2, s2, a2, n2, c2, b2, m2, d2, rfl, hL, hR, hg, hb⟩ := hcut
    have LS := hid hL
    have S := hid (hR.base B.out.size)
    have hgS := hg
    have X := hid (X.out.old hb)
    have LX := hid (LX.out.old hb)
    have RW := hid (RW.out.old hb)
    have B := hid (B.out.trans (hb.mono B.out.size))
    clear hL hR hb hg
    clear KN KOF RW
    have q0 := LX.out.c 0 (v := .bool s1) rfl
    have q1 := LX.out.c 1 (v := .slice a1 n1 c1) rfl
    have q2 := LX.out.c 2 (v := .slice b1 m1 d1) rfl
    have q3 := LS.out.c 0 (v := .bool s2) rfl
    have q4 := LS.out.c 1 (v := .slice a2 n2 c2) rfl
    have q5 := LS.out.c 2 (v := .slice b2 m2 d2) rfl
    go_wp2_with fail
    (with_reducible refine (between_x X.out S.out.ra HQ.out).mono ?_)
    clear q0 q1 q2 q3 q4 q5
    rintro e w3 ⟨s3, a3, n3, c3, b3, m3, d3, rfl, hr, hb⟩
    have Q := hid (hr.base B.out.size)
    have X := hid (X.out.old hb)
    have LX := hid (LX.out.old hb)
    have S := hid (S.out.old hb)
    have LS := hid (LS.out.old hb)
    have B := hid (B.out.trans (hb.mono B.out.size))
    clear hr hb
    have X := hid (X.out.old (below_new' (o := .cells #[.bool s3, .slice a3 n3 c3, .slice b3 m3 d3] 27)))
    have LX := hid (LX.out.old (below_new' (o := .cells #[.bool s3, .slice a3 n3 c3, .slice b3 m3 d3] 27)))
    have S := hid (S.out.old (below_new' (o := .cells #[.bool s3, .slice a3 n3 c3, .slice b3 m3 d3] 27)))
    have LS := hid (LS.out.old (below_new' (o := .cells #[.bool s3, .slice a3 n3 c3, .slice b3 m3 d3] 27)))
    have Q := hid (Q.out.old (below_new' (o := .cells #[.bool s3, .slice a3 n3 c3, .slice b3 m3 d3] 27)))
    have B := hid (B.out.alloc B.out.size (.cells #[.bool s3, .slice a3 n3 c3, .slice b3 m3 d3] 27))
    have LQ := hid (LocA.new (w := w3) (T := 27) (cs := #[.bool s3, .slice a3 n3 c3, .slice b3 m3 d3]))
    have q0 := LQ.out.c 0 (v := .bool s3) rfl
    have q1 := LQ.out.c 1 (v := .slice a3 n3 c3) rfl
    have q2 := LQ.out.c 2 (v := .slice b3 m3 d3) rfl
    go_wp2_with fail
    (with_reducible refine (HD.out _ _ _ _ Q.out.ra).mono ?_)
    clear q0 q1 q2
    rintro e w4 ⟨rfl, hb⟩
    have X := hid (X.out.old hb)
    have LX := hid (LX.out.old hb)
    have S := hid (S.out.old hb)
    have LS := hid (LS.out.old hb)
    have Q := hid (Q.out.old hb)
    have LQ := hid (LQ.out.old hb)
    have B := hid (B.out.trans (hb.mono B.out.size))
    clear hb
    have hd40 : ¬ 40 < (dq : Int) := by omega
    have q0 := LQ.out.c 0 (v := .bool s3) rfl
    have q1 := LQ.out.c 1 (v := .slice a3 n3 c3) rfl
    have q2 := LQ.out.c 2 (v := .slice b3 m3 d3) rfl
    go_wp2_with fail
    (with_reducible refine (okk_x Q.out.ra).mono ?_)
    clear q0 q1 q2
    rintro e w5 ⟨rfl, hb⟩
    have X := hid (X.out.old hb)
    have LX := hid (LX.out.old hb)
    have S := hid (S.out.old hb)
    have LS := hid (LS.out.old hb)
    have Q := hid (Q.out.old hb)
    have LQ := hid (LQ.out.old hb)
    have B := hid (B.out.trans (hb.mono B.out.size))
    clear hb
    have q0 := LX.out.c 0 (v := .bool s1) rfl
    have q1 := LX.out.c 1 (v := .slice a1 n1 c1) rfl
    have q2 := LX.out.c 2 (v := .slice b1 m1 d1) rfl
    have q3 := LQ.out.c 0 (v := .bool s3) rfl
    have q4 := LQ.out.c 1 (v := .slice a3 n3 c3) rfl
    have q5 := LQ.out.c 2 (v := .slice b3 m3 d3) rfl
    go_wp2_with fail
    (with_reducible refine (cmp_x X.out Q.out.ra H1.out).mono ?_)
    clear q0 q1 q2 q3 q4 q5
    rintro e w6 ⟨rfl, hb⟩
    have X := hid (X.out.old hb)
    have LX := hid (LX.out.old hb)
    have S := hid (S.out.old hb)
    have LS := hid (LS.out.old hb)
    have Q := hid (Q.out.old hb)
    have LQ := hid (LQ.out.old hb)
    have B := hid (B.out.trans (hb.mono B.out.size))
    clear hb
    have q0 := LQ.out.c 0 (v := .bool s3) rfl
    have q1 := LQ.out.c 1 (v := .slice a3 n3 c3) rfl
    have q2 := LQ.out.c 2 (v := .slice b3 m3 d3) rfl
    have q3 := LS.out.c 0 (v := .bool s2) rfl
    have q4 := LS.out.c 1 (v := .slice a2 n2 c2) rfl
    have q5 := LS.out.c 2 (v := .slice b2 m2 d2) rfl
    go_wp2_with fail
    (with_reducible refine (cmp_x Q.out.ra S.out.ra H2.out).mono ?_)
    clear q0 q1 q2 q3 q4 q5
    rintro e w7 ⟨rfl, hb⟩
    have X := hid (X.out.old hb)
    have LX := hid (LX.out.old hb)
    have S := hid (S.out.old hb)
    have LS := hid (LS.out.old hb)
    have Q := hid (Q.out.old hb)
    have LQ := hid (LQ.out.old hb)
    have B := hid (B.out.trans (hb.mono B.out.size))
    clear hb
    go_wp2_with fail
    clear hz1 hz2 H1 H2 HD HQ
    go_loopw [8] (fun i wr => ∃ k : Nat, 1 ≤ k ∧ k ≤ dq ∧ i = .int .i64 (k : Int) ∧ Hid (Below w.heap.size w wr) ∧ Hid (LocA 27 wr (w1.heap.size) #[.bool s1, .slice a1 n1 c1, .slice b1 m1 d1]) ∧ Hid (LocA 27 wr (g2) #[.bool s2, .slice a2 n2 c2, .slice b2 m2 d2]) ∧ Hid (RA wr s1 (.slice a1 n1 c1) (.slice b1 m1 d1) (some x)) ∧ Hid (RA wr s2 (.slice a2 n2 c2) (.slice b2 m2 d2) (some ss))) (fun i _ => dq - (intOf i).toNat)
    case atStart => exact ⟨1, Nat.le_refl _, by omega, rfl, B, LX, LS, X, hid S.out.ra⟩
    case round =>
      obtain ⟨k, hk1, hk2, rfl, B2, LX2, LS2, X2, S2⟩ := hrel
      clear B LX LS X S LQ Q
      have B := B2
      have LX := LX2
      have LS := LS2
      have X := X2
      have S := S2
      clear B2 LX2 LS2 X2 S2
      by_cases hlt : k < dq
      · have hl2 : (k : Int) < (dq : Int) := by omega
        obtain ⟨e1, e2, e3, e4⟩ := HF.out (k : Int) (by omega) (by omega)
        have E1 := hid e1
        have E2 := hid e2
        have E3 := hid e3
        have E4 := hid e4
        have E5 := hid (HN.out (k : Int) (by omega) hl2)
        have KI := hid (fun (W : World) => int_o (k : Int) (by omega) (by omega) W)
        clear e1 e2 e3 e4
        go_wp2_with fail
        (with_reducible refine (KI.out _).mono ?_)
        rintro e w8 ⟨s8, a8, n8, c8, b8, m8, d8, rfl, hr, hb⟩
        have K := hid (hr.base B.out.size)
        have LX := hid (LX.out.old hb)
        have LS := hid (LS.out.old hb)
        have X := hid (X.out.old hb)
        have S := hid (S.out.old hb)
        have B := hid (B.out.trans (hb.mono B.out.size))
        clear hr hb
        have LX := hid (LX.out.old (below_new' (o := .cells #[.bool s8, .slice a8 n8 c8, .slice b8 m8 d8] 27)))
        have LS := hid (LS.out.old (below_new' (o := .cells #[.bool s8, .slice a8 n8 c8, .slice b8 m8 d8] 27)))
        have X := hid (X.out.old (below_new' (o := .cells #[.bool s8, .slice a8 n8 c8, .slice b8 m8 d8] 27)))
        have S := hid (S.out.old (below_new' (o := .cells #[.bool s8, .slice a8 n8 c8, .slice b8 m8 d8] 27)))
        have K := hid (K.out.old (below_new' (o := .cells #[.bool s8, .slice a8 n8 c8, .slice b8 m8 d8] 27)))
        have B := hid (B.out.alloc B.out.size (.cells #[.bool s8, .slice a8 n8 c8, .slice b8 m8 d8] 27))
        have LK := hid (LocA.new (w := w8) (T := 27) (cs := #[.bool s8, .slice a8 n8 c8, .slice b8 m8 d8]))
        go_wp2_with fail
        have LX := hid (LX.out.old (Below_drew1 (Below.refl _ _)))
        have LS := hid (LS.out.old (Below_drew1 (Below.refl _ _)))
        have X := hid (X.out.old (Below_drew1 (Below.refl _ _)))
        have S := hid (S.out.old (Below_drew1 (Below.refl _ _)))
        have K := hid (K.out.old (Below_drew1 (Below.refl _ _)))
        have LK := hid (LK.out.old (Below_drew1 (Below.refl _ _)))
        have B := hid (Below_drew1 B.out)
        have q0 := LX.out.c 0 (v := .bool s1) rfl
        have q1 := LX.out.c 1 (v := .slice a1 n1 c1) rfl
        have q2 := LX.out.c 2 (v := .slice b1 m1 d1) rfl
        have q3 := LK.out.c 0 (v := .bool s8) rfl
        have q4 := LK.out.c 1 (v := .slice a8 n8 c8) rfl
        have q5 := LK.out.c 2 (v := .slice b8 m8 d8) rfl
        have q6 := LS.out.c 0 (v := .bool s2) rfl
        have q7 := LS.out.c 1 (v := .slice a2 n2 c2) rfl
        have q8 := LS.out.c 2 (v := .slice b2 m2 d2) rfl
        have hlX := LX.out.lt
        have hlK := LK.out.lt
        have hlS := LS.out.lt
        go_region_held3 (fun w' => w'.cell? ⟨w1.heap.size, 0, none⟩ = some (.bool s1) ∧ w'.cell? ⟨w1.heap.size, 1, none⟩ = some (.slice a1 n1 c1) ∧ w'.cell? ⟨w1.heap.size, 2, none⟩ = some (.slice b1 m1 d1) ∧ w'.cell? ⟨w8.heap.size, 0, none⟩ = some (.bool s8) ∧ w'.cell? ⟨w8.heap.size, 1, none⟩ = some (.slice a8 n8 c8) ∧ w'.cell? ⟨w8.heap.size, 2, none⟩ = some (.slice b8 m8 d8) ∧ w'.cell? ⟨g2, 0, none⟩ = some (.bool s2) ∧ w'.cell? ⟨g2, 1, none⟩ = some (.slice a2 n2 c2) ∧ w'.cell? ⟨g2, 2, none⟩ = some (.slice b2 m2 d2)) (first | with_reducible exact ⟨q0, q1, q2, q3, q4, q5, q6, q7, q8⟩) (first | (go_at_call 30; (with_reducible refine (mul_x X.out K.out.ra rfl E1.out).mono ?_); rintro e w9 ⟨s9, a9, n9, c9, b9, m9, d9, rfl, hr, hb⟩; have P := hid (hr.base B.out.size); have LX := hid (LX.out.old hb); have LS := hid (LS.out.old hb); have X := hid (X.out.old hb); have S := hid (S.out.old hb); have K := hid (K.out.old hb); have LK := hid (LK.out.old hb); (try have C := hid (C.out.old hb)); (try have R := hid (R.out.old hb)); have B := hid (B.out.trans (hb.mono B.out.size)); clear hr hb; have q0 := LX.out.c 0 (v := .bool s1) rfl; have q1 := LX.out.c 1 (v := .slice a1 n1 c1) rfl; have q2 := LX.out.c 2 (v := .slice b1 m1 d1) rfl; have q3 := LK.out.c 0 (v := .bool s8) rfl; have q4 := LK.out.c 1 (v := .slice a8 n8 c8) rfl; have q5 := LK.out.c 2 (v := .slice b8 m8 d8) rfl; have q6 := LS.out.c 0 (v := .bool s2) rfl; have q7 := LS.out.c 1 (v := .slice a2 n2 c2) rfl; have q8 := LS.out.c 2 (v := .slice b2 m2 d2) rfl) | (go_at_call 30; (with_reducible refine (mul_x S.out K.out.ra rfl E2.out).mono ?_); rintro e w10 ⟨s10, a10, n10, c10, b10, m10, d10, rfl, hr, hb⟩; have R := hid (hr.base B.out.size); have LX := hid (LX.out.old hb); have LS := hid (LS.out.old hb); have X := hid (X.out.old hb); have S := hid (S.out.old hb); have K := hid (K.out.old hb); have LK := hid (LK.out.old hb); (try have C := hid (C.out.old hb)); (try have P := hid (P.out.old hb)); have B := hid (B.out.trans (hb.mono B.out.size)); clear hr hb; have q0 := LX.out.c 0 (v := .bool s1) rfl; have q1 := LX.out.c 1 (v := .slice a1 n1 c1) rfl; have q2 := LX.out.c 2 (v := .slice b1 m1 d1) rfl; have q3 := LK.out.c 0 (v := .bool s8) rfl; have q4 := LK.out.c 1 (v := .slice a8 n8 c8) rfl; have q5 := LK.out.c 2 (v := .slice b8 m8 d8) rfl; have q6 := LS.out.c 0 (v := .bool s2) rfl; have q7 := LS.out.c 1 (v := .slice a2 n2 c2) rfl; have q8 := LS.out.c 2 (v := .slice b2 m2 d2) rfl) | (go_at_call 29; (with_reducible refine (count_x P.out.ra R.out.ra E3.out E4.out E5.out).mono ?_); rintro e w11 ⟨s11, a11, n11, c11, b11, m11, d11, rfl, hr, hb⟩; have C := hid (hr.base B.out.size); have LX := hid (LX.out.old hb); have LS := hid (LS.out.old hb); have X := hid (X.out.old hb); have S := hid (S.out.old hb); have K := hid (K.out.old hb); have LK := hid (LK.out.old hb); (try have P := hid (P.out.old hb)); (try have R := hid (R.out.old hb)); have B := hid (B.out.trans (hb.mono B.out.size)); clear hr hb; have q0 := LX.out.c 0 (v := .bool s1) rfl; have q1 := LX.out.c 1 (v := .slice a1 n1 c1) rfl; have q2 := LX.out.c 2 (v := .slice b1 m1 d1) rfl; have q3 := LK.out.c 0 (v := .bool s8) rfl; have q4 := LK.out.c 1 (v := .slice a8 n8 c8) rfl; have q5 := LK.out.c 2 (v := .slice b8 m8 d8) rfl; have q6 := LS.out.c 0 (v := .bool s2) rfl; have q7 := LS.out.c 1 (v := .slice a2 n2 c2) rfl; have q8 := LS.out.c 2 (v := .slice b2 m2 d2) rfl) | (go_at_call 19; (with_reducible refine (sign_zero C.out.ra).mono ?_); rintro e w12 ⟨rfl, hb⟩; have LX := hid (LX.out.old hb); have LS := hid (LS.out.old hb); have X := hid (X.out.old hb); have S := hid (S.out.old hb); have K := hid (K.out.old hb); have LK := hid (LK.out.old hb); (try have C := hid (C.out.old hb)); (try have P := hid (P.out.old hb)); (try have R := hid (R.out.old hb)); have B := hid (B.out.trans (hb.mono B.out.size)); clear hb; have q0 := LX.out.c 0 (v := .bool s1) rfl; have q1 := LX.out.c 1 (v := .slice a1 n1 c1) rfl; have q2 := LX.out.c 2 (v := .slice b1 m1 d1) rfl; have q3 := LK.out.c 0 (v := .bool s8) rfl; have q4 := LK.out.c 1 (v := .slice a8 n8 c8) rfl; have q5 := LK.out.c 2 (v := .slice b8 m8 d8) rfl; have q6 := LS.out.c 0 (v := .bool s2) rfl; have q7 := LS.out.c 1 (v := .slice a2 n2 c2) rfl; have q8 := LS.out.c 2 (v := .slice b2 m2 d2) rfl))
        clear q0 q1 q2 q3 q4 q5 q6 q7 q8
        go_wp2
        go_roundw
        case rel => exact ⟨k + 1, by omega, by omega, by go_num, B, LX, LS, X, S⟩
        case measure => simp [intOf]; omega
      · have hl2 : ¬ (k : Int) < (dq : Int) := by omega
        go_wp2
        go_ret
        exact ⟨rfl, B.out⟩
end Go.Proofs.YtookglpeieennaaGreat
