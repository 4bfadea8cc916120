/- Merged: Wq Ra Rb Rc Rd1 Re Rf Rg. -/
import Derived.Test.YteanocjkdehhgaaWwm
import Derived.Test.YteanocjkdehhgaaGcd
import Derived.Test.YteanocjkdehhgaaWsm
import Derived.Test.YteanocjkdehhgaaGcf
/- The program's integer is given out: its slice is the number's own, or nil. -/
namespace Go.Proofs.Yteanocjkdehhgaa
open Go.RowKit
open Go.Lib (hid)
set_option linter.unusedVariables false
variable {Q : Rest}

def GivV (v : Value) (lo : Nat) (s : Bool) (L : List Int) (w : World) (e : Ending) (w' : World) : Prop := ∃ u, e = .returned (.agg #[.bool s, u]) ∧ Ints w' lo u L ∧ (u = v ∨ u = .slice none 0 0) ∧ Below w.heap.size w w'
theorem GivV_mk {v : Value} {lo : Nat} {s t : Bool} {L M : List Int} {w w' : World} {u : Value} (hv : u = v ∨ u = .slice none 0 0) (hs : t = s) (hL : M = L) (h : Ints w' lo u M) (hb : Below w.heap.size w w') : GivV v lo s L w (.returned (.agg #[.bool t, u])) w' := by
  subst hs; subst hL; exact ⟨u, rfl, h, hv, hb⟩
set_option maxRecDepth 100000 in
set_option maxHeartbeats 1600000 in
theorem bigInt_same (lo : Nat) (s : Bool) (N : Nat) (v : Value) (V : Int) (h0 : 0 ≤ V) (w : World) (h : IsNat (wholeQ s) w (fun k => lo ≤ k) N v (rep V.toNat)) :
    Calls Try.prog 192 #[.pointer (some ⟨N, 0, none⟩)] w (GivV v lo (gzs (sval s V)) (gzl (sval s V)) w) := by
  have H := hid (h.old (below_new' (o := .cells #[.bool false, .slice none 0 0] 31)))
  have hl := Ints_len h.ints
  have K := hid (result_any (Q := wholeQ s) (fun k => lo ≤ k) N v (rep V.toNat) _ H.out)
  have BB := hid (below_new' (w := w) (o := .cells #[.bool false, .slice none 0 0] 31))
  have L0 := hid (Loc.new (w := w) (T := 31) (s := false) (v := .slice none 0 0))
  obtain ⟨ss, hs⟩ : ∃ t, t = gzs (sval s V) := ⟨_, rfl⟩
  obtain ⟨ll, hll⟩ : ∃ t, t = gzl (sval s V) := ⟨_, rfl⟩
  rw [← hs, ← hll]
  have HS := hid hs
  have HL := hid hll
  have hne : V ≠ 0 → 0 < (rep V.toNat).length := fun h => List.length_pos_iff.2 (rep_ne (by omega))
  have hno : V = 0 → rep V.toNat = [] := fun h => by subst h; exact rep_zero
  have hbig : 60 < (rep V.toNat).length ↔ pw 60 ≤ V := by
    have := Can_len (Can_rep V.toNat) (k := 60)
    rw [val_rep' h0] at this
    omega
  have hsl : ∃ a c, v = .slice a (rep V.toNat).length c := by
    obtain ⟨a, c, e, -⟩ := Ints_form h.ints
    exact ⟨a, c, e⟩
  obtain ⟨M, hM⟩ : ∃ M, M = rep V.toNat := ⟨_, rfl⟩
  rw [← hM] at K H hl hne hno hbig hsl
  have HM := hid hM
  have HNO := hid hno
  have HBIG := hid hbig
  have HNE := hid hne
  clear hM hs hll h hno hbig hne
  unfold maxLen at hl
  obtain ⟨a, c, rfl⟩ := hsl
  go_enter Try.func192, Try.ntmps192
  go_wp2_with fail
  generalize w.alloc (.cells #[.bool false, .slice none 0 0] 31) = W at H K BB L0 ⊢
  refine K.out.mono ?_
  rintro e w1 ⟨⟨u, T, rfl, hu⟩, rfl⟩
  have q0 := L0.out.c0
  have q1 := L0.out.c1
  have f0 := L0.out.f0 0
  have f1 := L0.out.f0 1
  have B2 := hid (show Below w.heap.size w ((W.setCell ⟨w.heap.size, 0, none⟩ (.bool false)).setCell ⟨w.heap.size, 1, none⟩ (.slice none 0 0)) from (BB.out.setCell (by simp) _).setCell (by simp) _)
  rcases hu with ⟨rfl, hT, h6⟩ | ⟨rfl, hT, h6⟩
  · obtain rfl : M = T := hT.symm
    by_cases hz : M.length = 0
    · have hz' : ((M.length : Int) == 0) = true := by rw [hz]; rfl
      have R := hid (show GivV (.slice a M.length c) lo ss ll w (.returned (.agg #[.bool false, .slice none 0 0])) ((W.setCell ⟨w.heap.size, 0, none⟩ (.bool false)).setCell ⟨w.heap.size, 1, none⟩ (.slice none 0 0)) from by
        have hV : V = 0 := Classical.byContradiction fun h => by have := HNE.out h; omega
        refine GivV_mk (.inr rfl) ?_ ?_ (Ints_nil _ _) B2.out
        · rw [HS.out, hV]; cases s <;> simp [sval, gzs]
        · rw [HL.out, hV]; cases s <;> simp [sval, gzl_zero])
      clear hz
      go_wp2
      exact bodyPost_ret (v := .agg #[.bool false, .slice none 0 0]) (by simp [results, Try.results192, go_sem, q0, q1]) rfl R.out
    · have hz' : ((M.length : Int) == 0) = false := beq_eq_false_iff_ne.2 (by omega)
      have hn := H.out.neg
      have HZ := hid hz
      have B3 := hid (show Below w.heap.size w ((W.setCell ⟨w.heap.size, 0, none⟩ (.bool s)).setCell ⟨w.heap.size, 1, none⟩ (.slice a M.length c)) from (BB.out.setCell (by simp) _).setCell (by simp) _)
      have n1 := L0.out.ne (by decide) H.out.ints
      have R := hid (show GivV (.slice a M.length c) lo ss ll w (.returned (.agg #[.bool s, .slice a M.length c])) ((W.setCell ⟨w.heap.size, 0, none⟩ (.bool s)).setCell ⟨w.heap.size, 1, none⟩ (.slice a M.length c)) from by
        have hV : V ≠ 0 := fun h => HZ.out (by rw [HNO.out h]; rfl)
        have hlt : V < pw 60 := by have := HBIG.out; omega
        refine GivV_mk (.inl rfl) ?_ ?_ (Ints_set (Ints_set (Ints_rebase H.out.ints H.out.own) n1) n1) B3.out
        · rw [HS.out, gzs_sval (by omega) hlt]
        · rw [HL.out, gzl_sval h0, capped_of hlt, HM.out])
      clear hz n1
      go_wp2
      exact bodyPost_ret (v := .agg #[.bool s, .slice a M.length c]) (by simp [results, Try.results192, go_sem, q0, q1]) rfl R.out
  · obtain rfl : [] = T := hT.symm
    have R := hid (show GivV (.slice a M.length c) lo ss ll w (.returned (.agg #[.bool false, .slice none 0 0])) ((W.setCell ⟨w.heap.size, 0, none⟩ (.bool false)).setCell ⟨w.heap.size, 1, none⟩ (.slice none 0 0)) from by
      have hV : pw 60 ≤ ((sval s V).natAbs : Int) := by rw [sval_abs h0]; exact HBIG.out.1 h6
      exact GivV_mk (.inr rfl) (by rw [HS.out, gzs_big hV]) (by rw [HL.out, gzl_big hV]) (Ints_nil _ _) B2.out)
    go_wp2
    exact bodyPost_ret (v := .agg #[.bool false, .slice none 0 0]) (by simp [results, Try.results192, go_sem, q0, q1]) rfl R.out
end Go.Proofs.Yteanocjkdehhgaa

/- Fractions as pairs of integers: what is small enough, what a struct of a sign, limbs and limbs stands for; the arithmetic of the functions. No program text. -/
namespace Go.Proofs.Yteanocjkdehhgaa
open Go.RowKit
open Go.Lib (hid)
set_option linter.unusedVariables false

/-- A fraction is small enough: numerator and denominator have at most 24 limbs. -/
def fit (x : Rat) : Prop := (x.num.natAbs : Int) < pw 24 ∧ (x.den : Int) < pw 24
instance (x : Rat) : Decidable (fit x) := inferInstanceAs (Decidable (_ ∧ _))
def capF (x : Rat) : Option Rat := if fit x then some x else none
/-- Numerator and denominator; 0 and 0 where there is no fraction. -/
def qn : Option Rat → Int | none => 0 | some x => x.num
def qd : Option Rat → Int | none => 0 | some x => x.den
/-- A struct of a sign, limbs and limbs is a fraction. -/
def rok (s : Bool) (A D : List Int) : Bool := bok s A && nok D && decide (0 < D.length) && decide (A.length ≤ 24) && decide (D.length ≤ 24) && decide (G (val A) (val D) = 1)
def rval (s : Bool) (A D : List Int) : Option Rat := if rok s A D then some (Rat.divInt (sval s (val A)) (val D)) else none
def bq (f : Rat → Rat → Option Rat) : Option Rat → Option Rat → Option Rat
  | some x, some y => f x y
  | _, _ => none
/-- The fraction n / d, if d is not 0 and it is small enough. -/
def mkFr (n d : Int) : Option Rat := if d = 0 then none else capF (Rat.divInt n d)
def addF (x y : Rat) : Option Rat := capF (x + y)
def subF (x y : Rat) : Option Rat := capF (x - y)
def mulF (x y : Rat) : Option Rat := capF (x * y)
def divF (x y : Rat) : Option Rat := if y = 0 then none else capF (x / y)

theorem sval_natAbs (s : Bool) (X : Int) : (sval s X).natAbs = X.natAbs := by cases s <;> simp [sval]
theorem sval_sign {s : Bool} {X : Int} (h : 0 < X) : (sval s X).sign = sval s 1 := by
  cases s
  · simp [sval, Int.sign_eq_one_of_pos h]
  · simp [sval, Int.sign_neg, Int.sign_eq_one_of_pos h]
theorem sval_div (s : Bool) (X g : Int) (h : g ∣ X) : sval s X / g = sval s (X / g) := by
  cases s
  · rfl
  · exact Int.neg_ediv_of_dvd h
theorem sval_sval (s t : Bool) (X : Int) : sval t 1 * sval s X = sval (s != t) X := by cases s <;> cases t <;> simp [sval]
theorem gcd_sval (s t : Bool) {X Y : Int} (hX : 0 ≤ X) (hY : 0 ≤ Y) : ((sval t Y).gcd (sval s X) : Int) = G X Y := by
  unfold G Int.gcd
  rw [sval_natAbs, sval_natAbs, Nat.gcd_comm, show X.natAbs = X.toNat by omega, show Y.natAbs = Y.toNat by omega]
theorem G_dvd_left {X Y : Int} (hX : 0 ≤ X) : G X Y ∣ X := by
  unfold G
  have h := Nat.gcd_dvd_left X.toNat Y.toNat
  have := Int.ofNat_dvd.2 h
  rwa [Int.toNat_of_nonneg hX] at this
theorem G_dvd_right {X Y : Int} (hY : 0 ≤ Y) : G X Y ∣ Y := by
  unfold G
  have h := Nat.gcd_dvd_right X.toNat Y.toNat
  have := Int.ofNat_dvd.2 h
  rwa [Int.toNat_of_nonneg hY] at this
theorem G_pos {X Y : Int} (hY : 0 < Y) : 0 < G X Y := by
  unfold G
  have := Nat.gcd_pos_of_pos_right X.toNat (show 0 < Y.toNat by omega)
  omega
/-- What the reduced fraction's parts are. -/
theorem red_num (s t : Bool) {X Y : Int} (hX : 0 ≤ X) (hY : 0 < Y) : (Rat.divInt (sval s X) (sval t Y)).num = sval (s != t) (X / G X Y) := by
  rw [Rat.num_divInt, gcd_sval s t hX (by omega), sval_sign hY, sval_sval, sval_div _ _ _ (G_dvd_left hX)]
theorem red_den (s t : Bool) {X Y : Int} (hX : 0 ≤ X) (hY : 0 < Y) : ((Rat.divInt (sval s X) (sval t Y)).den : Int) = Y / G X Y := by
  have h0 : sval t Y ≠ 0 := by cases t <;> simp [sval] <;> omega
  rw [Rat.den_divInt, if_neg h0, Int.natCast_ediv, gcd_sval s t hX (by omega), sval_natAbs]
  congr 1
  omega
theorem sval_eq_zero {s : Bool} {X : Int} : sval s X = 0 ↔ X = 0 := by cases s <;> simp [sval]

theorem rok_iff {s : Bool} {A D : List Int} : rok s A D = true ↔ bok s A = true ∧ nok D = true ∧ 0 < D.length ∧ A.length ≤ 24 ∧ D.length ≤ 24 ∧ G (val A) (val D) = 1 := by
  unfold rok
  simp only [Bool.and_eq_true, decide_eq_true_eq, and_assoc]
theorem rval_no {s : Bool} {A D : List Int} (h : rok s A D = false) : rval s A D = none := by simp [rval, h]
theorem fit_pos (x : Rat) : (0 : Int) < x.den := by have := x.den_pos; omega
theorem rval_yes {s : Bool} {A D : List Int} (h : rok s A D = true) : ∃ x, rval s A D = some x ∧ x.num = sval s (val A) ∧ (x.den : Int) = val D ∧ fit x := by
  obtain ⟨a1, a2, a3, a4, a5, a6⟩ := rok_iff.1 h
  have cA := (nok_iff.1 (bok_iff.1 a1).1).2
  have cD := (nok_iff.1 a2).2
  have h0 := val_nonneg cA.1
  have hD : 0 < val D := by
    have := val_nonneg cD.1
    rcases Int.lt_or_eq_of_le this with h | h
    · exact h
    · have := Can_val cD h.symm; subst this; simp at a3
  have e1 := red_num s false h0 hD
  have e2 := red_den s false h0 hD
  rw [show sval false (val D) = val D from rfl] at e1 e2
  rw [a6, Int.ediv_one] at e1 e2
  rw [show (s != false) = s by cases s <;> rfl] at e1
  refine ⟨_, by simp [rval, h], e1, e2, ?_, ?_⟩
  · rw [e1, sval_natAbs]
    have := (Can_len cA).1 a4
    omega
  · rw [e2]; exact (Can_len cD).1 a5
theorem capF_yes {x : Rat} (h : fit x) : capF x = some x := by simp [capF, h]
theorem mkFr_parts (s t : Bool) {X Y : Int} (hX : 0 ≤ X) (hY : 0 ≤ Y) (h : Y = 0 ∨ ¬ (X / G X Y < pw 24 ∧ Y / G X Y < pw 24)) : mkFr (sval s X) (sval t Y) = none := by
  unfold mkFr
  by_cases h0 : Y = 0
  · rw [if_pos (sval_eq_zero.2 h0)]
  · rw [if_neg (fun h => h0 (sval_eq_zero.1 h))]
    unfold capF
    rw [if_neg]
    rintro ⟨f1, f2⟩
    rcases h with h | h
    · exact h0 h
    · rw [red_num s t hX (by omega), sval_natAbs] at f1
      rw [red_den s t hX (by omega)] at f2
      exact h ⟨by omega, f2⟩
theorem mkFr_some (s t : Bool) {X Y : Int} (hX : 0 ≤ X) (hY : 0 < Y) (h1 : X / G X Y < pw 24) (h2 : Y / G X Y < pw 24) :
    ∃ x, mkFr (sval s X) (sval t Y) = some x ∧ x.num = sval (s != t) (X / G X Y) ∧ (x.den : Int) = Y / G X Y := by
  have e1 := red_num s t hX hY
  have e2 := red_den s t hX hY
  refine ⟨_, ?_, e1, e2⟩
  unfold mkFr
  rw [if_neg (fun h => by have := sval_eq_zero.1 h; omega)]
  refine capF_yes ⟨?_, by rw [e2]; exact h2⟩
  rw [e1, sval_natAbs]
  have : 0 ≤ X / G X Y := Int.ediv_nonneg hX (Int.le_of_lt (G_pos hY))
  omega
theorem mkFr_add (x y : Rat) : mkFr (x.num * y.den + y.num * x.den) (x.den * y.den) = addF x y := by
  have hx := fit_pos x
  have hy := fit_pos y
  unfold mkFr addF
  rw [if_neg (Int.mul_ne_zero (by omega) (by omega)), ← Rat.divInt_add_divInt _ _ (by omega) (by omega), Rat.num_divInt_den, Rat.num_divInt_den]
theorem mkFr_sub (x y : Rat) : mkFr (x.num * y.den - y.num * x.den) (x.den * y.den) = subF x y := by
  have hx := fit_pos x
  have hy := fit_pos y
  unfold mkFr subF
  rw [if_neg (Int.mul_ne_zero (by omega) (by omega)), ← Rat.divInt_sub_divInt _ _ (by omega) (by omega), Rat.num_divInt_den, Rat.num_divInt_den]
theorem mkFr_mul (x y : Rat) : mkFr (x.num * y.num) (x.den * y.den) = mulF x y := by
  have hx := fit_pos x
  have hy := fit_pos y
  unfold mkFr mulF
  rw [if_neg (Int.mul_ne_zero (by omega) (by omega)), ← Rat.divInt_mul_divInt, Rat.num_divInt_den, Rat.num_divInt_den]
theorem mkFr_div (x y : Rat) : mkFr (x.num * y.den) (y.num * x.den) = divF x y := by
  have hx := fit_pos x
  have hy := fit_pos y
  unfold mkFr divF
  by_cases h : y = 0
  · subst h; simp
  · have hn : y.num ≠ 0 := fun e => h (Rat.num_eq_zero.1 e)
    rw [if_neg (Int.mul_ne_zero hn (by omega)), if_neg h, Rat.div_def]
    congr 1
    conv => rhs; rw [← Rat.num_divInt_den x, ← Rat.num_divInt_den y, Rat.inv_divInt, Rat.divInt_mul_divInt]
    rw [Int.mul_comm y.num]
theorem sgn_cmp (x y : Rat) : sgn (x.num * y.den - y.num * x.den) = if x < y then -1 else if y < x then 1 else 0 := by
  unfold sgn
  have h1 : (x.num * y.den - y.num * x.den < 0) ↔ x < y := by rw [Rat.lt_iff]; omega
  have h2 : (0 < x.num * y.den - y.num * x.den) ↔ y < x := by rw [Rat.lt_iff]; omega
  simp only [h1, h2]
end Go.Proofs.Yteanocjkdehhgaa

/- Fractions: sizes, order. No program text. -/
namespace Go.Proofs.Yteanocjkdehhgaa
open Go.RowKit
open Go.Lib (hid)
set_option linter.unusedVariables false

/-- Numerator and denominator have at most k limbs. -/
def szq (x : Rat) (k : Nat) : Prop := (x.num.natAbs : Int) < pw k ∧ (x.den : Int) < pw k
theorem szq_fit {x : Rat} {k : Nat} (h : szq x k) (hk : k ≤ 24) : fit x := ⟨Int.lt_of_lt_of_le h.1 (pw_le hk), Int.lt_of_lt_of_le h.2 (pw_le hk)⟩
theorem szq_divInt {n d : Int} {k : Nat} (hn : (n.natAbs : Int) < pw k) (h0 : d ≠ 0) (hd : (d.natAbs : Int) < pw k) : szq (Rat.divInt n d) k := by
  have key : ∀ (s t : Bool) (X Y : Int), 0 ≤ X → 0 < Y → X < pw k → Y < pw k → szq (Rat.divInt (sval s X) (sval t Y)) k := by
    intro s t X Y hX hY h1 h2
    have hg := G_pos (X := X) hY
    refine ⟨?_, ?_⟩
    · rw [red_num s t hX hY, sval_natAbs]
      have a := Int.ediv_le_self (G X Y) hX
      have b : 0 ≤ X / G X Y := Int.ediv_nonneg hX (by omega)
      omega
    · rw [red_den s t hX hY]
      have a := Int.ediv_le_self (G X Y) (show 0 ≤ Y by omega)
      omega
  have hn' : n = sval (decide (n < 0)) n.natAbs := by by_cases h : n < 0 <;> simp [sval, h] <;> omega
  have hd' : d = sval (decide (d < 0)) d.natAbs := by by_cases h : d < 0 <;> simp [sval, h] <;> omega
  rw [hn', hd']
  exact key _ _ _ _ (by omega) (by omega) hn hd
theorem abs_mul {x y P Q : Int} (hx : (x.natAbs : Int) < P) (hy : (y.natAbs : Int) < Q) : ((x * y).natAbs : Int) < P * Q := by
  rw [Int.natAbs_mul, Int.natCast_mul]
  calc (x.natAbs : Int) * y.natAbs ≤ x.natAbs * Q := Int.mul_le_mul_of_nonneg_left (by omega) (by omega)
    _ < P * Q := Int.mul_lt_mul_of_pos_right hx (by omega)
theorem szq_mul {x y : Rat} {a b : Nat} (hx : szq x a) (hy : szq y b) : szq (x * y) (a + b) := by
  have h1 := fit_pos x
  have h2 := fit_pos y
  rw [← Rat.num_divInt_den x, ← Rat.num_divInt_den y, Rat.divInt_mul_divInt]
  refine szq_divInt ?_ (Int.mul_ne_zero (by omega) (by omega)) ?_
  · rw [pw_add]; exact abs_mul hx.1 hy.1
  · rw [pw_add]; exact abs_mul hx.2 hy.2
theorem szq_add {x y : Rat} {a b : Nat} (hx : szq x a) (hy : szq y b) : szq (x + y) (a + b + 1) := by
  have h1 := fit_pos x
  have h2 := fit_pos y
  have m1 := abs_mul hx.1 (show ((y.den : Int).natAbs : Int) < pw b from hy.2)
  have m2 := abs_mul hy.1 (show ((x.den : Int).natAbs : Int) < pw a from hx.2)
  have m3 := abs_mul (show ((x.den : Int).natAbs : Int) < pw a from hx.2) (show ((y.den : Int).natAbs : Int) < pw b from hy.2)
  rw [Int.mul_comm (pw b)] at m2
  rw [← pw_add] at m1 m2 m3
  have hs : pw (a + b + 1) = 1000000000 * pw (a + b) := rfl
  rw [← Rat.num_divInt_den x, ← Rat.num_divInt_den y, Rat.divInt_add_divInt _ _ (by omega) (by omega)]
  refine szq_divInt ?_ (Int.mul_ne_zero (by omega) (by omega)) ?_
  · omega
  · omega
theorem szq_neg {x : Rat} {a : Nat} (hx : szq x a) : szq (-x) a := ⟨by rw [Rat.neg_num, Int.natAbs_neg]; exact hx.1, hx.2⟩
theorem szq_sub {x y : Rat} {a b : Nat} (hx : szq x a) (hy : szq y b) : szq (x - y) (a + b + 1) := by
  rw [Rat.sub_eq_add_neg]; exact szq_add hx (szq_neg hy)
theorem szq_div {x y : Rat} {a b : Nat} (hx : szq x a) (hy : szq y b) (h0 : y ≠ 0) : szq (x / y) (a + b) := by
  rw [Rat.div_def]
  refine szq_mul hx ⟨?_, ?_⟩
  · rw [Rat.num_inv, Int.natAbs_mul]
    have hn : y.num ≠ 0 := fun e => h0 (Rat.num_eq_zero.1 e)
    rw [Int.natAbs_sign_of_ne_zero hn]
    simpa using hy.2
  · have hn : y.num ≠ 0 := fun e => h0 (Rat.num_eq_zero.1 e)
    rw [Rat.den_inv, if_neg hn]
    exact hy.1
/-- The order of two fractions. -/
def cmpF (x y : Rat) : Int := if x < y then -1 else if y < x then 1 else 0
theorem cmpF_eq (x y : Rat) : sgn (x.num * y.den - y.num * x.den) = cmpF x y := sgn_cmp x y
theorem cmpF_swap (x y : Rat) : cmpF y x = -cmpF x y := by
  unfold cmpF
  by_cases h1 : x < y <;> by_cases h2 : y < x <;> simp [h1, h2]
  exact (Rat.lt_iff_le_and_not_ge.1 h1).2 (Rat.le_of_lt h2)
theorem cmpF_add (x y z : Rat) : cmpF (x + z) (y + z) = cmpF x y := by
  unfold cmpF
  simp only [Rat.add_lt_add_right]
theorem cmpF_neg (x y : Rat) : cmpF (-x) (-y) = -cmpF x y := by
  rw [← cmpF_swap]
  unfold cmpF
  simp only [Rat.neg_lt_neg_iff]
theorem cmpF_sub (x y : Rat) : sgn (x - y).num = cmpF x y := by
  have := cmpF_eq (x - y) 0
  rw [Rat.zero_num, Rat.zero_den] at this
  rw [show (x - y).num = (x - y).num * (1 : Nat) - 0 * (x - y).den by simp, this]
  rw [← cmpF_add (x - y) 0 y, Rat.sub_add_cancel, Rat.zero_add]
theorem cmpF_zero (x y : Rat) : cmpF x y = 0 ↔ x = y := by
  unfold cmpF
  by_cases h1 : x < y
  · simp [h1]; exact Rat.ne_of_lt h1
  · by_cases h2 : y < x
    · simp [h1, h2]; exact Rat.ne_of_gt h2
    · simp [h1, h2]; exact Rat.le_antisymm (Rat.not_lt.1 h2) (Rat.not_lt.1 h1)
theorem cmpF_cases (x y : Rat) : (cmpF x y = -1 ∧ x < y) ∨ (cmpF x y = 0 ∧ x = y) ∨ (cmpF x y = 1 ∧ y < x) := by
  by_cases h1 : x < y
  · left; exact ⟨by simp [cmpF, h1], h1⟩
  · by_cases h2 : y < x
    · right; right; exact ⟨by simp [cmpF, h1, h2], h2⟩
    · right; left
      have : cmpF x y = 0 := by simp [cmpF, h1, h2]
      exact ⟨this, (cmpF_zero _ _).1 this⟩
def minF (x y : Rat) : Rat := if cmpF x y = 1 then y else x
def maxF (x y : Rat) : Rat := if cmpF x y = -1 then y else x
theorem minmax_cmp (x y : Rat) : cmpF (minF x y) (maxF x y) ≤ 0 := by
  unfold minF maxF
  rcases cmpF_cases x y with ⟨h, h'⟩ | ⟨h, h'⟩ | ⟨h, h'⟩
  · rw [if_neg (by omega), if_pos h, h]; decide
  · rw [if_neg (by omega), if_neg (by omega), (cmpF_zero x x).2 rfl]; decide
  · rw [if_pos h, if_neg (by omega), cmpF_swap, h]; decide
theorem minmax_add (x y : Rat) : minF x y + maxF x y = x + y := by
  unfold minF maxF
  rcases cmpF_cases x y with ⟨h, h'⟩ | ⟨h, h'⟩ | ⟨h, h'⟩
  · rw [if_neg (by omega), if_pos h]
  · rw [if_neg (by omega), if_neg (by omega), h']
  · rw [if_pos h, if_neg (by omega), Rat.add_comm]
theorem mul_div_self {x y : Rat} (h : y ≠ 0) : x * y / y = x := Rat.mul_div_cancel h
theorem add_sub_self (x y : Rat) : x + y - y = x := by rw [Rat.add_sub_cancel]
end Go.Proofs.Yteanocjkdehhgaa

/- Structs in blocks; the struct of a fraction: a sign, limbs and limbs. -/
namespace Go.Proofs.Yteanocjkdehhgaa
open Go.RowKit
open Go.Lib (hid)
set_option linter.unusedVariables false

/-- Block b holds the cells cs. -/
def LocA (T : TypeId) (w : World) (b : Nat) (cs : Array Value) : Prop := w.heap[b]? = some (.cells cs T (0, 0))
theorem LocA.lt {T : TypeId} {w : World} {b : Nat} {cs : Array Value} (h : LocA T w b cs) : b < w.heap.size := (Array.getElem?_eq_some_iff.1 h).1
theorem LocA.c {T : TypeId} {w : World} {b : Nat} {cs : Array Value} (h : LocA T w b cs) (i : Nat) {v : Value} (hv : cs[i]? = some v) : w.cell? ⟨b, i, none⟩ = some v := by
  unfold LocA at h; simp [World.cell?, h, hv]
theorem LocA.f {T : TypeId} {w : World} {b : Nat} {cs : Array Value} (h : LocA T w b cs) (i : Nat) : w.frozen? ⟨b, i, none⟩ = false := by
  unfold LocA at h; simp [World.frozen?, h]
theorem LocA.old {T : TypeId} {w w' : World} {b : Nat} {cs : Array Value} (h : LocA T w b cs) (hb : Below w.heap.size w w') : LocA T w' b cs := (hb.block _ h.lt).trans h
theorem LocA.new {T : TypeId} {w : World} {cs : Array Value} : LocA T (w.alloc (.cells cs T)) w.heap.size cs := heap_alloc_new w _
theorem LocA.at {T : TypeId} {w : World} {b : Nat} {cs : Array Value} (hb : b = w.heap.size) : LocA T (w.alloc (.cells cs T)) b cs := by subst hb; exact LocA.new
theorem LocA.new1 {T : TypeId} {w : World} {b : Nat} {cs : Array Value} {o : Go.Obj} (h : LocA T w b cs) : LocA T (w.alloc o) b cs := h.old below_new'
theorem LocA.drewN {T : TypeId} {w : World} {b : Nat} {cs : Array Value} (h : LocA T w b cs) (d : Nat) : LocA T (w.drewN d) b cs := h
theorem LocA.ne {T : TypeId} {w : World} {B b : Nat} {cs : Array Value} {u : Value} {L : List Int} (h : LocA T w b cs) (hT : T ≠ 3) (hi : Ints w B u L) : u.ownBlock ≠ some b := by
  rcases hi.2 with ⟨rfl, _⟩ | ⟨g, cap, cur, rfl, h2, h3, _⟩
  · simp [Value.ownBlock]
  · intro he
    have : g = b := by simpa [Value.ownBlock] using he
    subst this
    unfold LocA at h
    rw [h3] at h
    simp at h
    exact hT h.2.symm

/-- Two slices that read as A and D, of whatever height. -/
structure RL (w : World) (v u : Value) (A D : List Int) : Prop where
  a : ∃ b, Ints w b v A
  d : ∃ b, Ints w b u D
  la : A.length ≤ 1048576
  ld : D.length ≤ 1048576
theorem RL.old {w w' : World} {v u : Value} {A D : List Int} (h : RL w v u A D) (hb : Below w.heap.size w w') : RL w' v u A D := by
  obtain ⟨⟨b, i⟩, ⟨c, j⟩, l, m⟩ := h
  exact ⟨⟨b, Ints_old i hb⟩, ⟨c, Ints_old j hb⟩, l, m⟩
theorem RL.form {w : World} {v u : Value} {A D : List Int} (h : RL w v u A D) : ∃ (a : Option Addr) (c : Nat) (a' : Option Addr) (c' : Nat), v = .slice a A.length c ∧ u = .slice a' D.length c' := by
  obtain ⟨⟨b, i⟩, ⟨c, j⟩, l, m⟩ := h
  obtain ⟨a1, c1, rfl, -⟩ := Ints_form i
  obtain ⟨a2, c2, rfl, -⟩ := Ints_form j
  exact ⟨_, _, _, _, rfl, rfl⟩

/-- A fraction's struct of the call's own. -/
def OwnR (o : Option Rat) (w : World) (e : Ending) (w' : World) : Prop := ∃ v u, e = .returned (.agg #[.bool (gzs (qn o)), v, u]) ∧ Ints w' w.heap.size v (gzl (qn o)) ∧ Ints w' w.heap.size u (gzl (qd o)) ∧ (∀ k, v.ownBlock = some k → u.ownBlock ≠ some k) ∧ Below w.heap.size w w'
theorem nil_ne (k : Nat) (u : Value) : (Value.slice none 0 0).ownBlock = some k → u.ownBlock ≠ some k := by intro h; simp [Value.ownBlock] at h
theorem OwnR_mk {o : Option Rat} {s : Bool} {A D : List Int} {w w' : World} {e : Ending} {v u : Value} {B C : Nat} (hs : s = gzs (qn o)) (hA : A = gzl (qn o)) (hD : D = gzl (qd o)) (he : e = .returned (.agg #[.bool s, v, u])) (hB : w.heap.size ≤ B) (hC : w.heap.size ≤ C) (h1 : Ints w' B v A) (h2 : Ints w' C u D) (hd : ∀ k, v.ownBlock = some k → u.ownBlock ≠ some k) (hb : Below w.heap.size w w') : OwnR o w e w' := by
  rw [hs] at he
  rw [hA] at h1
  rw [hD] at h2
  exact ⟨v, u, he, Ints_base h1 hB, Ints_base h2 hC, hd, hb⟩
theorem gzl_nil : gzl 0 = [] := gzl_zero
theorem OwnR_none {o : Option Rat} {w w' : World} (ho : o = none) (hb : Below w.heap.size w w') : OwnR o w (.returned (.agg #[.bool false, .slice none 0 0, .slice none 0 0])) w' := by
  subst ho
  refine ⟨.slice none 0 0, .slice none 0 0, ?_, ?_, ?_, fun k h => nil_ne k _ h, hb⟩
  · show _ = Ending.returned (.agg #[.bool (gzs 0), .slice none 0 0, .slice none 0 0])
    rw [gzs_zero]
  · show Ints w' _ _ (gzl 0)
    rw [gzl_zero]; exact Ints_nil _ _
  · show Ints w' _ _ (gzl 0)
    rw [gzl_zero]; exact Ints_nil _ _

/-- A fraction that is there is small enough. -/
def fitO (o : Option Rat) : Prop := ∀ x, o = some x → fit x
theorem fitO_none : fitO none := fun x h => by cases h
theorem fitO_some {x : Rat} (h : fit x) : fitO (some x) := fun y e => by cases e; exact h
set_option maxRecDepth 100000 in
theorem pw24_60 : pw 24 < pw 60 := by decide
set_option maxRecDepth 100000 in
theorem rval_parts {o : Option Rat} (h : fitO o) : rval (gzs (qn o)) (gzl (qn o)) (gzl (qd o)) = o ∧ rok (gzs (qn o)) (gzl (qn o)) (gzl (qd o)) = o.isSome ∧ (gzl (qn o)).length ≤ 24 ∧ (gzl (qd o)).length ≤ 24 := by
  cases o with
  | none =>
    have e : rok (gzs 0) (gzl 0) (gzl 0) = false := by
      rw [gzs_zero, gzl_zero]; unfold rok; simp
    exact ⟨rval_no e, e, by simp [qn, gzl_zero], by simp [qd, gzl_zero]⟩
  | some x =>
    obtain ⟨f1, f2⟩ := h x rfl
    have h60 := pw24_60
    have hp := fit_pos x
    obtain ⟨k1, k2⟩ := gz_ok (Z := x.num) (by omega)
    have l1 : gzl x.num = rep (x.num.natAbs : Int).toNat := by unfold gzl; rw [capped_of (by omega)]
    have l2 : gzl (x.den : Int) = rep x.den := by unfold gzl; rw [capped_of (by omega)]; rfl
    have v1 : val (gzl x.num) = x.num.natAbs := by rw [l1, val_rep' (by omega)]
    have v2 : val (gzl (x.den : Int)) = x.den := by rw [l2, val_rep]
    have n1 : (gzl x.num).length ≤ 24 := by rw [l1]; exact rep_len' f1
    have n2 : (gzl (x.den : Int)).length ≤ 24 := by rw [l2]; exact rep_len' (V := (x.den : Int)) f2
    have hr : rok (gzs x.num) (gzl x.num) (gzl (x.den : Int)) = true := by
      refine rok_iff.2 ⟨k1, ?_, ?_, n1, n2, ?_⟩
      · rw [l2]; exact nok_iff.2 ⟨by rw [← l2]; omega, Can_rep _⟩
      · rw [l2]; exact List.length_pos_iff.2 (rep_ne (by omega))
      · rw [v1, v2]
        unfold G
        have := x.reduced
        exact congrArg Nat.cast this
    refine ⟨?_, hr, n1, n2⟩
    show rval (gzs x.num) (gzl x.num) (gzl (x.den : Int)) = some x
    unfold rval
    rw [if_pos hr, k2, v2, Rat.num_divInt_den]
theorem capF_no {x : Rat} (h : ¬ fit x) : capF x = none := by unfold capF; rw [if_neg h]
theorem fitO_cap (x : Rat) : fitO (capF x) := by
  intro y e
  by_cases h : fit x
  · rw [capF_yes h] at e; cases e; exact h
  · rw [capF_no h] at e; cases e
theorem fitO_mk (n d : Int) : fitO (mkFr n d) := by
  unfold mkFr
  by_cases h : d = 0
  · rw [if_pos h]; exact fitO_none
  · rw [if_neg h]; exact fitO_cap (Rat.divInt n d)
theorem fitO_rval (s : Bool) (A D : List Int) : fitO (rval s A D) := by
  cases h : rok s A D with
  | false => rw [rval_no h]; exact fitO_none
  | true => obtain ⟨x, e, _, _, f⟩ := rval_yes h; rw [e]; exact fitO_some f
theorem fitO_bq {f : Rat → Rat → Option Rat} (hf : ∀ x y, fitO (f x y)) : ∀ (o o' : Option Rat), fitO (bq f o o')
  | some x, some y => hf x y
  | some x, none => fitO_none
  | none, some y => fitO_none
  | none, none => fitO_none
theorem fitO_add (x y : Rat) : fitO (addF x y) := by unfold addF; exact fitO_cap (x + y)
theorem fitO_sub (x y : Rat) : fitO (subF x y) := by unfold subF; exact fitO_cap (x - y)
theorem fitO_mul (x y : Rat) : fitO (mulF x y) := by unfold mulF; exact fitO_cap (x * y)
theorem fitO_div (x y : Rat) : fitO (divF x y) := by
  unfold divF
  by_cases h : y = 0
  · rw [if_pos h]; exact fitO_none
  · rw [if_neg h]; exact fitO_cap (x / y)
end Go.Proofs.Yteanocjkdehhgaa

/- The program: a number that is 1, the limit of limbs, no common divisor, a valid fraction. -/
namespace Go.Proofs.Yteanocjkdehhgaa
open Go.RowKit
open Go.Lib (hid)
set_option linter.unusedVariables false

theorem ret_bo {a b : Bool} (h : a = b) : Ending.returned (.bool a) = .returned (.bool b) := by rw [h]
theorem isOne_row (a : Option Addr) (c : Nat) (A : List Int) (hA : A.length ≤ 1073741824) (w : World) (r : RowI w a A.length A) :
    Calls Try.prog 148 #[.slice a A.length c] w fun e w' => e = .returned (.bool (decide (A = [1]))) ∧ w = w' := by
  by_cases hl : A.length = 1
  · obtain ⟨x, rfl⟩ := List.length_eq_one_iff.1 hl
    obtain ⟨g, o, rfl, hg, hc⟩ := r.2 (by simp)
    have hc0 := hc 0 (by simp)
    simp only [Nat.add_zero, List.getElem_cons_zero] at hc0
    clear hc hl r
    by_cases hx : x = 1
    · subst hx
      go_enter Try.func148, Try.ntmps148
      go_wp2
      go_ret
      exact ⟨ret_bo (by simp), rfl⟩
    · have hx' : (x == 1) = false := beq_eq_false_iff_ne.2 hx
      have hd := hid (show false = decide ([x] = [1]) by simp [hx])
      go_enter Try.func148, Try.ntmps148
      go_wp2
      go_ret
      exact ⟨ret_bo hd.out, rfl⟩
  · have hl' : ((A.length : Int) == 1) = false := beq_eq_false_iff_ne.2 (by omega)
    have hd := hid (show false = decide (A = [1]) from (decide_eq_false fun e => hl (by rw [e]; rfl)).symm)
    clear hl
    go_enter Try.func148, Try.ntmps148
    go_wp2
    go_ret
    exact ⟨ret_bo hd.out, rfl⟩
theorem isOne_own (v : Value) (A : List Int) (hA : A.length ≤ 1073741824) (b : Nat) (w : World) (h : Ints w b v A) :
    Calls Try.prog 148 #[v] w fun e w' => e = .returned (.bool (decide (A = [1]))) ∧ w = w' := by
  obtain ⟨a, c, rfl, -, r, -⟩ := Ints_form h
  exact isOne_row a c A hA w r
theorem impl_NatOk_own (v : Value) (A : List Int) (hA : A.length ≤ 1073741824) (b : Nat) (w : World) (h : Ints w b v A) : Calls Try.prog 137 #[v] w (RetB (.bool (nok A)) w) := by
  obtain ⟨a, c, rfl, -, r, -⟩ := Ints_form h
  exact RetB_of_same (impl_NatOk a _ c A hA w r)
theorem spec_NatOk_own (v : Value) (A : List Int) (hA : A.length ≤ 1073741824) (b : Nat) (w : World) (h : Ints w b v A) : Calls Try.prog 125 #[v] w (RetB (.bool (nok A)) w) := by
  obtain ⟨a, c, rfl, -, r, -⟩ := Ints_form h
  exact RetB_of_same (spec_NatOk a _ c A hA w r)
theorem fitsRat_any (a a' : Option Addr) (n n' c c' : Nat) (hn : n ≤ 1073741824) (hn' : n' ≤ 1073741824) (w : World) :
    Calls Try.prog 138 #[.slice a n c, .slice a' n' c'] w fun e w' => e = .returned (.bool (decide (n ≤ 24) && decide (n' ≤ 24))) ∧ w = w' := by
  by_cases h1 : (n : Int) ≤ 24
  · by_cases h2 : (n' : Int) ≤ 24
    · go_enter Try.func138, Try.ntmps138
      go_wp2
      go_ret
      exact ⟨ret_bo (by simp; omega), rfl⟩
    · go_enter Try.func138, Try.ntmps138
      go_wp2
      go_ret
      exact ⟨ret_bo (by simp; omega), rfl⟩
  · go_enter Try.func138, Try.ntmps138
    go_wp2
    go_ret
    exact ⟨ret_bo (by simp; omega), rfl⟩
theorem vpos {M : List Int} (h : nok M = true) (h2 : M ≠ []) : 0 < val M := by
  have h0 := val_nonneg (nok_lim h)
  rcases Int.lt_or_eq_of_le h0 with h1 | h1
  · exact h1
  · exact absurd (Can_val (nok_iff.1 h).2 h1.symm) h2
theorem rep_one {n : Nat} : rep n = [1] ↔ n = 1 := by
  constructor
  · intro h
    have := val_rep n
    rw [h] at this
    simp [val] at this
    omega
  · rintro rfl
    rw [rep_pos (by decide), show 1 / 1000000000 = 0 from rfl, rep_zero]
    rfl
theorem G_one {x : Int} : G x 1 = 1 := by unfold G; simp

end Go.Proofs.Yteanocjkdehhgaa

/- The program: no common divisor; a valid fraction. -/
namespace Go.Proofs.Yteanocjkdehhgaa
open Go.RowKit
open Go.Lib (hid)
set_option linter.unusedVariables false

set_option maxRecDepth 100000 in
set_option maxHeartbeats 3200000 in
theorem hasNo_own (v u : Value) (A D : List Int) (nA : nok A = true) (nD : nok D = true) (b1 b2 : Nat) (w : World) (h1 : Ints w b1 v A) (h2 : Ints w b2 u D) :
    Calls Try.prog 139 #[v, u] w (RetB (.bool (decide (G (val A) (val D) = 1))) w) := by
  have hA : A.length ≤ 1073741824 := by have := nok_len nA; omega
  have hD : D.length ≤ 1073741824 := by have := nok_len nD; omega
  have KG := hid (fun (W : World) (h1 : Ints W b1 v A) (h2 : Ints W b2 u D) => impl_NatGcd v u A D hA hD b1 b2 W h1 h2)
  have K1 := hid (isOne_own u D hD b2 w h2)
  have I1 := hid h1
  have I2 := hid h2
  obtain ⟨z, hz⟩ : ∃ z, z = decide (G (val A) (val D) = 1) := ⟨_, rfl⟩
  have HZ := hid hz
  rw [← hz]
  clear hz
  obtain ⟨a, c, rfl, -⟩ := Ints_form h1
  obtain ⟨a', c', rfl, -⟩ := Ints_form h2
  rw [gcdR_yes nA nD] at KG
  have g0 : 0 ≤ G (val A) (val D) := G_nonneg _ _
  obtain ⟨M, hM⟩ : ∃ M, M = rep (G (val A) (val D)).toNat := ⟨_, rfl⟩
  rw [← hM] at KG
  have lM : M.length ≤ 1073741824 := by rw [hM]; have := rep_len (V := G (val A) (val D)) (G_le (val_nonneg (nok_lim nA)) (val_nonneg (nok_lim nD)) (nok_lt nA) (nok_lt nD)); omega
  have HE := hid (show decide (M = [1]) = z by rw [HZ.out, hM]; exact decide_eq_decide.2 (rep_one.trans (by omega)))
  clear hM h1 h2
  obtain ⟨d, hd⟩ : ∃ d, d = decide (D = [1]) := ⟨_, rfl⟩
  rw [← hd] at K1
  cases d with
  | true =>
    have hE := hid (show z = true by
      have h := of_decide_eq_true hd.symm
      rw [HZ.out, h]
      simp [val, G_one])
    clear hd HE g0
    go_enter Try.func139, Try.ntmps139
    go_wp2_with fail
    (with_reducible refine (K1.out).mono ?_)
    rintro e w1 ⟨rfl, rfl⟩
    go_wp2
    go_ret
    exact ⟨ret_bo hE.out.symm, Below.refl _ _⟩
  | false =>
    clear hd g0
    go_enter Try.func139, Try.ntmps139
    go_wp2_with fail
    (with_reducible refine (K1.out).mono ?_)
    rintro e w1 ⟨rfl, rfl⟩
    go_wp2_with fail
    (with_reducible refine (KG.out _ I1.out I2.out).mono ?_)
    rintro e w2 ⟨g, rfl, ig, b1⟩
    have K2 := hid (isOne_own g M lM _ w2 ig)
    rw [HE.out] at K2
    have B := hid b1
    clear ig b1 HE
    go_wp2_with fail
    (with_reducible refine (K2.out).mono ?_)
    rintro e w3 ⟨rfl, rfl⟩
    go_wp2
    go_ret
    exact ⟨rfl, B.out⟩

set_option maxRecDepth 100000 in
set_option maxHeartbeats 3200000 in
theorem impl_RatOk (s : Bool) (v u : Value) (A D : List Int) (w : World) (h : RL w v u A D) :
    Calls Try.prog 128 #[.agg #[.bool s, v, u]] w (RetB (.bool (rok s A D)) w) := by
  have hA : A.length ≤ 1073741824 := by have := h.la; omega
  have hD : D.length ≤ 1073741824 := by have := h.ld; omega
  have B := hid (below_new' (w := w) (o := .cells #[.bool s, v, u] 33))
  have LX := hid (LocA.at (T := 33) (w := w) (b := w.heap.size) (cs := #[.bool s, v, u]) rfl)
  obtain ⟨b1, i1⟩ := h.a
  obtain ⟨b2, i2⟩ := h.d
  have I1 := hid (Ints_old i1 B.out)
  have I2 := hid (Ints_old i2 B.out)
  have K1 := hid (fun (W : World) (h : Ints W b1 v A) => impl_BigIntOk_own s v A hA b1 W h)
  have K2 := hid (fun (W : World) (h : Ints W b2 u D) => impl_NatOk_own u D hD b2 W h)
  have K4 := hid (fun (nA : nok A = true) (nD : nok D = true) (W : World) (h1 : Ints W b1 v A) (h2 : Ints W b2 u D) => hasNo_own v u A D nA nD b1 b2 W h1 h2)
  obtain ⟨z, hz⟩ : ∃ z, z = rok s A D := ⟨_, rfl⟩
  have HZ := hid hz
  rw [← hz]
  clear hz
  obtain ⟨a, c, rfl, -⟩ := Ints_form i1
  obtain ⟨a', c', rfl, -⟩ := Ints_form i2
  have K3 := hid (fun (W : World) => fitsRat_any a a' A.length D.length c c' hA hD W)
  obtain ⟨p4, hp4⟩ : ∃ p, p = decide (G (val A) (val D) = 1) := ⟨_, rfl⟩
  rw [← hp4] at K4
  obtain ⟨p3, hp3⟩ : ∃ p, p = (decide (A.length ≤ 24) && decide (D.length ≤ 24)) := ⟨_, rfl⟩
  rw [← hp3] at K3
  obtain ⟨p2, hp2⟩ : ∃ p, p = nok D := ⟨_, rfl⟩
  rw [← hp2] at K2
  obtain ⟨p1, hp1⟩ : ∃ p, p = bok s A := ⟨_, rfl⟩
  rw [← hp1] at K1
  have HR := hid (show rok s A D = (p1 && p2 && decide (0 < D.length) && p3 && p4) by rw [hp1, hp2, hp3, hp4]; unfold rok; simp only [Bool.and_assoc])
  have NA := hid (show p1 = true → nok A = true from fun h => (bok_iff.1 (hp1.symm.trans h)).1)
  have ND := hid (show p2 = true → nok D = true from fun h => hp2.symm.trans h)
  clear hp1 hp2 hp3 hp4 h i1 i2
  generalize hW : w.alloc (.cells #[.bool s, .slice a A.length c, .slice a' D.length c'] 33) = W0 at B LX I1 I2
  have HW := hid hW
  clear hW
  cases p1 with
  | false =>
    have hE := hid (show z = false by rw [HZ.out, HR.out]; rfl)
    go_enter Try.func128, Try.ntmps128
    go_wp2_with fail
    rw [HW.out]
    (with_reducible refine (K1.out _ I1.out).mono ?_)
    rintro e w1 ⟨rfl, b1⟩
    have B := hid (B.out.trans (b1.mono B.out.size))
    clear b1
    go_wp2
    go_ret
    exact ⟨ret_bo hE.out.symm, B.out⟩
  | true =>
  cases p2 with
  | false =>
    have hE := hid (show z = false by rw [HZ.out, HR.out]; rfl)
    go_enter Try.func128, Try.ntmps128
    go_wp2_with fail
    rw [HW.out]
    (with_reducible refine (K1.out _ I1.out).mono ?_)
    rintro e w1 ⟨rfl, b1⟩
    have I2 := hid (Ints_old I2.out b1)
    have LX := hid (LX.out.old b1)
    have B := hid (B.out.trans (b1.mono B.out.size))
    have q0 := LX.out.c 2 rfl
    clear b1
    go_wp2_with fail
    (with_reducible refine (K2.out _ I2.out).mono ?_)
    rintro e w2 ⟨rfl, b1⟩
    have B := hid (B.out.trans (b1.mono B.out.size))
    clear b1 q0
    go_wp2
    go_ret
    exact ⟨ret_bo hE.out.symm, B.out⟩
  | true =>
  by_cases hd0 : D.length = 0
  · have hE := hid (show z = false by rw [HZ.out, HR.out]; simp [hd0])
    have hd0' : ((D.length : Int) == 0) = true := by simp [hd0]
    clear hd0
    go_enter Try.func128, Try.ntmps128
    go_wp2_with fail
    rw [HW.out]
    (with_reducible refine (K1.out _ I1.out).mono ?_)
    rintro e w1 ⟨rfl, b1⟩
    have I2 := hid (Ints_old I2.out b1)
    have LX := hid (LX.out.old b1)
    have B := hid (B.out.trans (b1.mono B.out.size))
    have q0 := LX.out.c 2 rfl
    clear b1
    go_wp2_with fail
    (with_reducible refine (K2.out _ I2.out).mono ?_)
    clear q0
    rintro e w2 ⟨rfl, b1⟩
    have LX := hid (LX.out.old b1)
    have B := hid (B.out.trans (b1.mono B.out.size))
    have q0 := LX.out.c 2 rfl
    clear b1
    go_wp2
    go_ret
    exact ⟨ret_bo hE.out.symm, B.out⟩
  · have hE := hid (show z = (p3 && p4) by rw [HZ.out, HR.out, decide_eq_true (show 0 < D.length by omega)]; simp)
    have hd0' : ((D.length : Int) == 0) = false := beq_eq_false_iff_ne.2 (by omega)
    clear hd0
    go_enter Try.func128, Try.ntmps128
    go_wp2_with fail
    rw [HW.out]
    (with_reducible refine (K1.out _ I1.out).mono ?_)
    rintro e w1 ⟨rfl, b1⟩
    have I1 := hid (Ints_old I1.out b1)
    have I2 := hid (Ints_old I2.out b1)
    have LX := hid (LX.out.old b1)
    have B := hid (B.out.trans (b1.mono B.out.size))
    have q0 := LX.out.c 2 rfl
    clear b1
    go_wp2_with fail
    (with_reducible refine (K2.out _ I2.out).mono ?_)
    clear q0
    rintro e w2 ⟨rfl, b1⟩
    have I1 := hid (Ints_old I1.out b1)
    have I2 := hid (Ints_old I2.out b1)
    have LX := hid (LX.out.old b1)
    have B := hid (B.out.trans (b1.mono B.out.size))
    have q0 := LX.out.c 1 rfl
    have q1 := LX.out.c 2 rfl
    clear b1
    go_wp2_with fail
    (with_reducible refine (K3.out _).mono ?_)
    rintro e w3 ⟨rfl, rfl⟩
    cases p3 with
    | false =>
      go_wp2
      go_ret
      exact ⟨ret_bo hE.out.symm, B.out⟩
    | true =>
      go_wp2_with fail
      (with_reducible refine (K4.out (NA.out (by simp)) (ND.out (by simp)) _ I1.out I2.out).mono ?_)
      rintro e w4 ⟨rfl, b1⟩
      have B := hid (B.out.trans (b1.mono B.out.size))
      clear b1 q0 q1
      go_wp2
      go_ret
      exact ⟨ret_bo hE.out.symm, B.out⟩
end Go.Proofs.Yteanocjkdehhgaa

/- The program: RatMake, RatOf, RatFromInt. -/
namespace Go.Proofs.Yteanocjkdehhgaa
open Go.RowKit
open Go.Lib (hid)
set_option linter.unusedVariables false

/-- RatMake on signs and limbs. -/
def mk2 (s : Bool) (A : List Int) (t : Bool) (B : List Int) : Option Rat := if bok s A && bok t B then mkFr (sval s (val A)) (sval t (val B)) else none
theorem mk2_no {s t : Bool} {A B : List Int} (h : bok s A = false ∨ bok t B = false) : mk2 s A t B = none := by unfold mk2; rcases h with h | h <;> simp [h]
theorem mk2_yes {s t : Bool} {A B : List Int} (h : bok s A = true) (h' : bok t B = true) : mk2 s A t B = mkFr (sval s (val A)) (sval t (val B)) := by simp [mk2, h, h']
theorem fitO_mk2 (s t : Bool) (A B : List Int) : fitO (mk2 s A t B) := by 
  unfold mk2
  split
  · exact fitO_mk _ _
  · exact fitO_none
theorem cell_set3 {w : World} {b N i : Nat} {u v x : Value} (h : b ≠ N) : (((w.setCell ⟨N, 0, none⟩ u).setCell ⟨N, 1, none⟩ v).setCell ⟨N, 2, none⟩ x).cell? ⟨b, i, none⟩ = w.cell? ⟨b, i, none⟩ := by
  simp [World.cell?, World.setCell, Array.getElem?_modify, Ne.symm h]
/-- The result's cells are written behind the call. -/
theorem OwnR_out {o : Option Rat} {s : Bool} {A D : List Int} {w w4 : World} {v u : Value} {B C N : Nat} {T : TypeId} (hs : s = gzs (qn o)) (hA : A = gzl (qn o)) (hD : D = gzl (qd o)) (hN : w.heap.size ≤ N) {cs : Array Value} (hL : LocA T w4 N cs) (hT : T ≠ 3) (hB : w.heap.size ≤ B) (hC : w.heap.size ≤ C) (h1 : Ints w4 B v A) (h2 : Ints w4 C u D) (hd : ∀ k, v.ownBlock = some k → u.ownBlock ≠ some k) (hb : Below w.heap.size w w4) :
    OwnR o w (.returned (.agg #[.bool s, v, u])) (((w4.setCell ⟨N, 0, none⟩ (.bool s)).setCell ⟨N, 1, none⟩ v).setCell ⟨N, 2, none⟩ u) := by
  have n1 := hL.ne hT h1
  have n2 := hL.ne hT h2
  exact OwnR_mk hs hA hD rfl hB hC (Ints_set (Ints_set (Ints_set h1 n1) n1) n1) (Ints_set (Ints_set (Ints_set h2 n2) n2) n2) hd (((hb.setCell hN _).setCell hN _).setCell hN _)
theorem OwnR_zero {o : Option Rat} {w w4 : World} {N : Nat} (ho : o = none) (hN : w.heap.size ≤ N) (hb : Below w.heap.size w w4) :
    OwnR o w (.returned (.agg #[.bool false, .slice none 0 0, .slice none 0 0])) (((w4.setCell ⟨N, 0, none⟩ (.bool false)).setCell ⟨N, 1, none⟩ (.slice none 0 0)).setCell ⟨N, 2, none⟩ (.slice none 0 0)) :=
  OwnR_none ho (((hb.setCell hN _).setCell hN _).setCell hN _)

end Go.Proofs.Yteanocjkdehhgaa

/- A slice is appended to a new empty one; the program's copies of a slice and of a fraction. -/
namespace Go.Proofs.Yteanocjkdehhgaa
open Go.RowKit
open Go.Lib (hid)
set_option linter.unusedVariables false

/-- An append of a slice of ints to a new empty literal: a new slice with the same ints. -/
theorem wpList_append_lit {ops : Array Oper} {rest : List Oper} {o : Oper} {a : Act} {Q : Exit → Act → World → Prop} (hgd : o.guard = none) (s x : Operand)
    (ho : o.op = .call { callee := .builtin .append, args := #[s, x], argTypes := #[22, 22] }) (W : World) (B : Nat) (v : Value) (L : List Int) (hs : a.eval s = .slice (some ⟨W.heap.size, 0, none⟩) 0 0) (hx : a.eval x = v) (hv : Ints W B v L) (hL : L.length ≤ 1073741824)
    (h : ∀ v' w', Ints w' W.heap.size v' L → Below W.heap.size W w' → wpList Try.prog ops Q rest (a.put o.dst v') w') : wpList Try.prog ops Q (o :: rest) a (W.alloc (.cells #[] 3)) := by
  obtain ⟨i3, hi, hz0, hz1, hz2⟩ := info_parts Try.info3
  have HX := Ints_lit0 (w := W) rfl
  have HB := below_new' (w := W) (o := .cells #[] 3)
  have hv' := addPre (o := .cells #[] 3) hv
  rcases Ints_cases hv with ⟨rfl, rfl⟩ | ⟨g, cc, rfl, -, hg, hcc⟩
  · exact wpList_append_own_none hgd _ _ 22 ho W.heap.size 3 i3 1 Try.underlying22 hi _ 0 [] hs HX hx (h _ _ HX HB)
  · refine wpList_append_own _ hgd s x 22 ho W.heap.size 3 i3 (.int .i64 0) 1 8 Try.underlying22 hi hz0 hz1 hz2 rfl (by decide) (.slice (some ⟨W.heap.size, 0, none⟩) 0 0) 0 [] hs HX ⟨g, 0, none⟩ L.length cc (L.map (Value.int .i64)) hx (by simp) ?c1 ?c2 ?c3 ?c4 ?c5 ?_
    case c1 =>
      intro j u hu
      rw [Go.WideShapes.add_plain, Nat.zero_add]
      rw [List.getElem?_map] at hu
      obtain ⟨y, hy, rfl⟩ := Option.map_eq_some_iff.1 hu
      obtain ⟨hj, rfl⟩ := List.getElem?_eq_some_iff.1 hy
      exact Ints_cell hv' hj
    case c2 => intro u hu; obtain ⟨y, _, rfl⟩ := List.mem_map.1 hu; rfl
    case c3 => unfold maxLen; omega
    case c4 => omega
    case c5 => simp
    intro vb wl hown' hgrow _
    exact h vb wl (by unfold Ints; simpa using hown') (HB.grown hgrow (by simp) (fun k hk => by cases hk; exact Nat.le_refl _))

set_option maxRecDepth 100000 in
set_option maxHeartbeats 1600000 in
theorem clone_own (B : Nat) (v : Value) (L : List Int) (hL : L.length ≤ 1073741824) (w : World) (h : Ints w B v L) :
    Calls Try.prog 123 #[v] w (OwnP L w) := by
  have H := hid h
  rcases Ints_cases h with ⟨rfl, rfl⟩ | ⟨g, c, rfl, -, hg, hc⟩
  · clear h
    have he : ∀ w : World, (binOp .eql 22 (.slice none 0 0) (.slice none 0 0)).run Try.prog w = .ok (.bool true) w := fun _ => rfl
    go_enter Try.func123, Try.ntmps123
    go_wp2
    refine ⟨rfl, _, results_tmp (t := 2) rfl _ _ _, ?_⟩
    exact ⟨_, rfl, Ints_nil _ _, Below.refl _ _⟩
  · clear h
    have he : ∀ (w : World) (n c : Nat), (binOp .eql 22 (.slice (some ⟨g, 0, none⟩) n c) (.slice none 0 0)).run Try.prog w = .ok (.bool false) w := fun _ _ _ => rfl
    go_enter Try.func123, Try.ntmps123
    go_wp2_with (at_builtin; refine wpList_append_lit rfl _ _ rfl w B (.slice (some ⟨g, 0, none⟩) L.length c) L rfl rfl H.out hL ?_)
    intro v' w1 hi hb
    have R := hid (show OwnP L w (.returned v') w1 from ⟨v', rfl, hi, hb⟩)
    obtain ⟨a', c', rfl, -⟩ := Ints_form hi
    clear hi hb
    go_wp2
    refine ⟨rfl, _, results_tmp (t := 2) rfl _ _ _, ?_⟩
    exact R.out
end Go.Proofs.Yteanocjkdehhgaa
