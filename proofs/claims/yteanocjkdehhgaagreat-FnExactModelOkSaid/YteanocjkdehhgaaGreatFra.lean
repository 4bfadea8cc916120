import Derived.Test.YteanocjkdehhgaaGreatWwm
import Derived.Test.YteanocjkdehhgaaGreatGcd
import Derived.Test.YteanocjkdehhgaaGreatWsm
import Derived.Test.YteanocjkdehhgaaGreatGcf
set_option maxRecDepth 100000
set_option maxHeartbeats 3200000
set_option linter.unusedVariables false
set_option linter.unusedSimpArgs false
namespace Go.Proofs.YteanocjkdehhgaaGreat
open Go.RowKit
open Go.Lib (hid)
variable {Q : Rest}
end Go.Proofs.YteanocjkdehhgaaGreat
namespace Go.Proofs.YteanocjkdehhgaaGreat
open Go.RowKit
open Go.Lib (hid)
def fit (x : Rat) : Prop := (x.num.natAbs : Int) < pw 24 ∧ (x.den : Int) < pw 24
instance (x : Rat) : Decidable (fit x) := inferInstanceAs (Decidable (_ ∧ _))
def qn : Option Rat → Int | none => 0 | some x => x.num
def qd : Option Rat → Int | none => 0 | some x => x.den
def rok (s : Bool) (A D : List Int) : Bool := bok s A && nok D && decide (0 < D.length) && decide (A.length ≤ 24) && decide (D.length ≤ 24) && decide (G (val A) (val D) = 1)
def rval (s : Bool) (A D : List Int) : Option Rat := if rok s A D then some (Rat.divInt (sval s (val A)) (val D)) else none
def bq (f : Rat → Rat → Option Rat) : Option Rat → Option Rat → Option Rat
 | some x, some y => f x y
 | _, _ => none
theorem sval_natAbs (s : Bool) (X : Int) : (sval s X).natAbs = X.natAbs := by cases s <;> simp [sval]
theorem sval_sign {s : Bool} {X : Int} (h : 0 < X) : (sval s X).sign = sval s 1 := by
 cases s
 ·simp [sval, Int.sign_eq_one_of_pos h]
 ·simp [sval, Int.sign_neg, Int.sign_eq_one_of_pos h]
theorem sval_div (s : Bool) (X g : Int) (h : g ∣ X) : sval s X / g = sval s (X / g) := by
 cases s
 ·rfl
 ·exact Int.neg_ediv_of_dvd h
theorem sval_sval (s t : Bool) (X : Int) : sval t 1 * sval s X = sval (s != t) X := by cases s <;> cases t <;> simp [sval]
theorem gcd_sval (s t : Bool) {X Y : Int} (hX : 0 ≤ X) (hY : 0 ≤ Y) : ((sval t Y).gcd (sval s X) : Int) = G X Y := by
 unfold G Int.gcd
 rw [sval_natAbs, sval_natAbs, Nat.gcd_comm, show X.natAbs = X.toNat by omega, show Y.natAbs = Y.toNat by omega]
theorem G_dvd_left {X Y : Int} (hX : 0 ≤ X) : G X Y ∣ X := by
 unfold G
 have h := Nat.gcd_dvd_left X.toNat Y.toNat
 have := Int.ofNat_dvd.2 h
 rwa [Int.toNat_of_nonneg hX] at this
theorem red_num (s t : Bool) {X Y : Int} (hX : 0 ≤ X) (hY : 0 < Y) : (Rat.divInt (sval s X) (sval t Y)).num = sval (s != t) (X / G X Y) := by
 rw [Rat.num_divInt, gcd_sval s t hX (by omega), sval_sign hY, sval_sval, sval_div _ _ _ (G_dvd_left hX)]
theorem red_den (s t : Bool) {X Y : Int} (hX : 0 ≤ X) (hY : 0 < Y) : ((Rat.divInt (sval s X) (sval t Y)).den : Int) = Y / G X Y := by
 have h0 : sval t Y ≠ 0 := by cases t <;> simp [sval] <;> omega
 rw [Rat.den_divInt, if_neg h0, Int.natCast_ediv, gcd_sval s t hX (by omega), sval_natAbs]
 congr 1
 omega
theorem rok_iff {s : Bool} {A D : List Int} : rok s A D = true ↔ bok s A = true ∧ nok D = true ∧ 0 < D.length ∧ A.length ≤ 24 ∧ D.length ≤ 24 ∧ G (val A) (val D) = 1 := by
 unfold rok
 simp only [Bool.and_eq_true, decide_eq_true_eq, and_assoc]
theorem rval_no {s : Bool} {A D : List Int} (h : rok s A D = false) : rval s A D = none := by simp [rval, h]
theorem fit_pos (x : Rat) : (0 : Int) < x.den := by have := x.den_pos; omega
theorem rval_yes {s : Bool} {A D : List Int} (h : rok s A D = true) : ∃ x, rval s A D = some x ∧ x.num = sval s (val A) ∧ (x.den : Int) = val D ∧ fit x := by
 obtain ⟨a1, a2, a3, a4, a5, a6⟩ := rok_iff.1 h
 have cA := (nok_iff.1 (bok_iff.1 a1).1).2
 have cD := (nok_iff.1 a2).2
 have h0 := val_nonneg cA.1
 have hD : 0 < val D := by
  have := val_nonneg cD.1
  rcases Int.lt_or_eq_of_le this with h | h
  ·exact h
  ·have := Can_val cD h.symm; subst this; simp at a3
 have e1 := red_num s false h0 hD
 have e2 := red_den s false h0 hD
 rw [show sval false (val D) = val D from rfl] at e1 e2
 rw [a6, Int.ediv_one] at e1 e2
 rw [show (s != false) = s by cases s <;> rfl] at e1
 refine ⟨_, by simp [rval, h], e1, e2, ?_, ?_⟩
 ·rw [e1, sval_natAbs]
  have := (Can_len cA).1 a4
  omega
 ·rw [e2]; exact (Can_len cD).1 a5
end Go.Proofs.YteanocjkdehhgaaGreat
namespace Go.Proofs.YteanocjkdehhgaaGreat
open Go.RowKit
open Go.Lib (hid)
end Go.Proofs.YteanocjkdehhgaaGreat
namespace Go.Proofs.YteanocjkdehhgaaGreat
open Go.RowKit
open Go.Lib (hid)
def LocA (T : TypeId) (w : World) (b : Nat) (cs : Array Value) : Prop := w.heap[b]? = some (.cells cs T (0, 0))
theorem LocA.lt {T : TypeId} {w : World} {b : Nat} {cs : Array Value} (h : LocA T w b cs) : b < w.heap.size := (Array.getElem?_eq_some_iff.1 h).1
theorem LocA.c {T : TypeId} {w : World} {b : Nat} {cs : Array Value} (h : LocA T w b cs) (i : Nat) {v : Value} (hv : cs[i]? = some v) : w.cell? ⟨b, i, none⟩ = some v := by
 unfold LocA at h; simp [World.cell?, h, hv]
theorem LocA.f {T : TypeId} {w : World} {b : Nat} {cs : Array Value} (h : LocA T w b cs) (i : Nat) : w.frozen? ⟨b, i, none⟩ = false := by
 unfold LocA at h; simp [World.frozen?, h]
theorem LocA.old {T : TypeId} {w w' : World} {b : Nat} {cs : Array Value} (h : LocA T w b cs) (hb : Below w.heap.size w w') : LocA T w' b cs := (hb.block _ h.lt).trans h
theorem LocA.new {T : TypeId} {w : World} {cs : Array Value} : LocA T (w.alloc (.cells cs T)) w.heap.size cs := heap_alloc_new w _
theorem LocA.at {T : TypeId} {w : World} {b : Nat} {cs : Array Value} (hb : b = w.heap.size) : LocA T (w.alloc (.cells cs T)) b cs := by subst hb; exact LocA.new
theorem LocA.new1 {T : TypeId} {w : World} {b : Nat} {cs : Array Value} {o : Go.Obj} (h : LocA T w b cs) : LocA T (w.alloc o) b cs := h.old below_new'
theorem LocA.drewN {T : TypeId} {w : World} {b : Nat} {cs : Array Value} (h : LocA T w b cs) (d : Nat) : LocA T (w.drewN d) b cs := h
theorem LocA.ne {T : TypeId} {w : World} {B b : Nat} {cs : Array Value} {u : Value} {L : List Int} (h : LocA T w b cs) (hT : T ≠ 3) (hi : Ints w B u L) : u.ownBlock ≠ some b := by
 rcases hi.2 with ⟨rfl, _⟩ | ⟨g, cap, cur, rfl, h2, h3, _⟩
 ·simp [Value.ownBlock]
 ·intro he
  have : g = b := by simpa [Value.ownBlock] using he
  subst this
  unfold LocA at h
  rw [h3] at h
  simp at h
  exact hT h.2.symm
structure RL (w : World) (v u : Value) (A D : List Int) : Prop where
 a : ∃ b, Ints w b v A
 d : ∃ b, Ints w b u D
 la : A.length ≤ 1048576
 ld : D.length ≤ 1048576
theorem RL.old {w w' : World} {v u : Value} {A D : List Int} (h : RL w v u A D) (hb : Below w.heap.size w w') : RL w' v u A D := by
 obtain ⟨⟨b, i⟩, ⟨c, j⟩, l, m⟩ := h
 exact ⟨⟨b, Ints_old i hb⟩, ⟨c, Ints_old j hb⟩, l, m⟩
theorem RL.form {w : World} {v u : Value} {A D : List Int} (h : RL w v u A D) : ∃ (a : Option Addr) (c : Nat) (a' : Option Addr) (c' : Nat), v = .slice a A.length c ∧ u = .slice a' D.length c' := by
 obtain ⟨⟨b, i⟩, ⟨c, j⟩, l, m⟩ := h
 obtain ⟨a1, c1, rfl, -⟩ := Ints_form i
 obtain ⟨a2, c2, rfl, -⟩ := Ints_form j
 exact ⟨_, _, _, _, rfl, rfl⟩
theorem gzl_nil : gzl 0 = [] := gzl_zero
def fitO (o : Option Rat) : Prop := ∀ x, o = some x → fit x
theorem fitO_none : fitO none := fun x h => by cases h
theorem fitO_some {x : Rat} (h : fit x) : fitO (some x) := fun y e => by cases e; exact h
theorem pw24_60 : pw 24 < pw 60 := by decide
theorem rval_parts {o : Option Rat} (h : fitO o) : rval (gzs (qn o)) (gzl (qn o)) (gzl (qd o)) = o ∧ rok (gzs (qn o)) (gzl (qn o)) (gzl (qd o)) = o.isSome ∧ (gzl (qn o)).length ≤ 24 ∧ (gzl (qd o)).length ≤ 24 := by
 cases o with
 |none =>
  have e : rok (gzs 0) (gzl 0) (gzl 0) = false := by
   rw [gzs_zero, gzl_zero]; unfold rok; simp
  exact ⟨rval_no e, e, by simp [qn, gzl_zero], by simp [qd, gzl_zero]⟩
 |some x =>
  obtain ⟨f1, f2⟩ := h x rfl
  have h60 := pw24_60
  have hp := fit_pos x
  obtain ⟨k1, k2⟩ := gz_ok (Z := x.num) (by omega)
  have l1 : gzl x.num = rep (x.num.natAbs : Int).toNat := by unfold gzl; rw [capped_of (by omega)]
  have l2 : gzl (x.den : Int) = rep x.den := by unfold gzl; rw [capped_of (by omega)]; rfl
  have v1 : val (gzl x.num) = x.num.natAbs := by rw [l1, val_rep' (by omega)]
  have v2 : val (gzl (x.den : Int)) = x.den := by rw [l2, val_rep]
  have n1 : (gzl x.num).length ≤ 24 := by rw [l1]; exact rep_len' f1
  have n2 : (gzl (x.den : Int)).length ≤ 24 := by rw [l2]; exact rep_len' (V := (x.den : Int)) f2
  have hr : rok (gzs x.num) (gzl x.num) (gzl (x.den : Int)) = true := by
   refine rok_iff.2 ⟨k1, ?_, ?_, n1, n2, ?_⟩
   ·rw [l2]; exact nok_iff.2 ⟨by rw [← l2]; omega, Can_rep _⟩
   ·rw [l2]; exact List.length_pos_iff.2 (rep_ne (by omega))
   ·rw [v1, v2]
    unfold G
    have := x.reduced
    exact congrArg Nat.cast this
  refine ⟨?_, hr, n1, n2⟩
  show rval (gzs x.num) (gzl x.num) (gzl (x.den : Int)) = some x
  unfold rval
  rw [if_pos hr, k2, v2, Rat.num_divInt_den]
theorem fitO_rval (s : Bool) (A D : List Int) : fitO (rval s A D) := by
 cases h : rok s A D with
 | false => rw [rval_no h]; exact fitO_none
 | true => obtain ⟨x, e, _, _, f⟩ := rval_yes h; rw [e]; exact fitO_some f
end Go.Proofs.YteanocjkdehhgaaGreat
namespace Go.Proofs.YteanocjkdehhgaaGreat
open Go.RowKit
open Go.Lib (hid)
theorem ret_bo {a b : Bool} (h : a = b) : Ending.returned (.bool a) = .returned (.bool b) := by rw [h]
theorem isOne_row (a : Option Addr) (c : Nat) (A : List Int) (hA : A.length ≤ 1073741824) (w : World) (r : RowI w a A.length A) :
  Calls Tryz.prog 161 #[.slice a A.length c] w fun e w' => e = .returned (.bool (decide (A = [1]))) ∧ w = w' := by
 by_cases hl : A.length = 1
 ·obtain ⟨x, rfl⟩ := List.length_eq_one_iff.1 hl
  obtain ⟨g, o, rfl, hg, hc⟩ := r.2 (by simp)
  have hc0 := hc 0 (by simp)
  simp only [Nat.add_zero, ka5] at hc0
  clear hc hl r
  by_cases hx : x = 1
  ·subst hx
   go_enter Tryz.func161, Tryz.ntmps161
   go_wp2
   go_ret
   exact ⟨ret_bo (by simp), rfl⟩
  ·have hx' : (x == 1) = false := beq_eq_false_iff_ne.2 hx
   have hd := hid (show false = decide ([x] = [1]) by simp [hx])
   go_enter Tryz.func161, Tryz.ntmps161
   go_wp2
   go_ret
   exact ⟨ret_bo hd.out, rfl⟩
 ·have hl' : ((A.length : Int) == 1) = false := beq_eq_false_iff_ne.2 (by omega)
  have hd := hid (show false = decide (A = [1]) from (decide_eq_false fun e => hl (by rw [e]; rfl)).symm)
  clear hl
  go_enter Tryz.func161, Tryz.ntmps161
  go_wp2
  go_ret
  exact ⟨ret_bo hd.out, rfl⟩
theorem isOne_own (v : Value) (A : List Int) (hA : A.length ≤ 1073741824) (b : Nat) (w : World) (h : Ints w b v A) :
  Calls Tryz.prog 161 #[v] w fun e w' => e = .returned (.bool (decide (A = [1]))) ∧ w = w' := by
 obtain ⟨a, c, rfl, -, r, -⟩ := Ints_form h
 exact isOne_row a c A hA w r
theorem impl_NatOk_own (v : Value) (A : List Int) (hA : A.length ≤ 1073741824) (b : Nat) (w : World) (h : Ints w b v A) : Calls Tryz.prog 129 #[v] w (RetB (.bool (nok A)) w) := by
 obtain ⟨a, c, rfl, -, r, -⟩ := Ints_form h
 exact RetB_of_same (impl_NatOk a _ c A hA w r)
theorem spec_NatOk_own (v : Value) (A : List Int) (hA : A.length ≤ 1073741824) (b : Nat) (w : World) (h : Ints w b v A) : Calls Tryz.prog 149 #[v] w (RetB (.bool (nok A)) w) := by
 obtain ⟨a, c, rfl, -, r, -⟩ := Ints_form h
 exact RetB_of_same (spec_NatOk a _ c A hA w r)
theorem fitsRat_any (a a' : Option Addr) (n n' c c' : Nat) (hn : n ≤ 1073741824) (hn' : n' ≤ 1073741824) (w : World) :
  Calls Tryz.prog 130 #[.slice a n c, .slice a' n' c'] w fun e w' => e = .returned (.bool (decide (n ≤ 24) && decide (n' ≤ 24))) ∧ w = w' := by
 by_cases h1 : (n : Int) ≤ 24
 ·by_cases h2 : (n' : Int) ≤ 24
  ·go_enter Tryz.func130, Tryz.ntmps130
   go_wp2
   go_ret
   exact ⟨ret_bo (by simp; omega), rfl⟩
  ·go_enter Tryz.func130, Tryz.ntmps130
   go_wp2
   go_ret
   exact ⟨ret_bo (by simp; omega), rfl⟩
 ·go_enter Tryz.func130, Tryz.ntmps130
  go_wp2
  go_ret
  exact ⟨ret_bo (by simp; omega), rfl⟩
theorem rep_one {n : Nat} : rep n = [1] ↔ n = 1 := by
 constructor
 ·intro h
  have := val_rep n
  rw [h] at this
  simp [val] at this
  omega
 ·rintro rfl
  rw [rep_pos (by decide), show 1 / 1000000000 = 0 from rfl, rep_zero]
  rfl
theorem G_one {x : Int} : G x 1 = 1 := by unfold G; simp
end Go.Proofs.YteanocjkdehhgaaGreat
namespace Go.Proofs.YteanocjkdehhgaaGreat
open Go.RowKit
open Go.Lib (hid)
theorem hasNo_own (v u : Value) (A D : List Int) (nA : nok A = true) (nD : nok D = true) (b1 b2 : Nat) (w : World) (h1 : Ints w b1 v A) (h2 : Ints w b2 u D) :
  Calls Tryz.prog 131 #[v, u] w (RetB (.bool (decide (G (val A) (val D) = 1))) w) := by
 have hA : A.length ≤ 1073741824 := by have := nok_len nA; omega
 have hD : D.length ≤ 1073741824 := by have := nok_len nD; omega
 have KG := hid (fun (W : World) (h1 : Ints W b1 v A) (h2 : Ints W b2 u D) => impl_NatGcd v u A D hA hD b1 b2 W h1 h2)
 have K1 := hid (isOne_own u D hD b2 w h2)
 have I1 := hid h1
 have I2 := hid h2
 obtain ⟨z, hz⟩ : ∃ z, z = decide (G (val A) (val D) = 1) := ⟨_, rfl⟩
 have HZ := hid hz
 rw [← hz]
 clear hz
 obtain ⟨a, c, rfl, -⟩ := Ints_form h1
 obtain ⟨a', c', rfl, -⟩ := Ints_form h2
 rw [gcdR_yes nA nD] at KG
 have g0 : 0 ≤ G (val A) (val D) := G_nonneg _ _
 obtain ⟨M, hM⟩ : ∃ M, M = rep (G (val A) (val D)).toNat := ⟨_, rfl⟩
 rw [← hM] at KG
 have lM : M.length ≤ 1073741824 := by rw [hM]; have := rep_len (V := G (val A) (val D)) (G_le (val_nonneg (nok_lim nA)) (val_nonneg (nok_lim nD)) (nok_lt nA) (nok_lt nD)); omega
 have HE := hid (show decide (M = [1]) = z by rw [HZ.out, hM]; exact decide_eq_decide.2 (rep_one.trans (by omega)))
 clear hM h1 h2
 obtain ⟨d, hd⟩ : ∃ d, d = decide (D = [1]) := ⟨_, rfl⟩
 rw [← hd] at K1
 cases d with
 |true =>
  have hE := hid (show z = true by
   have h := of_decide_eq_true hd.symm
   rw [HZ.out, h]
   simp [val, G_one])
  clear hd HE g0
  go_enter Tryz.func131, Tryz.ntmps131
  go_wp2_with fail
  (with_reducible refine (K1.out).mono ?_)
  rintro e w1 ⟨rfl, rfl⟩
  go_wp2
  go_ret
  exact ⟨ret_bo hE.out.symm, Below.refl _ _⟩
 |false =>
  clear hd g0
  go_enter Tryz.func131, Tryz.ntmps131
  go_wp2_with fail
  (with_reducible refine (K1.out).mono ?_)
  rintro e w1 ⟨rfl, rfl⟩
  go_wp2_with fail
  (with_reducible refine (KG.out _ I1.out I2.out).mono ?_)
  rintro e w2 ⟨g, rfl, ig, b1⟩
  have K2 := hid (isOne_own g M lM _ w2 ig)
  rw [HE.out] at K2
  have B := hid b1
  clear ig b1 HE
  go_wp2_with fail
  (with_reducible refine (K2.out).mono ?_)
  rintro e w3 ⟨rfl, rfl⟩
  go_wp2
  go_ret
  exact ⟨rfl, B.out⟩
theorem impl_RatOk (s : Bool) (v u : Value) (A D : List Int) (w : World) (h : RL w v u A D) :
  Calls Tryz.prog 56 #[.agg #[.bool s, v, u]] w (RetB (.bool (rok s A D)) w) := by
 have hA : A.length ≤ 1073741824 := by have := h.la; omega
 have hD : D.length ≤ 1073741824 := by have := h.ld; omega
 have B := hid (below_new' (w := w) (o := .cells #[.bool s, v, u] 53))
 have LX := hid (LocA.at (T := 53) (w := w) (b := w.heap.size) (cs := #[.bool s, v, u]) rfl)
 obtain ⟨b1, i1⟩ := h.a
 obtain ⟨b2, i2⟩ := h.d
 have I1 := hid (Ints_old i1 B.out)
 have I2 := hid (Ints_old i2 B.out)
 have K1 := hid (fun (W : World) (h : Ints W b1 v A) => impl_BigIntOk_own s v A hA b1 W h)
 have K2 := hid (fun (W : World) (h : Ints W b2 u D) => impl_NatOk_own u D hD b2 W h)
 have K4 := hid (fun (nA : nok A = true) (nD : nok D = true) (W : World) (h1 : Ints W b1 v A) (h2 : Ints W b2 u D) => hasNo_own v u A D nA nD b1 b2 W h1 h2)
 obtain ⟨z, hz⟩ : ∃ z, z = rok s A D := ⟨_, rfl⟩
 have HZ := hid hz
 rw [← hz]
 clear hz
 obtain ⟨a, c, rfl, -⟩ := Ints_form i1
 obtain ⟨a', c', rfl, -⟩ := Ints_form i2
 have K3 := hid (fun (W : World) => fitsRat_any a a' A.length D.length c c' hA hD W)
 obtain ⟨p4, hp4⟩ : ∃ p, p = decide (G (val A) (val D) = 1) := ⟨_, rfl⟩
 rw [← hp4] at K4
 obtain ⟨p3, hp3⟩ : ∃ p, p = (decide (A.length ≤ 24) && decide (D.length ≤ 24)) := ⟨_, rfl⟩
 rw [← hp3] at K3
 obtain ⟨p2, hp2⟩ : ∃ p, p = nok D := ⟨_, rfl⟩
 rw [← hp2] at K2
 obtain ⟨p1, hp1⟩ : ∃ p, p = bok s A := ⟨_, rfl⟩
 rw [← hp1] at K1
 have HR := hid (show rok s A D = (p1 && p2 && decide (0 < D.length) && p3 && p4) by rw [hp1, hp2, hp3, hp4]; unfold rok; simp only [Bool.and_assoc])
 have NA := hid (show p1 = true → nok A = true from fun h => (bok_iff.1 (hp1.symm.trans h)).1)
 have ND := hid (show p2 = true → nok D = true from fun h => hp2.symm.trans h)
 clear hp1 hp2 hp3 hp4 h i1 i2
 generalize hW : w.alloc (.cells #[.bool s, .slice a A.length c, .slice a' D.length c'] 53) = W0 at B LX I1 I2
 have HW := hid hW
 clear hW
 cases p1 with
 |false =>
  have hE := hid (show z = false by rw [HZ.out, HR.out]; rfl)
  go_enter Tryz.func56, Tryz.ntmps56
  go_wp2_with fail
  rw [HW.out]
  (with_reducible refine (K1.out _ I1.out).mono ?_)
  rintro e w1 ⟨rfl, b1⟩
  have B := hid (B.out.trans (b1.mono B.out.size))
  clear b1
  go_wp2
  go_ret
  exact ⟨ret_bo hE.out.symm, B.out⟩
 | true =>
 cases p2 with
 |false =>
  have hE := hid (show z = false by rw [HZ.out, HR.out]; rfl)
  go_enter Tryz.func56, Tryz.ntmps56
  go_wp2_with fail
  rw [HW.out]
  (with_reducible refine (K1.out _ I1.out).mono ?_)
  rintro e w1 ⟨rfl, b1⟩
  have I2 := hid (Ints_old I2.out b1)
  have LX := hid (LX.out.old b1)
  have B := hid (B.out.trans (b1.mono B.out.size))
  have q0 := LX.out.c 2 rfl
  clear b1
  go_wp2_with fail
  (with_reducible refine (K2.out _ I2.out).mono ?_)
  rintro e w2 ⟨rfl, b1⟩
  have B := hid (B.out.trans (b1.mono B.out.size))
  clear b1 q0
  go_wp2
  go_ret
  exact ⟨ret_bo hE.out.symm, B.out⟩
 | true =>
 by_cases hd0 : D.length = 0
 ·have hE := hid (show z = false by rw [HZ.out, HR.out]; simp [hd0])
  have hd0' : ((D.length : Int) == 0) = true := by simp [hd0]
  clear hd0
  go_enter Tryz.func56, Tryz.ntmps56
  go_wp2_with fail
  rw [HW.out]
  (with_reducible refine (K1.out _ I1.out).mono ?_)
  rintro e w1 ⟨rfl, b1⟩
  have I2 := hid (Ints_old I2.out b1)
  have LX := hid (LX.out.old b1)
  have B := hid (B.out.trans (b1.mono B.out.size))
  have q0 := LX.out.c 2 rfl
  clear b1
  go_wp2_with fail
  (with_reducible refine (K2.out _ I2.out).mono ?_)
  clear q0
  rintro e w2 ⟨rfl, b1⟩
  have LX := hid (LX.out.old b1)
  have B := hid (B.out.trans (b1.mono B.out.size))
  have q0 := LX.out.c 2 rfl
  clear b1
  go_wp2
  go_ret
  exact ⟨ret_bo hE.out.symm, B.out⟩
 ·have hE := hid (show z = (p3 && p4) by rw [HZ.out, HR.out, decide_eq_true (show 0 < D.length by omega)]; simp)
  have hd0' : ((D.length : Int) == 0) = false := beq_eq_false_iff_ne.2 (by omega)
  clear hd0
  go_enter Tryz.func56, Tryz.ntmps56
  go_wp2_with fail
  rw [HW.out]
  (with_reducible refine (K1.out _ I1.out).mono ?_)
  rintro e w1 ⟨rfl, b1⟩
  have I1 := hid (Ints_old I1.out b1)
  have I2 := hid (Ints_old I2.out b1)
  have LX := hid (LX.out.old b1)
  have B := hid (B.out.trans (b1.mono B.out.size))
  have q0 := LX.out.c 2 rfl
  clear b1
  go_wp2_with fail
  (with_reducible refine (K2.out _ I2.out).mono ?_)
  clear q0
  rintro e w2 ⟨rfl, b1⟩
  have I1 := hid (Ints_old I1.out b1)
  have I2 := hid (Ints_old I2.out b1)
  have LX := hid (LX.out.old b1)
  have B := hid (B.out.trans (b1.mono B.out.size))
  have q0 := LX.out.c 1 rfl
  have q1 := LX.out.c 2 rfl
  clear b1
  go_wp2_with fail
  (with_reducible refine (K3.out _).mono ?_)
  rintro e w3 ⟨rfl, rfl⟩
  cases p3 with
  |false =>
   go_wp2
   go_ret
   exact ⟨ret_bo hE.out.symm, B.out⟩
  |true =>
   go_wp2_with fail
   (with_reducible refine (K4.out (NA.out (by simp)) (ND.out (by simp)) _ I1.out I2.out).mono ?_)
   rintro e w4 ⟨rfl, b1⟩
   have B := hid (B.out.trans (b1.mono B.out.size))
   clear b1 q0 q1
   go_wp2
   go_ret
   exact ⟨ret_bo hE.out.symm, B.out⟩
end Go.Proofs.YteanocjkdehhgaaGreat
namespace Go.Proofs.YteanocjkdehhgaaGreat
open Go.RowKit
open Go.Lib (hid)
end Go.Proofs.YteanocjkdehhgaaGreat
namespace Go.Proofs.YteanocjkdehhgaaGreat
open Go.RowKit
open Go.Lib (hid)
end Go.Proofs.YteanocjkdehhgaaGreat
