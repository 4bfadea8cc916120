/- Merged: Vd Vg Vk. -/
import Derived.Test.YtmghoedjcokhpaaVf
import Derived.Deep.RegionHeld3
import Derived.Deep.DeepCutAuto
/- Common denominators and numerators' divisors: the mathematics. -/
namespace Go.Proofs.Ytmghoedjcokhpaa
open Go.RowKit
open Go.Lib (hid)
set_option linter.unusedVariables false

theorem lcm_div_left {b d : Nat} (hb : 0 < b) : Nat.lcm b d / b = d / Nat.gcd b d := by
  unfold Nat.lcm
  rw [Nat.mul_div_assoc _ (Nat.gcd_dvd_right b d), Nat.mul_div_cancel_left _ hb]
theorem gcd_cop_left {x y c : Nat} (h : Nat.gcd x c = 1) : Nat.gcd (y * x) c = Nat.gcd y c := by
  have := Nat.Coprime.gcd_mul_right_cancel (k := x) (n := c) y h
  exact this
theorem gcd_cop_right {x y c : Nat} (h : Nat.gcd c x = 1) : Nat.gcd c (y * x) = Nat.gcd c y := by
  rw [Nat.gcd_comm, gcd_cop_left (by rw [Nat.gcd_comm]; exact h), Nat.gcd_comm]
/-- The numerators' divisor, with the denominators made equal or not. -/
theorem gcd_pair {a b c d : Nat} (h1 : Nat.gcd a b = 1) (h2 : Nat.gcd c d = 1) (hb : 0 < b) (hd : 0 < d) : Nat.gcd (a * (Nat.lcm b d / b)) (c * (Nat.lcm b d / d)) = Nat.gcd a c := by
  rw [lcm_div_left hb, Nat.lcm_comm, lcm_div_left hd, Nat.gcd_comm d b]
  have hg : 0 < Nat.gcd b d := Nat.gcd_pos_of_pos_left _ hb
  have hcop : Nat.gcd (b / Nat.gcd b d) (d / Nat.gcd b d) = 1 := Nat.coprime_div_gcd_div_gcd hg
  have c1 : Nat.gcd (d / Nat.gcd b d) (c * (b / Nat.gcd b d)) = 1 := by
    rw [gcd_cop_right (by rw [Nat.gcd_comm]; exact hcop)]
    have : Nat.gcd (d / Nat.gcd b d) c ∣ Nat.gcd c d := Nat.dvd_gcd (Nat.gcd_dvd_right _ _) (Nat.dvd_trans (Nat.gcd_dvd_left _ _) (Nat.div_dvd_of_dvd (Nat.gcd_dvd_right _ _)))
    rw [h2] at this
    exact Nat.dvd_one.1 this
  rw [gcd_cop_left c1]
  apply gcd_cop_right
  have : Nat.gcd a (b / Nat.gcd b d) ∣ Nat.gcd a b := Nat.dvd_gcd (Nat.gcd_dvd_left _ _) (Nat.dvd_trans (Nat.gcd_dvd_right _ _) (Nat.div_dvd_of_dvd (Nat.gcd_dvd_left _ _)))
  rw [h1] at this
  exact Nat.dvd_one.1 this
theorem gcd_lcm_one {a b c d : Nat} (h1 : Nat.gcd a b = 1) (h2 : Nat.gcd c d = 1) : Nat.gcd (Nat.gcd a c) (Nat.lcm b d) = 1 := by
  have hx : Nat.gcd (Nat.gcd a c) b = 1 := by
    have : Nat.gcd (Nat.gcd a c) b ∣ Nat.gcd a b := Nat.dvd_gcd (Nat.dvd_trans (Nat.gcd_dvd_left _ _) (Nat.gcd_dvd_left _ _)) (Nat.gcd_dvd_right _ _)
    rw [h1] at this; exact Nat.dvd_one.1 this
  have hy : Nat.gcd (Nat.gcd a c) d = 1 := by
    have : Nat.gcd (Nat.gcd a c) d ∣ Nat.gcd c d := Nat.dvd_gcd (Nat.dvd_trans (Nat.gcd_dvd_left _ _) (Nat.gcd_dvd_right _ _)) (Nat.gcd_dvd_right _ _)
    rw [h2] at this; exact Nat.dvd_one.1 this
  have hm : Nat.gcd (Nat.gcd a c) (b * d) = 1 := by rw [gcd_cop_right hy, hx]
  have : Nat.gcd (Nat.gcd a c) (Nat.lcm b d) ∣ Nat.gcd (Nat.gcd a c) (b * d) := Nat.gcd_dvd_gcd_of_dvd_right _ (Nat.lcm_dvd_mul b d)
  rw [hm] at this
  exact Nat.dvd_one.1 this
/-- Numerators and denominators, each two without a common divisor. -/
def lcms : List (Nat × Nat) → Nat
  | [] => 1
  | p :: l => Nat.lcm p.2 (lcms l)
def gcds : List (Nat × Nat) → Nat
  | [] => 0
  | p :: l => Nat.gcd p.1 (gcds l)
def gcdm (M : Nat) : List (Nat × Nat) → Nat
  | [] => 0
  | p :: l => Nat.gcd (p.1 * (M / p.2)) (gcdm M l)
def Red (l : List (Nat × Nat)) : Prop := ∀ p ∈ l, 0 < p.2 ∧ Nat.gcd p.1 p.2 = 1
theorem Red.tail {p : Nat × Nat} {l : List (Nat × Nat)} (h : Red (p :: l)) : Red l := fun q hq => h q (List.mem_cons_of_mem _ hq)
theorem lcms_pos : ∀ {l : List (Nat × Nat)}, Red l → 0 < lcms l
  | [], _ => by decide
  | p :: l, h => Nat.lcm_pos (h p (List.mem_cons_self ..)).1 (lcms_pos h.tail)
theorem red_all : ∀ {l : List (Nat × Nat)}, Red l → Nat.gcd (gcds l) (lcms l) = 1
  | [], _ => rfl
  | p :: l, h => gcd_lcm_one (h p (List.mem_cons_self ..)).2 (red_all h.tail)
theorem gcdm_scale (k : Nat) {M : Nat} : ∀ {l : List (Nat × Nat)}, (∀ p ∈ l, p.2 ∣ M) → gcdm (M * k) l = gcdm M l * k
  | [], _ => by simp [gcdm]
  | p :: l, h => by
    simp only [gcdm]
    rw [gcdm_scale k (fun q hq => h q (List.mem_cons_of_mem _ hq)), Nat.mul_comm M k, Nat.mul_div_assoc _ (h p (List.mem_cons_self ..)), Nat.mul_left_comm, Nat.mul_comm k, Nat.gcd_mul_right]
theorem lcms_dvd : ∀ {l : List (Nat × Nat)} (p : Nat × Nat), p ∈ l → p.2 ∣ lcms l
  | q :: l, p, h => by
    rcases List.mem_cons.1 h with rfl | h
    · exact Nat.dvd_lcm_left _ _
    · exact Nat.dvd_trans (lcms_dvd p h) (Nat.dvd_lcm_right _ _)
/-- The common denominator adds nothing. -/
theorem gcdm_gcds : ∀ {l : List (Nat × Nat)}, Red l → gcdm (lcms l) l = gcds l
  | [], _ => rfl
  | p :: l, h => by
    have hp := h p (List.mem_cons_self ..)
    have hl := lcms_pos h.tail
    have hr := red_all h.tail
    obtain ⟨k, hk⟩ := Nat.dvd_lcm_right p.2 (lcms l)
    simp only [gcdm, gcds, lcms]
    have e : gcdm (Nat.lcm p.2 (lcms l)) l = gcds l * (Nat.lcm p.2 (lcms l) / lcms l) := by
      rw [hk, gcdm_scale k (fun q hq => lcms_dvd q hq), gcdm_gcds h.tail, Nat.mul_div_cancel_left _ hl]
    rw [e]
    exact gcd_pair hp.2 hr hp.1 hl

def ndp (o : Option Rat) : Nat × Nat := ((qn o).natAbs, (qd o).toNat)
def lcmN (os : List (Option Rat)) : Nat := os.foldl (fun m o => Nat.lcm m (ndp o).2) 1
def gcdN (os : List (Option Rat)) : Nat := os.foldl (fun g o => Nat.gcd g (ndp o).1) 0
def gcdS (M : Nat) (os : List (Option Rat)) : Nat := os.foldl (fun g o => Nat.gcd g ((ndp o).1 * (M / (ndp o).2))) 0
theorem lcm_fold (os : List (Option Rat)) : ∀ a, os.foldl (fun m o => Nat.lcm m (ndp o).2) a = Nat.lcm a (lcms (os.map ndp)) := by
  induction os with
  | nil => intro a; simp [lcms]
  | cons o os ih => intro a; simp only [List.foldl_cons, List.map_cons, lcms, ih, Nat.lcm_assoc]
theorem gcd_fold (os : List (Option Rat)) : ∀ a, os.foldl (fun g o => Nat.gcd g (ndp o).1) a = Nat.gcd a (gcds (os.map ndp)) := by
  induction os with
  | nil => intro a; simp [gcds]
  | cons o os ih => intro a; simp only [List.foldl_cons, List.map_cons, gcds, ih, Nat.gcd_assoc]
theorem gcdS_fold (M : Nat) (os : List (Option Rat)) : ∀ a, os.foldl (fun g o => Nat.gcd g ((ndp o).1 * (M / (ndp o).2))) a = Nat.gcd a (gcdm M (os.map ndp)) := by
  induction os with
  | nil => intro a; simp [gcdm]
  | cons o os ih => intro a; simp only [List.foldl_cons, List.map_cons, gcdm, ih, Nat.gcd_assoc]
theorem ndp_red {x : Rat} : 0 < (ndp (some x)).2 ∧ Nat.gcd (ndp (some x)).1 (ndp (some x)).2 = 1 := by
  have h : (ndp (some x)).2 = x.den := by simp [ndp, qd]
  rw [h]
  exact ⟨x.den_pos, x.reduced⟩
theorem red_of {os : List (Option Rat)} (h : ∀ o ∈ os, o.isSome = true) : Red (os.map ndp) := by
  intro p hp
  obtain ⟨o, ho, rfl⟩ := List.mem_map.1 hp
  obtain ⟨x, rfl⟩ := Option.isSome_iff_exists.1 (h o ho)
  exact ndp_red
/-- The numerators' divisor needs no common denominator. -/
theorem gcd_same {os : List (Option Rat)} (h : ∀ o ∈ os, o.isSome = true) : gcdS (lcmN os) os = gcdN os := by
  unfold gcdS lcmN gcdN
  rw [gcdS_fold, lcm_fold, gcd_fold, Nat.lcm_one_left, gcdm_gcds (red_of h)]
theorem lcmN_take {os : List (Option Rat)} {k : Nat} (h : k < os.length) : lcmN (os.take (k + 1)) = Nat.lcm (lcmN (os.take k)) (ndp os[k]).2 := by
  unfold lcmN
  rw [List.take_succ_eq_append_getElem h, List.foldl_append]; rfl
theorem gcdN_take {os : List (Option Rat)} {k : Nat} (h : k < os.length) : gcdN (os.take (k + 1)) = Nat.gcd (gcdN (os.take k)) (ndp os[k]).1 := by
  unfold gcdN
  rw [List.take_succ_eq_append_getElem h, List.foldl_append]; rfl
theorem gcdS_take {M : Nat} {os : List (Option Rat)} {k : Nat} (h : k < os.length) : gcdS M (os.take (k + 1)) = Nat.gcd (gcdS M (os.take k)) ((ndp os[k]).1 * (M / (ndp os[k]).2)) := by
  unfold gcdS
  rw [List.take_succ_eq_append_getElem h, List.foldl_append]; rfl
theorem lcmN_pos {os : List (Option Rat)} (h : ∀ o ∈ os, o.isSome = true) : 0 < lcmN os := by
  unfold lcmN; rw [lcm_fold, Nat.lcm_one_left]; exact lcms_pos (red_of h)
theorem lcmN_dvd (os : List (Option Rat)) (k : Nat) : lcmN (os.take k) ∣ lcmN os := by
  have : lcmN os = Nat.lcm (lcmN (os.take k)) (lcms ((os.drop k).map ndp)) := by
    rw [← lcm_fold]
    unfold lcmN
    rw [← List.foldl_append, List.take_append_drop]
  rw [this]
  exact Nat.dvd_lcm_left _ _
theorem lcmN_le {os : List (Option Rat)} (h : ∀ o ∈ os, o.isSome = true) (k : Nat) : lcmN (os.take k) ≤ lcmN os := Nat.le_of_dvd (lcmN_pos h) (lcmN_dvd os k)
theorem lcmN_den {os : List (Option Rat)} {k : Nat} (h : k < os.length) : (ndp os[k]).2 ∣ lcmN os := by
  have h1 := lcmN_dvd os (k + 1)
  rw [lcmN_take h] at h1
  exact Nat.dvd_trans (Nat.dvd_lcm_right _ _) h1
/-- The common denominator, if there is one. -/
def cdenO (os : List (Option Rat)) : List Int := if os.all Option.isSome = true ∧ ((lcmN os : Nat) : Int) < pw 24 then rep (lcmN os) else []
def ngcdO (os : List (Option Rat)) : List Int := if cdenO os = [] then [] else rep (gcdN os)
theorem cden_no {os : List (Option Rat)} {k : Nat} (h : k < os.length) (hn : os[k] = none) : cdenO os = [] := by
  unfold cdenO
  rw [if_neg]
  rintro ⟨h1, -⟩
  have := List.all_eq_true.1 h1 _ (List.getElem_mem h)
  rw [hn] at this
  exact absurd this (by decide)
theorem cden_long {os : List (Option Rat)} {k : Nat} (hn : ¬ ((lcmN (os.take k) : Nat) : Int) < pw 24) : cdenO os = [] := by
  unfold cdenO
  rw [if_neg]
  rintro ⟨h1, h2⟩
  have := lcmN_le (List.all_eq_true.1 h1) k
  omega
theorem cden_yes {os : List (Option Rat)} (h : ∀ o ∈ os, o.isSome = true) (h2 : ((lcmN os : Nat) : Int) < pw 24) : cdenO os = rep (lcmN os) := by
  unfold cdenO
  rw [if_pos ⟨List.all_eq_true.2 h, h2⟩]
theorem cden_len (os : List (Option Rat)) : (cdenO os).length ≤ 24 := by
  unfold cdenO
  split
  · next h =>
    refine (Can_len (Can_rep _) (k := 24)).2 ?_
    rw [val_rep]; exact h.2
  · simp
theorem cden_nil {os : List (Option Rat)} (h : cdenO os ≠ []) : (∀ o ∈ os, o.isSome = true) ∧ ((lcmN os : Nat) : Int) < pw 24 ∧ cdenO os = rep (lcmN os) := by
  unfold cdenO at h ⊢
  split at h
  · next hh => exact ⟨List.all_eq_true.1 hh.1, hh.2, by rw [if_pos hh]⟩
  · exact absurd rfl h
theorem vals_at {K : List Fq} {k : Nat} (h : k < K.length) : (vals K)[k]'(by rw [vals_len]; exact h) = K[k].o := by simp [vals]
theorem lcm_eq (a b : Nat) : a * (b / Nat.gcd a b) = Nat.lcm a b := by
  unfold Nat.lcm
  rw [Nat.mul_div_assoc _ (Nat.gcd_dvd_right a b)]
theorem all_of {K : List Fq} (h : ∀ j (hj : j < K.length), j < K.length → K[j].o.isSome = true) : ∀ o ∈ vals K, o.isSome = true := by
  intro o ho
  obtain ⟨f, hf, rfl⟩ := List.mem_map.1 ho
  obtain ⟨k, hk, rfl⟩ := List.getElem_of_mem hf
  exact h k hk hk
end Go.Proofs.Ytmghoedjcokhpaa

/- Common denominators: the functions on natural numbers, by their values. -/
namespace Go.Proofs.Ytmghoedjcokhpaa
open Go.RowKit
open Go.Lib (hid)
set_option linter.unusedVariables false

theorem nok_v {x : Nat} (h : (x : Int) < pw 60) : nok (rep x) = true ∧ val (rep x) = x ∧ (rep x).length ≤ 1073741824 := by
  have h1 : nok (rep x) = true := nok_iff.2 ⟨by have := rep_len (V := (x : Int)) h; simpa using this, Can_rep _⟩
  exact ⟨h1, val_rep _, by have := nok_len h1; omega⟩
theorem rep_len24 (x : Nat) : (rep x).length ≤ 24 ↔ (x : Int) < pw 24 := by
  rw [Can_len (Can_rep x), val_rep]
theorem gcd_v {x y : Nat} {v u : Value} {b1 b2 : Nat} {w : World} (hx : (x : Int) < pw 60) (hy : (y : Int) < pw 60) (h1 : Ints w b1 v (rep x)) (h2 : Ints w b2 u (rep y)) : Calls Try.prog 79 #[v, u] w (OwnP (rep (Nat.gcd x y)) w) := by
  obtain ⟨n1, v1, l1⟩ := nok_v hx
  obtain ⟨n2, v2, l2⟩ := nok_v hy
  have hh := impl_NatGcd v u _ _ l1 l2 b1 b2 w h1 h2
  unfold gcdR at hh
  rw [n1, n2, if_pos (by decide), v1, v2] at hh
  unfold G at hh
  simp only [Int.toNat_natCast] at hh
  exact hh
theorem div_v {x y : Nat} {v u : Value} {b1 b2 : Nat} {w : World} (hx : (x : Int) < pw 60) (hy : (y : Int) < pw 60) (h0 : 0 < y) (h1 : Ints w b1 v (rep x)) (h2 : Ints w b2 u (rep y)) : Calls Try.prog 45 #[v, u] w (Own2 (rep (x / y)) (rep (x % y)) w) := by
  obtain ⟨n1, v1, l1⟩ := nok_v hx
  obtain ⟨n2, v2, l2⟩ := nok_v hy
  have hh := impl_NatDiv v u _ _ l1 l2 b1 b2 w h1 h2
  obtain ⟨e1, e2⟩ := div_yes n1 n2 (rep_ne (by omega))
  rw [e1, e2, v1, v2, ← Int.natCast_ediv, ← Int.natCast_emod, Int.toNat_natCast, Int.toNat_natCast] at hh
  exact hh
theorem mul_v {x y : Nat} {v u : Value} {b1 b2 : Nat} {w : World} (hx : (x : Int) < pw 60) (hy : (y : Int) < pw 60) (hz : ((x * y : Nat) : Int) < pw 60) (h1 : Ints w b1 v (rep x)) (h2 : Ints w b2 u (rep y)) : Calls Try.prog 116 #[v, u] w (OwnP (rep (x * y)) w) := by
  obtain ⟨n1, v1, l1⟩ := nok_v hx
  obtain ⟨n2, v2, l2⟩ := nok_v hy
  have hh := impl_NatMul v u _ _ l1 l2 b1 b2 w h1 h2
  rw [mulR_yes n1 n2, v1, v2, ← Int.natCast_mul] at hh
  unfold capped at hh
  rw [if_pos hz, Int.toNat_natCast] at hh
  exact hh
theorem sgcd_v {x y : Nat} {v u : Value} {b1 b2 : Nat} {w : World} (hx : (x : Int) < pw 60) (hy : (y : Int) < pw 60) (h1 : Ints w b1 v (rep x)) (h2 : Ints w b2 u (rep y)) : Calls Try.prog 91 #[v, u] w (OwnP (rep (Nat.gcd x y)) w) := by
  obtain ⟨n1, v1, l1⟩ := nok_v hx
  obtain ⟨n2, v2, l2⟩ := nok_v hy
  have hh := l02Gcd_any v u _ _ (nok_len n1) (nok_len n2) (nok_iff.1 n1).2 (nok_iff.1 n2).2 b1 b2 w h1 h2
  rw [v1, v2] at hh
  unfold G at hh
  simp only [Int.toNat_natCast] at hh
  exact hh
theorem sdiv_v {x y : Nat} {v u : Value} {b1 b2 : Nat} {w : World} (hx : (x : Int) < pw 60) (hy : (y : Int) < pw 60) (h0 : 0 < y) (h1 : Ints w b1 v (rep x)) (h2 : Ints w b2 u (rep y)) : Calls Try.prog 90 #[v, u] w (DivS (rep (x / y)) (rep (x % y)) w) := by
  obtain ⟨n1, v1, l1⟩ := nok_v hx
  obtain ⟨n2, v2, l2⟩ := nok_v hy
  obtain ⟨a, c, rfl, -, r1, -⟩ := Ints_form h1
  obtain ⟨a', c', rfl, -, r2, -⟩ := Ints_form h2
  have hh := l02Div_any a a' _ _ c c' _ _ (nok_len n1) (nok_len n2) (nok_iff.1 n1).2.1 (nok_iff.1 n2).2 (by rw [v2]; omega) w r1 r2
  rw [v1, v2, ← Int.natCast_ediv, ← Int.natCast_emod, Int.toNat_natCast, Int.toNat_natCast] at hh
  exact hh
theorem smul_v {x y : Nat} {v u : Value} {b1 b2 : Nat} {w : World} (hx : (x : Int) < pw 60) (hy : (y : Int) < pw 60) (h1 : Ints w b1 v (rep x)) (h2 : Ints w b2 u (rep y)) : Calls Try.prog 92 #[v, u] w (OwnP (rep (x * y)) w) := by
  obtain ⟨n1, v1, l1⟩ := nok_v hx
  obtain ⟨n2, v2, l2⟩ := nok_v hy
  have hh := mul_p h1 h2 n1 n2
  rw [v1, v2, ← Int.natCast_mul, Int.toNat_natCast] at hh
  exact hh
/-- What the slices of a fraction hold. -/
theorem RL_lists {w : World} {s : Bool} {v u : Value} {A D : List Int} {x : Rat} (h : RL w v u A D) (hx : rval s A D = some x) : A = rep (ndp (some x)).1 ∧ D = rep (ndp (some x)).2 ∧ ((ndp (some x)).1 : Int) < pw 24 ∧ ((ndp (some x)).2 : Int) < pw 24 ∧ 0 < (ndp (some x)).2 := by
  have hf : fit x := fitO_rval s A D x hx
  obtain ⟨-, e2, e3⟩ := rval_lists hx
  have hp := pw24_60
  have h1 : (ndp (some x)).1 = x.num.natAbs := by simp [ndp, qn]
  have h2 : (ndp (some x)).2 = x.den := by simp [ndp, qd]
  rw [h1, h2]
  refine ⟨?_, ?_, hf.1, hf.2, x.den_pos⟩
  · rw [← e2]; unfold gzl capped
    have := hf.1
    rw [if_pos (by omega)]
    first | rfl | simp
  · rw [← e3]; unfold gzl capped
    have := hf.2
    rw [if_pos (by simp; omega)]
    first | rfl | simp
end Go.Proofs.Ytmghoedjcokhpaa

/- Common denominators (the program). -/
namespace Go.Proofs.Ytmghoedjcokhpaa
open Go.RowKit
open Go.Lib (hid)
set_option linter.unusedVariables false

theorem pwp : pw 24 * pw 24 < pw 60 := by decide
theorem mul_lt24 {x y : Nat} (hx : (x : Int) < pw 24) (hy : (y : Int) < pw 24) : ((x * y : Nat) : Int) < pw 60 := by
  have h1 : ((x * y : Nat) : Int) ≤ pw 24 * pw 24 := by
    rw [Int.natCast_mul]
    exact Int.mul_le_mul (by omega) (by omega) (by omega) (Int.le_of_lt (pw_pos 24))
  have := pwp
  omega
theorem lcm_lt24 {x y : Nat} (hx : (x : Int) < pw 24) (hy : (y : Int) < pw 24) (h0 : 0 < x) (h1 : 0 < y) : ((Nat.lcm x y : Nat) : Int) < pw 60 := by
  have h2 : Nat.lcm x y ≤ x * y := Nat.le_of_dvd (Nat.mul_pos h0 h1) (Nat.lcm_dvd_mul x y)
  have h3 := mul_lt24 hx hy
  omega
set_option maxRecDepth 100000 in
set_option maxHeartbeats 6400000 in
theorem leastMultiple_v {x y : Nat} {a : Option Addr} {n c : Nat} {b : Option Addr} {m d : Nat} {b1 b2 : Nat} {w : World} (hx : (x : Int) < pw 24) (hy : (y : Int) < pw 24) (h0 : 0 < x) (h1 : 0 < y) (hv : Ints w b1 (.slice a n c) (rep x)) (hu : Ints w b2 (.slice b m d) (rep y)) :
    Calls Try.prog 78 #[.slice a n c, .slice b m d] w (OwnP (rep (Nat.lcm x y)) w) := by
  have hp := pw24_60
  have hg0 : 0 < Nat.gcd x y := Nat.gcd_pos_of_pos_left _ h0
  have hgl : Nat.gcd x y ≤ y := Nat.gcd_le_right _ h1
  have hql : y / Nat.gcd x y ≤ y := Nat.div_le_self _ _
  have KG := hid (gcd_v (x := x) (y := y) (by omega) (by omega) hv hu)
  have KD := hid (fun (W : World) (v u : Value) (c1 c2 : Nat) (h1 : Ints W c1 v (rep y)) (h2 : Ints W c2 u (rep (Nat.gcd x y))) => div_v (by omega) (by omega) hg0 h1 h2)
  have KM := hid (fun (W : World) (v u : Value) (c1 c2 : Nat) (h1 : Ints W c1 v (rep x)) (h2 : Ints W c2 u (rep (y / Nat.gcd x y))) => mul_v (by omega) (by omega) (by rw [lcm_eq]; exact lcm_lt24 hx hy h0 (by omega)) h1 h2)
  have HV := hid hv
  have HU := hid hu
  have HE := hid (lcm_eq x y)
  clear hv hu hx hy h0 h1 hp hg0 hgl hql
  generalize y / Nat.gcd x y = q at KD KM HE
  generalize Nat.gcd x y = gg at KG KD
  go_enter Try.func78, Try.ntmps78
  go_wp2_with fail
  (with_reducible refine (KG.out).mono ?_)
  rintro e w1 ⟨v1, rfl, i1, hb1⟩
  have B := hid hb1
  have HV1 := hid (Ints_old HV.out hb1)
  have HU1 := hid (Ints_old HU.out hb1)
  have HG := hid i1
  obtain ⟨a1, c1, rfl, -⟩ := Ints_form i1
  clear i1 hb1
  go_wp2_with fail
  (with_reducible refine (KD.out _ _ _ _ _ HU1.out HG.out).mono ?_)
  rintro e w2 ⟨v2, u2, rfl, i2, -, -, hb2⟩
  have HV2 := hid (Ints_old HV1.out hb2)
  have HQ := hid i2
  have B := hid (B.out.trans (hb2.mono B.out.size))
  obtain ⟨a2, c2, rfl, -⟩ := Ints_form i2
  clear i2 hb2
  go_wp2_with fail
  (with_reducible refine (KM.out _ _ _ _ _ HV2.out HQ.out).mono ?_)
  rintro e w3 ⟨v3, rfl, i3, hb3⟩
  have R := hid (show OwnP (rep (Nat.lcm x y)) w (.returned v3) w3 from ⟨v3, rfl, by rw [← HE.out]; exact Ints_base i3 B.out.size, B.out.trans (hb3.mono B.out.size)⟩)
  clear i3 hb3
  go_wp2
  go_ret
  exact R.out
set_option maxRecDepth 100000 in
set_option maxHeartbeats 6400000 in
theorem impl_CommonDenominator {p : Bool} {a : Option Addr} {n c : Nat} {K : List Fq} {lo hi : Nat} (hK : Sm K) (w : World) (h : VK p w (.slice a n c) K lo hi) :
    Calls Try.prog 40 #[.slice a n c] w (OwnP (cdenO (vals K)) w) := by
  have HV := hid h
  obtain rfl := h.num
  clear h
  have hkl := hK.2
  obtain ⟨R0, hR0⟩ : ∃ R, R = cdenO (vals K) := ⟨_, rfl⟩
  rw [← hR0]
  have HR0 := hid hR0
  clear hR0
  have K1 := hid (show ∀ W : World, Calls Try.prog 77 #[.int .i64 1] W (OwnP [1] W) from fun W => by have h := impl_NatOf 1 (by decide) W; rwa [show rep (Int.toNat 1) = [1] from rep_one.2 rfl] at h)
  go_enter Try.func40, Try.ntmps40
  go_wp2_with fail
  (with_reducible refine (K1.out _).mono ?_)
  rintro e w1 ⟨v1, rfl, i1, hb1⟩
  have I1 := hid i1
  have B1 := hid hb1
  obtain ⟨a1, c1, rfl, -⟩ := Ints_form i1
  clear i1 hb1
  go_wp2
  go_loopw [3, 9] (fun v i wr => ∃ (k m : Nat) (a' : Option Addr) (n' c' : Nat), k ≤ K.length ∧ i = .int .i64 k ∧ v = .slice a' n' c' ∧ Hid (m = lcmN ((vals K).take k)) ∧ Hid ((m : Int) < pw 24 ∧ 0 < m) ∧ Hid (∀ j (h : j < K.length), j < k → K[j].o.isSome = true) ∧ Hid (Ints wr w.heap.size (.slice a' n' c') (rep m)) ∧ Below w.heap.size w wr) (fun _ i _ => K.length - (intOf i).toNat)
  case atStart => exact ⟨0, 1, _, _, _, Nat.zero_le _, rfl, rfl, hid (by simp [lcmN]), hid ⟨by decide, by decide⟩, hid (fun j h hj => absurd hj (by omega)), hid (by rw [rep_one.2 rfl]; exact I1.out), B1.out⟩
  case round =>
    obtain ⟨k, m, a', n', c', hk, rfl, rfl, hm, hm1, hA, hI, hbel⟩ := hrel
    by_cases hlt : k < K.length
    · have V := hid (HV.out.old hbel)
      obtain ⟨g, a3, n3, c3, b3, m3, d3, rfl, hg, q0, q1, q2, R⟩ := V.out.at hK hlt
      obtain ⟨⟨s, A, D⟩, hf⟩ : ∃ f, K[k]'(hlt) = f := ⟨_, rfl⟩
      simp only [hf] at q0 R
      have HF := hid hf
      clear hf
      have HB := hid (hbel.alloc hbel.size (.cells #[.bool s, .slice a3 n3 c3, .slice b3 m3 d3] 45))
      have hz := hbel.size
      have I2 := hid (Ints_old hI.out (below_new' (o := .cells #[.bool s, .slice a3 n3 c3, .slice b3 m3 d3] 45)))
      have LE := hid (LocA.new (w := wr) (T := 45) (cs := #[.bool s, .slice a3 n3 c3, .slice b3 m3 d3]))
      have a1' : (0 : Int) ≤ k := by omega
      have a2 : (k : Int) < K.length := by omega
      clear hbel
      cases ho : Fq.o ⟨s, A, D⟩ with
      | none =>
        have KO := hid (fun (W : World) (hb : Below wr.heap.size wr W) => ok_none (w := W) (RA.old ⟨A, D, R, ho⟩ hb))
        have HN := hid (cden_no (os := vals K) (k := k) (by rw [vals_len]; exact hlt) (by rw [vals_at hlt, HF.out, ho]))
        clear ho R
        go_wp2_with fail
        (with_reducible refine (KO.out _ below_new').mono ?_)
        rintro e w2 ⟨rfl, hb⟩
        have HB := hid (HB.out.trans (hb.mono HB.out.size))
        clear hb q0 q1 q2
        go_wp2
        go_ret
        exact ⟨_, rfl, by rw [HR0.out, HN.out]; exact Ints_nil _ _, HB.out⟩
      | some x =>
        have KO := hid (fun (W : World) (hb : Below wr.heap.size wr W) => ok_some (w := W) (RA.old ⟨A, D, R, ho⟩ hb))
        obtain ⟨-, hD, -, hd24, hd0⟩ := RL_lists R ho
        have HD := hid (show ∀ W, Below wr.heap.size wr W → ∃ b, Ints W b (.slice b3 m3 d3) (rep (ndp (some x)).2) from fun W hb => by
          obtain ⟨b', hb'⟩ := R.d
          exact ⟨b', by rw [← hD]; exact Ints_old hb' hb⟩)
        have HL := hid (show lcmN ((vals K).take (k + 1)) = Nat.lcm m (ndp (some x)).2 by rw [lcmN_take (by rw [vals_len]; exact hlt), vals_at hlt, HF.out, ho, hm.out])
        have HS := hid (show K[k].o.isSome = true by rw [HF.out, ho]; rfl)
        clear ho R hD
        generalize (ndp (some x)).2 = dd at HD HL hd24 hd0
        go_wp2_with fail
        (with_reducible refine (KO.out _ below_new').mono ?_)
        rintro e w2 ⟨rfl, hb⟩
        have HB := hid (HB.out.trans (hb.mono HB.out.size))
        have I3 := hid (Ints_old I2.out hb)
        have LE := hid (LE.out.old hb)
        have BW := hid ((below_new' (o := .cells #[.bool s, .slice a3 n3 c3, .slice b3 m3 d3] 45)).trans (hb.mono (by simp)))
        obtain ⟨bd, hbd⟩ := HD.out w2 BW.out
        have x2 := LE.out.c 2 (v := .slice b3 m3 d3) rfl
        have KL := hid (leastMultiple_v hm1.out.1 hd24 hm1.out.2 hd0 I3.out hbd)
        have hdd0 := hid hd0
        clear hb q0 q1 q2 hbd hd24 hd0
        go_wp2_with fail
        (with_reducible refine (KL.out).mono ?_)
        rintro e w3 ⟨v3, rfl, i3, hb⟩
        have HB := hid (HB.out.trans (hb.mono HB.out.size))
        have I4 := hid (Ints_base i3 (show w.heap.size ≤ w2.heap.size from by have := BW.out.size; omega))
        have HM0 := hid (Nat.lcm_pos hm1.out.2 hdd0.out)
        rw [← HL.out] at I4 HM0
        have HLn := hid (rep_len24 (lcmN ((vals K).take (k + 1))))
        obtain ⟨m', hm'⟩ : ∃ m', m' = lcmN ((vals K).take (k + 1)) := ⟨_, rfl⟩
        rw [← hm'] at I4 HM0 HLn
        have HM' := hid hm'
        obtain ⟨L', hL'⟩ : ∃ L', L' = rep m' := ⟨_, rfl⟩
        rw [← hL'] at I4 HLn
        have HL' := hid hL'
        clear hL'
        obtain ⟨a4, c4, rfl, -⟩ := Ints_form I4.out
        clear i3 hb x2 hm'
        by_cases hbig : L'.length ≤ 24
        · have h24 : ¬ (24 : Int) < L'.length := by omega
          have hm2 := hid (HLn.out.1 hbig)
          clear hbig
          have a3' : (k : Int) + 1 ≤ K.length := by omega
          have hkl' : (K.length : Int) ≤ 1048576 := by omega
          have h25 : decide ((24 : Int) < (L'.length : Int)) = false := decide_eq_false h24
          clear h24
          go_wp2
          go_roundw
          case rel => exact ⟨k + 1, m', _, _, _, by omega, by go_num, rfl, HM', hid ⟨hm2.out, HM0.out⟩, hid (fun j h hj => by
            rcases Nat.lt_or_eq_of_le (Nat.le_of_lt_succ hj) with hj' | rfl
            · exact hA.out j h hj'
            · exact HS.out), hid (by rw [← HL'.out]; exact I4.out), HB.out⟩
          case measure => simp [intOf]; omega
        · have h24 : (24 : Int) < L'.length := by omega
          have HN := hid (cden_long (os := vals K) (k := k + 1) (by rw [← HM'.out]; exact fun h => hbig (HLn.out.2 h)))
          go_wp2
          go_ret
          exact ⟨_, rfl, by rw [HR0.out, HN.out]; exact Ints_nil _ _, HB.out⟩
    · obtain rfl : k = K.length := by omega
      have HB := hid hbel
      have HY := hid (show R0 = rep m by
        have h1 := hm.out
        rw [List.take_of_length_le (by rw [vals_len]; exact Nat.le_refl _)] at h1
        rw [HR0.out, cden_yes (all_of fun j hj _ => hA.out j hj hj) (by rw [← h1]; exact hm1.out.1), h1])
      clear hbel
      go_wp2
      go_ret
      exact ⟨_, rfl, by rw [HY.out]; exact hI.out, HB.out⟩
end Go.Proofs.Ytmghoedjcokhpaa
