import Derived.Test.YthkehmnodcmlcaaGreatXw
set_option maxRecDepth 512
set_option maxHeartbeats 200000
set_option linter.unusedVariables false
set_option linter.unusedSimpArgs false
namespace Go.Proofs.YthkehmnodcmlcaaGreat
open Go.RowKit
open Go.Lib (hid)
def rv (X : List Rat) : List Fq := X.map fun x => fqo (some x)
def AF (X : List Rat) : Prop := ∀ x ∈ X, fit x
def el (X : List Rat) (k : Nat) : Rat := X.getD k 0
theorem el_at {X : List Rat} {k : Nat} (h : k < X.length) : el X k = X[k] := by simp [el, h]
theorem rv_len (X : List Rat) : (rv X).length = X.length := by simp [rv]
theorem fr_o {x : Rat} (h : fit x) : (fqo (some x)).o = some x := fqo_o fun y e => by cases e; exact h
theorem vals_rv : ∀ {X : List Rat}, AF X → vals (rv X) = X.map Option.some
 | [], _ => rfl
 |x :: X, h => by
  have h1 := fr_o (h x (List.mem_cons_self ..))
  have h2 := vals_rv (X := X) fun y hy => h y (List.mem_cons_of_mem _ hy)
  unfold vals rv at h2 ⊢
  rw [List.map_cons, List.map_cons, List.map_cons, h1, h2]
theorem oks_some1 {X : List Rat} (h : X.length ≤ 40) : oks (X.map Option.some) = true := by
 unfold oks
 rw [List.length_map, decide_eq_true h, Bool.true_and, List.all_eq_true]
 intro o ho
 obtain ⟨x, -, rfl⟩ := List.mem_map.1 ho
 rfl
theorem oks_rv {X : List Rat} (hX : AF X) (h : X.length ≤ 40) : oks (vals (rv X)) = true := by
 rw [vals_rv hX]; exact oks_some1 h
theorem rv_of : ∀ {K : List Fq}, (∀ f ∈ K, f.o.isSome = true) → ∃ X, K = rv X ∧ AF X
 | [], _ => ⟨[], rfl, fun x hx => by cases hx⟩
 |f :: K, h => by
  obtain ⟨X, e, hX⟩ := rv_of (K := K) fun g hg => h g (List.mem_cons_of_mem _ hg)
  have h1 := h f (List.mem_cons_self ..)
  obtain ⟨x, ex⟩ := Option.isSome_iff_exists.1 h1
  refine ⟨x :: X, ?_, fun y hy => ?_⟩
  ·rw [fq_canon h1, ex, e]; rfl
  ·rcases List.mem_cons.1 hy with rfl | hy
   ·exact fitO_o f _ ex
   ·exact hX y hy
theorem rv_row {K : List Fq} (h : oks (vals K) = true) : ∃ X, K = rv X ∧ AF X := rv_of fun f hf => by
 obtain ⟨k, hk, rfl⟩ := List.getElem_of_mem hf
 exact oks_at h hk
theorem vres_yes {l : List Rat} (h : AF l) (h4 : l.length ≤ 40) : vres (l.map capF) = rv l := by
 have e : l.map capF = l.map Option.some := List.map_congr_left fun x hx => capF_yes (h x hx)
 rw [e]
 unfold vres
 rw [if_pos (oks_some1 h4), List.map_map]; rfl
theorem oks_cap {l : List Rat} (h : ¬ AF l) : oks (l.map capF) = false := by
 cases e : oks (l.map capF)
 ·rfl
 ·refine absurd (fun x hx => ?_) h
  simp only [oks, Bool.and_eq_true, List.all_eq_true] at e
  have := e.2 _ (List.mem_map_of_mem (f := capF) hx)
  unfold capF at this
  split at this
  ·assumption
  ·cases this
theorem vres_not {l : List Rat} (h : ¬ AF l) : vres (l.map capF) = [] := by
 unfold vres; rw [oks_cap h, if_neg (by decide)]
theorem vres_none {os : List (Option Rat)} {o : Option Rat} (h : o ∈ os) (hn : o = none) : vres os = [] := by
 unfold vres
 rw [if_neg]
 intro e
 simp only [oks, Bool.and_eq_true, List.all_eq_true] at e
 have := e.2 _ h
 rw [hn] at this
 cases this
theorem mulF_eq (x y : Rat) : mulF x y = capF (x * y) := rfl
theorem smO_rv : ∀ {X : List Rat}, AF X → ∀ (f : Rat), smO (rv X) (some f) = (X.map (· * f)).map capF
 | [], _, _ => rfl
 |x :: X, h, f => by
  have ih := smO_rv (X := X) (fun y hy => h y (List.mem_cons_of_mem _ hy)) f
  unfold smO rv at ih ⊢
  rw [List.map_cons, List.map_cons, List.map_cons, List.map_cons, ih, fr_o (h x (List.mem_cons_self ..)), bq_some, mulF_eq]
theorem zw_rv : ∀ {X Y : List Rat}, AF X → AF Y → zw subF (rv X) (rv Y) = (List.zipWith (· - ·) X Y).map capF
 | [], _, _, _ => by simp [zw, rv]
 | _ :: _, [], _, _ => by simp [zw, rv]
 |x :: X, y :: Y, h, h' => by
  have ih := zw_rv (X := X) (Y := Y) (fun z hz => h z (List.mem_cons_of_mem _ hz)) (fun z hz => h' z (List.mem_cons_of_mem _ hz))
  unfold zw rv at ih ⊢
  rw [List.map_cons, List.map_cons, List.zipWith_cons_cons, List.zipWith_cons_cons, List.map_cons, ih, fr_o (h x (List.mem_cons_self ..)), fr_o (h' y (List.mem_cons_self ..)), bq_some, subF]
def clr (P : List Rat) (c : Nat) (X : List Rat) : List Rat := if el X c = 0 then X else List.zipWith (fun x p => x - p * (el X c / el P c)) X P
def clrOk (P : List Rat) (c : Nat) (X : List Rat) : Prop := el X c = 0 ∨ (fit (el X c / el P c) ∧ AF (P.map (· * (el X c / el P c))) ∧ AF (clr P c X))
theorem clr_zero {P : List Rat} {c : Nat} {X : List Rat} (h : el X c = 0) : clr P c X = X := by unfold clr; rw [if_pos h]
theorem clr_len {P : List Rat} {c : Nat} {X : List Rat} (h : P.length = X.length) : (clr P c X).length = X.length := by
 unfold clr; split
 ·rfl
 ·simp [h]
theorem zip_map_sub (f : Rat) : ∀ X P : List Rat, List.zipWith (· - ·) X (P.map (· * f)) = List.zipWith (fun x p => x - p * f) X P
 | [], _ => by simp
 | _ :: _, [] => by simp
 | x :: X, p :: P => by simp [zip_map_sub f X P]
theorem clr_val {P : List Rat} {c : Nat} {X : List Rat} (hP : AF P) (hX : AF X) (hl : P.length = X.length) (hc : c < X.length) (hp0 : el P c ≠ 0) (hx0 : el X c ≠ 0) (h4 : X.length ≤ 40) :
  (clrOk P c X → vzip subF (rv X) (vscale (rv P) (bq divF (some (el X c)) (some (el P c)))) = rv (clr P c X)) ∧ (¬ clrOk P c X → vzip subF (rv X) (vscale (rv P) (bq divF (some (el X c)) (some (el P c)))) = []) := by
 have nil' : vzip subF (rv X) [] = [] := by
  unfold vzip
  rw [if_neg (by rw [rv_len, List.length_nil]; omega)]
 have e0 : bq divF (some (el X c)) (some (el P c)) = capF (el X c / el P c) := by
  show divF _ _ = _
  unfold divF; rw [if_neg hp0]
 have ec : clr P c X = List.zipWith (· - ·) X (P.map (· * (el X c / el P c))) := by
  unfold clr; rw [if_neg hx0, zip_map_sub]
 rw [e0]
 by_cases hf : fit (el X c / el P c)
 ·rw [capF_yes hf]
  unfold vscale
  rw [smO_rv hP]
  by_cases hm : AF (P.map (· * (el X c / el P c)))
  ·have ez : vzip subF (rv X) (rv (P.map (· * (el X c / el P c)))) = vres ((clr P c X).map capF) := by
    unfold vzip
    rw [if_pos (by rw [rv_len, rv_len, List.length_map, hl]), zw_rv hX hm, ec]
   rw [vres_yes hm (by rw [List.length_map]; omega), ez]
   refine ⟨fun h => ?_, fun h => ?_⟩
   ·rcases h with h | h
    ·exact absurd h hx0
    ·exact vres_yes h.2.2 (by rw [clr_len hl]; exact h4)
   ·exact vres_not fun ha => h (.inr ⟨hf, hm, ha⟩)
  ·rw [vres_not hm, nil']
   exact ⟨fun h => by rcases h with h | h; exact absurd h hx0; exact absurd h.2.1 hm, fun _ => rfl⟩
 ·have : vscale (rv P) (capF (el X c / el P c)) = [] := by
   unfold vscale
   have en : capF (el X c / el P c) = none := by unfold capF; rw [if_neg hf]
   rw [en]
   have hPc : c < P.length := by omega
   refine vres_none (o := none) ?_ rfl
   unfold smO
   refine List.mem_map.2 ⟨(rv P)[c]'(by rw [rv_len]; exact hPc), List.getElem_mem _, ?_⟩
   cases ((rv P)[c]'(by rw [rv_len]; exact hPc)).o <;> rfl
  rw [this, nil']
  exact ⟨fun h => by rcases h with h | h; exact absurd h hx0; exact absurd h.1 hf, fun _ => rfl⟩
def fnd (R : List (List Rat)) (d c : Nat) : Option Nat := (List.range R.length).find? fun i => decide (d ≤ i) && decide (el (R.getD i []) c ≠ 0)
theorem fnd_some {R : List (List Rat)} {d c i : Nat} (hd : d ≤ i) (hi : i < R.length) (h0 : el R[i] c ≠ 0) (hz : ∀ j (h : j < R.length), d ≤ j → j < i → el R[j] c = 0) : fnd R d c = some i := by
 unfold fnd
 rw [List.find?_range_eq_some]
 refine ⟨by simp [hd, hi, h0], by simpa using hi, fun j hj => ?_⟩
 have hj' : j < R.length := by omega
 by_cases hdj : d ≤ j
 ·have := hz j hj' hdj hj
  simp [hj', this]
 ·simp [hdj]
theorem fnd_none {R : List (List Rat)} {d c : Nat} (hz : ∀ j (h : j < R.length), d ≤ j → el R[j] c = 0) : fnd R d c = none := by
 unfold fnd
 rw [List.find?_eq_none]
 intro j hj
 have hj' : j < R.length := by simpa using hj
 by_cases hdj : d ≤ j
 ·have := hz j hj' hdj
  simp [hj', this]
 ·simp [hdj]
theorem fnd_of {R : List (List Rat)} {d c i : Nat} (h : fnd R d c = some i) : ∃ hi : i < R.length, d ≤ i ∧ el R[i] c ≠ 0 ∧ ∀ j (h : j < R.length), d ≤ j → j < i → el R[j] c = 0 := by
 unfold fnd at h
 rw [List.find?_range_eq_some] at h
 obtain ⟨h1, h2, h3⟩ := h
 have hi : i < R.length := by simpa using h2
 refine ⟨hi, ?_, ?_, fun j hj hdj hji => ?_⟩
 ·simp at h1; exact h1.1
 ·simp [hi] at h1; exact h1.2
 ·have := h3 j hji
  simp [hj, hdj] at this
  exact this
def mvf {α : Type} (R : List α) (d i : Nat) : List α := R.take d ++ (R.drop i).take 1 ++ (R.drop d).take (i - d) ++ R.drop (i + 1)
theorem mvf_len {α : Type} {R : List α} {d i : Nat} (hd : d ≤ i) (hi : i < R.length) : (mvf R d i).length = R.length := by
 simp [mvf]; omega
theorem mvf_eq {α : Type} {R : List α} {d i : Nat} (hi : i < R.length) : mvf R d i = R.take d ++ R[i] :: ((R.drop d).take (i - d) ++ R.drop (i + 1)) := by
 have : (R.drop i).take 1 = [R[i]] := by rw [List.drop_eq_getElem_cons hi]; rfl
 unfold mvf
 rw [this]; simp
theorem mvf_perm {α : Type} {R : List α} {d i : Nat} (hd : d ≤ i) (hi : i < R.length) : (mvf R d i).Perm R := by
 rw [mvf_eq hi]
 have e : R = R.take d ++ ((R.drop d).take (i - d) ++ R[i] :: R.drop (i + 1)) := by
  conv => lhs; rw [← List.take_append_drop d R]
  congr 1
  conv => lhs; rw [← List.take_append_drop (i - d) (R.drop d)]
  congr 1
  rw [List.drop_drop, show d + (i - d) = i by omega, List.drop_eq_getElem_cons hi]
 conv => rhs; rw [e]
 exact List.Perm.append_left _ List.perm_middle.symm
theorem mvf_mem {α : Type} {R : List α} {d i : Nat} (hd : d ≤ i) (hi : i < R.length) {x : α} (h : x ∈ mvf R d i) : x ∈ R := (mvf_perm hd hi).mem_iff.1 h
structure Rows (W : Nat) (R : List (List Rat)) : Prop where
 len : ∀ X ∈ R, X.length = W
 af : ∀ X ∈ R, AF X
theorem Rows.at {W : Nat} {R : List (List Rat)} (h : Rows W R) {k : Nat} (hk : k < R.length) : R[k].length = W ∧ AF R[k] := ⟨h.len _ (List.getElem_mem hk), h.af _ (List.getElem_mem hk)⟩
theorem Rows.mvf {W : Nat} {R : List (List Rat)} (h : Rows W R) {d i : Nat} (hd : d ≤ i) (hi : i < R.length) : Rows W (mvf R d i) := ⟨fun X hX => h.len X (mvf_mem hd hi hX), fun X hX => h.af X (mvf_mem hd hi hX)⟩
theorem clr_af {P : List Rat} {c : Nat} {X : List Rat} (h : clrOk P c X) (hX : AF X) : AF (clr P c X) := by
 rcases h with h | h
 ·rw [clr_zero h]; exact hX
 ·exact h.2.2
theorem oks_bad {os : List (Option Rat)} {k : Nat} (hk : k < os.length) (hn : os[k] = none) : oks os = false := by
 cases e : oks os
 ·rfl
 ·simp only [oks, Bool.and_eq_true, List.all_eq_true] at e
  have := e.2 _ (List.getElem_mem hk)
  rw [hn] at this
  cases this
theorem capF_not {x : Rat} (h : ¬ fit x) : capF x = none := by unfold capF; rw [if_neg h]
theorem div_cap {c : Nat} {X : List Rat} (h0 : el X c ≠ 0) (x : Rat) : bq divF (some x) (some (el X c)) = capF (x / el X c) := by
 show divF _ _ = _
 unfold divF; rw [if_neg h0]
def spR (P : List (Option Rat)) (f : Option Rat) (X : List Rat) : List (Option Rat) := List.zipWith (fun x po => bq subF (some x) (bq mulF f po)) X P
theorem spR_len {P : List (Option Rat)} {f : Option Rat} {X : List Rat} (h : P.length = X.length) : (spR P f X).length = X.length := by simp [spR, h]
theorem spR_at {P : List (Option Rat)} {f : Option Rat} {X : List Rat} {k : Nat} (hk : k < X.length) (h : P.length = X.length) : (spR P f X)[k]'(by rw [spR_len h]; exact hk) = bq subF (some X[k]) (bq mulF f (P[k]'(by omega))) := by simp [spR]
theorem bq_none_r' (f : Rat → Rat → Option Rat) (o : Option Rat) : bq f o none = none := by cases o <;> rfl
theorem mul_comm' (x y : Rat) : x * y = y * x := Rat.mul_comm x y
theorem spR_val {P : List Rat} {c : Nat} {X : List Rat} (hX : AF X) (hP : AF P) (hl : P.length = X.length) (hx0 : el X c ≠ 0) (hp0 : el P c ≠ 0) (hc : c < X.length) :
  (clrOk P c X → spR (P.map Option.some) (capF (el X c / el P c)) X = (clr P c X).map Option.some) ∧ (¬ clrOk P c X → oks (spR (P.map Option.some) (capF (el X c / el P c)) X) = false) := by
 have hlm : (P.map Option.some).length = X.length := by rw [List.length_map, hl]
 have cl : (clr P c X).length = X.length := clr_len hl
 have ca : ∀ k (hk : k < X.length), (clr P c X)[k]'(by omega) = X[k] - P[k]'(by omega) * (el X c / el P c) := fun k hk => by
  simp only [clr, if_neg hx0, List.getElem_zipWith]
 refine ⟨fun h => ?_, fun h => ?_⟩
 ·rcases h with h | ⟨h1, h2, h3⟩
  ·exact absurd h hx0
  ·rw [capF_yes h1]
   apply List.ext_getElem
   ·rw [spR_len hlm, List.length_map, cl]
   ·intro k hk hk'
    have hkX : k < X.length := by rw [spR_len hlm] at hk; exact hk
    rw [spR_at hkX hlm, List.getElem_map, List.getElem_map, ca k hkX, bq_some]
    have e1 : mulF (el X c / el P c) (P[k]'(by omega)) = some (P[k]'(by omega) * (el X c / el P c)) := by
     unfold mulF
     rw [mul_comm']
     exact capF_yes (h2 _ (List.mem_map.2 ⟨P[k]'(by omega), List.getElem_mem _, rfl⟩))
    rw [e1, bq_some]
    unfold subF
    have := h3 _ (List.getElem_mem (show k < (clr P c X).length by omega))
    rw [ca k hkX] at this
    exact capF_yes this
 ·by_cases h1 : fit (el X c / el P c)
  ·rw [capF_yes h1]
   have hk : ∃ k, ∃ hk : k < X.length, ¬ (fit (P[k]'(by omega) * (el X c / el P c)) ∧ fit ((clr P c X)[k]'(by omega))) := by
    apply Classical.byContradiction
    intro hc
    apply h
    refine .inr ⟨h1, fun y hy => ?_, fun y hy => ?_⟩
    ·obtain ⟨p, hp, rfl⟩ := List.mem_map.1 hy
     obtain ⟨k, hk, rfl⟩ := List.getElem_of_mem hp
     exact Classical.byContradiction fun hn => hc ⟨k, by omega, fun e => hn e.1⟩
    ·obtain ⟨k, hk, rfl⟩ := List.getElem_of_mem hy
     exact Classical.byContradiction fun hn => hc ⟨k, by omega, fun e => hn e.2⟩
   obtain ⟨k, hk, hn⟩ := hk
   refine oks_bad (k := k) (by rw [spR_len hlm]; exact hk) ?_
   rw [spR_at hk hlm, List.getElem_map, bq_some]
   by_cases h2 : fit (P[k]'(by omega) * (el X c / el P c))
   ·have e1 : mulF (el X c / el P c) (P[k]'(by omega)) = some (P[k]'(by omega) * (el X c / el P c)) := by
     unfold mulF; rw [mul_comm']; exact capF_yes h2
    rw [e1, bq_some]
    unfold subF
    rw [← ca k hk]
    exact capF_not fun e => hn ⟨h2, e⟩
   ·have e1 : mulF (el X c / el P c) (P[k]'(by omega)) = none := by
     unfold mulF; rw [mul_comm']; exact capF_not h2
    rw [e1, bq_none_r']
  ·rw [capF_not h1]
   refine oks_bad (k := c) (by rw [spR_len hlm]; exact hc) ?_
   rw [spR_at hc hlm, List.getElem_map]
   rfl
theorem mvf_get {α : Type} {R : List α} {d i : Nat} (hd : d ≤ i) (hi : i < R.length) {k : Nat} (hk : k < R.length) : (mvf R d i)[k]'(by rw [mvf_len hd hi]; exact hk) = if k < d then R[k] else if k = d then R[i] else if h : k ≤ i then R[k - 1]'(by omega) else R[k] := by
 have : ∀ o, (mvf R d i)[k]? = some o → (mvf R d i)[k]'(by rw [mvf_len hd hi]; exact hk) = o := fun o h => by
  rw [List.getElem?_eq_getElem (by rw [mvf_len hd hi]; exact hk)] at h
  exact Option.some.inj h
 apply this
 rw [mvf_eq hi]
 by_cases h1 : k < d
 ·rw [if_pos h1, List.getElem?_append_left (by rw [List.length_take]; omega), List.getElem?_take_of_lt h1, List.getElem?_eq_getElem hk]
 ·rw [if_neg h1, List.getElem?_append_right (by rw [List.length_take]; omega), List.length_take, show min d R.length = d by omega]
  by_cases h2 : k = d
  ·subst h2; simp
  ·rw [if_neg h2]
   obtain ⟨j, hj⟩ : ∃ j, k - d = j + 1 := ⟨k - d - 1, by omega⟩
   rw [hj, List.getElem?_cons_succ]
   by_cases h3 : k ≤ i
   ·rw [dif_pos h3, List.getElem?_append_left (by rw [List.length_take, List.length_drop]; omega), List.getElem?_take_of_lt (by omega), List.getElem?_drop, show d + j = k - 1 by omega, List.getElem?_eq_getElem (by omega)]
   ·rw [dif_neg h3, List.getElem?_append_right (by rw [List.length_take, List.length_drop]; omega), List.length_take, List.length_drop, List.getElem?_drop, show i + 1 + (j - min (i - d) (R.length - d)) = k by omega, List.getElem?_eq_getElem hk]
def dfin (R : List (List Rat)) (d : Nat) : List (List Rat) := R.take (d + 1) ++ (R.drop (d + 1)).map (clr (R.getD d []) d)
def dOk (R : List (List Rat)) (d : Nat) : Prop := ∀ X ∈ R.drop (d + 1), clrOk (R.getD d []) d X
theorem dfin_len (R : List (List Rat)) (d : Nat) : (dfin R d).length = R.length := by simp [dfin]; omega
theorem dfin_at {R : List (List Rat)} {d i : Nat} (hd : d < R.length) (hi : i < R.length) : (dfin R d)[i]'(by rw [dfin_len]; exact hi) = if i ≤ d then R[i] else clr R[d] d R[i] := by
 have hg : R.getD d [] = R[d] := by simp [hd]
 simp only [dfin, hg]
 by_cases e : i ≤ d
 ·rw [if_pos e, List.getElem_append_left (by simp; omega)]
  simp
 ·rw [if_neg e, List.getElem_append_right (by simp; omega)]
  simp only [List.length_take, List.getElem_map, List.getElem_drop]
  congr 2
  omega
noncomputable def detK (R : List (List Rat)) : Nat → Option (Option (List (List Rat) × Bool))
 | 0 => some (some (R, false))
 |c + 1 => match detK R c with
  | none => none
  | some none => some none
  |some (some (S, s)) => match fnd S c c with
   | none => some none
   | some i => @ite _ (dOk (mvf S c i) c) (Classical.propDecidable _) (some (some (dfin (mvf S c i) c, s != decide ((i - c) % 2 = 1)))) none
theorem detK_zero {R S : List (List Rat)} {s : Bool} {c : Nat} (h : detK R c = some (some (S, s))) (hf : fnd S c c = none) : detK R (c + 1) = some none := by
 simp [detK, h, hf]
theorem detK_fin {R S : List (List Rat)} {s : Bool} {c i : Nat} (h : detK R c = some (some (S, s))) (hf : fnd S c c = some i) (ho : dOk (mvf S c i) c) : detK R (c + 1) = some (some (dfin (mvf S c i) c, s != decide ((i - c) % 2 = 1))) := by
 simp [detK, h, hf, ho]
theorem detK_bad {R S : List (List Rat)} {s : Bool} {c i : Nat} (h : detK R c = some (some (S, s))) (hf : fnd S c c = some i) (ho : ¬ dOk (mvf S c i) c) : detK R (c + 1) = none := by
 simp [detK, h, hf, ho]
theorem detK_none {R : List (List Rat)} {c : Nat} (h : detK R c = none) : ∀ k, detK R (c + k) = none
 | 0 => h
 |k + 1 => by
  have := detK_none h k
  rw [show c + (k + 1) = c + k + 1 from rfl]
  simp [detK, this]
theorem detK_nul {R : List (List Rat)} {c : Nat} (h : detK R c = some none) : ∀ k, detK R (c + k) = some none
 | 0 => h
 |k + 1 => by
  have := detK_nul h k
  rw [show c + (k + 1) = c + k + 1 from rfl]
  simp [detK, this]
theorem Rows.dfin {W : Nat} {R : List (List Rat)} (h : Rows W R) {d : Nat} (hd : d < R.length) (ho : dOk R d) : Rows W (dfin R d) := by
 have hg : R.getD d [] = R[d] := by simp [hd]
 have hl : (R.getD d []).length = W := by rw [hg]; exact (h.at hd).1
 refine ⟨fun X hX => ?_, fun X hX => ?_⟩
 ·simp only [Go.Proofs.YthkehmnodcmlcaaGreat.dfin, List.mem_append, List.mem_map] at hX
  rcases hX with hX | ⟨Y, hY, rfl⟩
  ·exact h.len X (List.mem_of_mem_take hX)
  ·have := h.len Y (List.mem_of_mem_drop hY)
   rw [clr_len (by omega), this]
 ·simp only [Go.Proofs.YthkehmnodcmlcaaGreat.dfin, List.mem_append, List.mem_map] at hX
  rcases hX with hX | ⟨Y, hY, rfl⟩
  ·exact h.af X (List.mem_of_mem_take hX)
  ·exact clr_af (ho Y hY) (h.af Y (List.mem_of_mem_drop hY))
theorem detK_inv {W : Nat} {R : List (List Rat)} (h : Rows W R) : ∀ {c : Nat} (hc : c ≤ R.length) {S : List (List Rat)} {s : Bool}, detK R c = some (some (S, s)) → Rows W S ∧ S.length = R.length
 |0, _, S, s, e => by
  simp only [detK, Option.some.injEq, Prod.mk.injEq] at e
  obtain ⟨rfl, rfl⟩ := e
  exact ⟨h, rfl⟩
 |c + 1, hc, S, s, e => by
  cases e0 : detK R c with
  | none => simp [detK, e0] at e
  |some q =>
   cases q with
   | none => simp [detK, e0] at e
   |some q =>
    obtain ⟨T, t⟩ := q
    obtain ⟨i1, i2⟩ := detK_inv h (by omega) e0
    cases ef : fnd T c c with
    | none => rw [detK_zero e0 ef] at e; simp at e
    |some i =>
     obtain ⟨hi, hd, h0, hz⟩ := fnd_of ef
     by_cases ho : dOk (mvf T c i) c
     ·rw [detK_fin e0 ef ho] at e
      simp only [Option.some.injEq, Prod.mk.injEq] at e
      obtain ⟨rfl, rfl⟩ := e
      have hl := mvf_len hd hi
      exact ⟨(i1.mvf hd hi).dfin (by omega) ho, by rw [dfin_len, hl, i2]⟩
     ·rw [detK_bad e0 ef ho] at e; simp at e
def sgR (s : Bool) : Rat := if s then -1 else 1
theorem sgR_not (s : Bool) : -sgR s = sgR (!s) := by cases s <;> simp [sgR]
def prodK (S : List (List Rat)) (s : Bool) : Nat → Option Rat
 | 0 => some (sgR s)
 | k + 1 => bq mulF (prodK S s k) (some (el (S.getD k []) k))
theorem fit_neg1 {x : Rat} : fit (-x) ↔ fit x := by
 unfold fit
 rw [Rat.neg_num, Rat.neg_den, Int.natAbs_neg]
theorem negO_cap (x : Rat) : negO (capF x) = capF (-x) := by
 unfold capF
 by_cases hf : fit x
 ·rw [if_pos hf, if_pos (fit_neg1.2 hf)]; rfl
 ·rw [if_neg hf, if_neg (fun h => hf (fit_neg1.1 h))]; rfl
theorem negO_some (x : Rat) : negO (some x) = some (-x) := rfl
theorem negO_mul (o : Option Rat) (y : Rat) : negO (bq mulF o (some y)) = bq mulF (negO o) (some y) := by
 cases o with
 | none => rfl
 | some x => rw [bq_some, mulF_eq, negO_cap, negO_some, bq_some, mulF_eq, Rat.neg_mul]
theorem prodK_neg (S : List (List Rat)) (s : Bool) : ∀ k, negO (prodK S s k) = prodK S (!s) k
 | 0 => by rw [prodK, prodK, negO_some, sgR_not]
 |k + 1 => by
  have ih := prodK_neg S s k
  rw [prodK, prodK, negO_mul, ih]
theorem prodK_same {S T : List (List Rat)} (s : Bool) : ∀ k, (∀ j, j < k → S.getD j [] = T.getD j []) → prodK S s k = prodK T s k
 | 0, _ => rfl
 |k + 1, h => by
  simp only [prodK]
  rw [prodK_same s k fun j hj => h j (by omega), h k (by omega)]
noncomputable def detV (R : List (List Rat)) : Option Rat := match detK R R.length with
 | none => none
 | some none => some ((0 : Int) : Rat)
 | some (some (S, s)) => prodK S s S.length
end Go.Proofs.YthkehmnodcmlcaaGreat
namespace Go.Proofs.YthkehmnodcmlcaaGreat
open Go.RowKit
open Go.Lib (hid)
def clrs (R : List (List Rat)) (P : List Rat) (c off k : Nat) : List (List Rat) := R.take off ++ ((R.drop off).take k).map (clr P c) ++ R.drop (off + k)
theorem bool_of (p : Prop) : ∃ B : Bool, B = true ↔ p := by
 by_cases h : p
 ·exact ⟨true, by simp [h]⟩
 ·exact ⟨false, by simp [h]⟩
def sft {α : Type} (H : List α) (d i : Nat) : List α := H.take (d + 1) ++ (H.drop d).take i ++ H.drop (d + 1 + i)
theorem sft_set {α : Type} {H : List α} {d i : Nat} (h : d + i < H.length) : (sft H d i).set d H[d + i] = mvf H d (d + i) := by
 have hl : (sft H d i).length = H.length := by simp [sft]; omega
 apply List.ext_getElem
 ·rw [List.length_set, hl, mvf_len (by omega) h]
 ·intro k h1 h2
  rw [List.length_set, hl] at h1
  rw [List.getElem_set, mvf_get (by omega) h h1]
  by_cases e : d = k
  ·subst e; rw [if_pos rfl, if_neg (by omega), if_pos rfl]
  ·rw [if_neg e]
   by_cases c1 : k < d
   ·rw [if_pos c1]
    simp only [sft]
    rw [List.getElem_append_left (by simp; omega), List.getElem_append_left (by simp; omega), List.getElem_take]
   ·rw [if_neg c1, if_neg (by omega)]
    by_cases c2 : k ≤ d + i
    ·rw [dif_pos c2]
     simp only [sft]
     rw [List.getElem_append_left (by simp; omega), List.getElem_append_right (by simp; omega), List.getElem_take, List.getElem_drop]
     congr 1
     simp only [List.length_take]
     omega
    ·rw [dif_neg c2]
     simp only [sft]
     rw [List.getElem_append_right (by simp; omega), List.getElem_drop]
     congr 1
     simp only [List.length_append, List.length_take, List.length_drop]
     omega
theorem sft_len {α : Type} {H : List α} {d i : Nat} (h : d + i < H.length) : (sft H d i).length = H.length := by simp [sft]; omega
theorem sft_get {α : Type} {H : List α} {d i : Nat} (h : d + i < H.length) {k : Nat} (hk : k < H.length) : (sft H d i)[k]'(by rw [sft_len h]; exact hk) = if k ≤ d then H[k] else if k ≤ d + i then H[k - 1]'(by omega) else H[k] := by
 by_cases c1 : k ≤ d
 ·rw [if_pos c1]
  simp only [sft]
  rw [List.getElem_append_left (by simp; omega), List.getElem_append_left (by simp; omega), List.getElem_take]
 ·rw [if_neg c1]
  by_cases c2 : k ≤ d + i
  ·rw [if_pos c2]
   simp only [sft]
   rw [List.getElem_append_left (by simp; omega), List.getElem_append_right (by simp; omega), List.getElem_take, List.getElem_drop]
   congr 1
   simp only [List.length_take]
   omega
  ·rw [if_neg c2]
   simp only [sft]
   rw [List.getElem_append_right (by simp; omega), List.getElem_drop]
   congr 1
   simp only [List.length_append, List.length_take, List.length_drop]
   omega
theorem sft_step {α : Type} {H : List α} {i m : Nat} (h : i + 1 + m < H.length) : (sft H (i + 1) m).set (i + 1) H[i] = sft H i (m + 1) := by
 apply List.ext_getElem
 ·rw [List.length_set, sft_len h, sft_len (by omega)]
 ·intro k h1 h2
  rw [List.length_set, sft_len h] at h1
  have e2 := sft_get (H := H) (d := i) (i := m + 1) (by omega) h1
  rw [List.getElem_set, e2]
  by_cases e : i + 1 = k
  ·subst e
   rw [if_pos rfl, if_neg (by omega), if_pos (by omega)]
   rfl
  ·rw [if_neg e, sft_get h h1]
   by_cases c1 : k ≤ i
   ·rw [if_pos (by omega), if_pos c1]
   ·rw [if_neg (by omega), if_neg c1]
    by_cases c2 : k ≤ i + 1 + m
    ·rw [if_pos c2, if_pos (by omega)]
    ·rw [if_neg c2, if_neg (by omega)]
theorem sft_zero {α : Type} {H : List α} {d : Nat} : sft H d 0 = H := by simp [sft]
def mvfI (d a q : Nat) : Nat := if q < d then q else if q = d then a else if q ≤ a then q - 1 else q
theorem mvfI_lt {d a n : Nat} (hd : d ≤ a) (ha : a < n) {q : Nat} (hq : q < n) : mvfI d a q < n := by
 unfold mvfI; split
 ·exact hq
 ·split
  ·exact ha
  ·split <;> omega
theorem mvfI_inj {d a : Nat} (hd : d ≤ a) {i j : Nat} (h : i ≠ j) : mvfI d a i ≠ mvfI d a j := by
 unfold mvfI
 split <;> split <;> (try split) <;> (try split) <;> (try split) <;> (try split) <;> omega
theorem mvf_range {β : Type} {n d a : Nat} (hd : d ≤ a) (ha : a < n) (V : Nat → β) : mvf ((List.range n).map V) d a = (List.range n).map fun q => V (mvfI d a q) := by
 have hl : ((List.range n).map V).length = n := by simp
 apply List.ext_getElem
 ·rw [mvf_len hd (by omega)]; simp
 ·intro k h1 h2
  rw [mvf_len hd (by omega), hl] at h1
  rw [mvf_get hd (by omega) (by omega)]
  simp only [List.getElem_map, List.getElem_range, mvfI]
  by_cases c1 : k < d
  ·rw [if_pos c1, if_pos c1]
  ·rw [if_neg c1, if_neg c1]
   by_cases c2 : k = d
   ·rw [if_pos c2, if_pos c2]
   ·rw [if_neg c2, if_neg c2]
    by_cases c3 : k ≤ a
    ·rw [dif_pos c3, if_pos c3]
    ·rw [dif_neg c3, if_neg c3]
theorem mvf_getD {S : List (List Rat)} {d a : Nat} (hd : d ≤ a) (ha : a < S.length) {q : Nat} (hq : q < S.length) : (mvf S d a).getD q [] = S.getD (mvfI d a q) [] := by
 have h1 : q < (mvf S d a).length := by rw [mvf_len hd ha]; exact hq
 have h2 := mvfI_lt hd ha hq
 rw [List.getD_eq_getElem?_getD, List.getElem?_eq_getElem h1, List.getD_eq_getElem?_getD, List.getElem?_eq_getElem h2]
 simp only [Option.getD_some]
 rw [mvf_get hd ha hq]
 unfold mvfI
 by_cases c1 : q < d
 ·simp [c1]
 ·by_cases c2 : q = d
  ·simp [c2]
  ·by_cases c3 : q ≤ a
   ·simp [c1, c2, c3]
   ·simp [c1, c2, c3]
def mxL {α : Type} (S S' : List α) (j : Nat) : List α := S'.take j ++ S.drop j
theorem mxL_zero {α : Type} (S S' : List α) : mxL S S' 0 = S := by simp [mxL]
theorem mxL_all {α : Type} {S S' : List α} {W : Nat} (h : S.length = W) (h' : S'.length = W) : mxL S S' W = S' := by
 unfold mxL
 rw [List.take_of_length_le (by omega), List.drop_of_length_le (by omega), List.append_nil]
theorem mxL_len {α : Type} {S S' : List α} {W j : Nat} (h : S.length = W) (h' : S'.length = W) (hj : j ≤ W) : (mxL S S' j).length = W := by simp [mxL]; omega
theorem mxL_at {α : Type} {S S' : List α} {W j : Nat} (h : S.length = W) (h' : S'.length = W) (hj : j < W) : (mxL S S' j)[j]'(by rw [mxL_len h h' (by omega)]; exact hj) = S[j] := by
 unfold mxL
 rw [List.getElem_append_right (by simp; omega)]
 simp [show j - min j S'.length = 0 by omega]
theorem mxL_set {α : Type} {S S' : List α} {W j : Nat} (h : S.length = W) (h' : S'.length = W) (hj : j < W) : (mxL S S' j).set j S'[j] = mxL S S' (j + 1) := by
 unfold mxL
 rw [List.set_append_right _ _ (by simp; omega), List.take_succ_eq_append_getElem (by omega), List.append_assoc, List.length_take, show j - min j S'.length = 0 by omega, List.drop_eq_getElem_cons (by omega)]
 rfl
theorem sgn_zero {x : Rat} (h : x = 0) : sgnO (some x) = 0 := by subst h; rfl
theorem sgn_nz {x : Rat} (h : x ≠ 0) : sgnO (some x) ≠ 0 := by
 have hn : x.num ≠ 0 := fun e => h (Rat.num_eq_zero.1 e)
 show sgn x.num ≠ 0
 unfold sgn
 split
 ·omega
 ·split <;> omega
end Go.Proofs.YthkehmnodcmlcaaGreat
