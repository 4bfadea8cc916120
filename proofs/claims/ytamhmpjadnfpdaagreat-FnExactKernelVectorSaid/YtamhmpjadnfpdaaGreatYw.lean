import Derived.Test.YtamhmpjadnfpdaaGreatYl
import Derived.Deep.RegionLaw
import Derived.Deep.RegionHeld3
import Derived.Deep.DeepCutAuto
import Derived.Test.YtamhmpjadnfpdaaGreatVy
/- The reduced form's shape, and the vector of the kernel (mathematics). -/
namespace Go.Proofs.YtamhmpjadnfpdaaGreat
open Go.RowKit
open Go.Lib (hid)
set_option linter.unusedVariables false
set_option linter.unusedSimpArgs false

theorem fnd_no {R : List (List Rat)} {d c : Nat} (h : fnd R d c = none) : ∀ j (h : j < R.length), d ≤ j → el R[j] c = 0 := by
  intro j hj hd
  unfold fnd at h
  rw [List.find?_eq_none] at h
  have := h j (by simpa using hj)
  simp [hj, hd] at this
  exact this
theorem el_clr {P : List Rat} {c : Nat} {X : List Rat} (hl : P.length = X.length) {k : Nat} (hp : el P k = 0) : el (clr P c X) k = el X k := by
  by_cases hk : k < X.length
  · unfold clr
    split
    · rfl
    · rw [el_at (by simp; omega), el_at hk]
      rw [el_at (by omega)] at hp
      simp only [List.getElem_zipWith]
      rw [hp]; grind
  · have hc := clr_len (c := c) hl
    simp [el, hk, hc]
theorem el_clr_zero {P : List Rat} {c : Nat} {X : List Rat} (hl : P.length = X.length) (hc : c < X.length) (hp : el P c ≠ 0) : el (clr P c X) c = 0 := by
  unfold clr
  split
  · assumption
  · rw [el_at (by simp; omega)]
    simp only [List.getElem_zipWith]
    rw [el_at hc] at *
    rw [el_at (by omega)] at *
    grind
theorem el_scl_k {c k : Nat} {X : List Rat} (h : el X k = 0) : el (scl c X) k = 0 := by
  by_cases hk : k < X.length
  · rw [el_at (by rw [scl_len]; exact hk)]
    rw [el_at hk] at h
    simp only [scl, List.getElem_map, h]
    grind
  · simp [el, scl, hk]
/-- The rows that are finished have 0 before the columns in which they were, the others in all columns so far; the columns increase. -/
structure Ech (S : List (List Rat)) (ps : List Nat) (c : Nat) : Prop where
  done : ∀ i (hi : i < S.length) (hp : i < ps.length), ∀ k, k < ps[i] → el S[i] k = 0
  todo : ∀ i (hi : i < S.length), ps.length ≤ i → ∀ k, k < c → el S[i] k = 0
  inc : ps.Pairwise (· < ·)
  lt : ∀ p ∈ ps, p < c
  one : ∀ i (hi : i < S.length) (hp : i < ps.length), el S[i] ps[i] = 1
  oth : ∀ i (hi : i < S.length) j (hp : j < ps.length), i ≠ j → el S[i] ps[j] = 0
theorem redK_ech {W : Nat} {R : List (List Rat)} (h : Rows W R) : ∀ {c : Nat} (hc : c ≤ W) {S : List (List Rat)} {ps : List Nat}, redK R c = some (S, ps) → Ech S ps c
  | 0, _, S, ps, e => by
    simp only [redK, Option.some.injEq, Prod.mk.injEq] at e
    obtain ⟨rfl, rfl⟩ := e
    exact ⟨fun i hi hp => by simp at hp, fun i hi _ k hk => by omega, List.Pairwise.nil, fun p hp => by simp at hp, fun i hi hp => by simp at hp, fun i hi j hp => by simp at hp⟩
  | c + 1, hc, S, ps, e => by
    cases e0 : redK R c with
    | none => simp [redK, e0] at e
    | some q =>
      obtain ⟨T, qs⟩ := q
      obtain ⟨i1, i2, i3, i4, i5⟩ := redK_inv h e0
      have ih := redK_ech h (by omega) e0
      cases ef : fnd T qs.length c with
      | none =>
        rw [redK_skip e0 ef] at e
        simp only [Option.some.injEq, Prod.mk.injEq] at e
        obtain ⟨rfl, rfl⟩ := e
        refine ⟨ih.done, fun i hi hp k hk => ?_, ih.inc, fun p hp => by have := ih.lt p hp; omega, ih.one, ih.oth⟩
        rcases Nat.lt_or_eq_of_le (Nat.le_of_lt_succ hk) with hk | rfl
        · exact ih.todo i hi hp k hk
        · exact fnd_no ef i hi hp
      | some m =>
        obtain ⟨hm, hd, h0, hz⟩ := fnd_of ef
        by_cases ho : finOk (mvf T qs.length m) qs.length c
        · rw [redK_fin e0 ef ho] at e
          simp only [Option.some.injEq, Prod.mk.injEq] at e
          obtain ⟨rfl, rfl⟩ := e
          have hl := mvf_len hd hm
          have hq : qs.length < (mvf T qs.length m).length := by omega
          have hR := i1.mvf hd hm
          -- the rows ahead of the step
          have hdone : ∀ i (hi : i < (mvf T qs.length m).length) (hp : i < qs.length), (mvf T qs.length m)[i] = T[i]'(by omega) := fun i hi hp => by
            rw [mvf_get hd hm (by omega), if_pos hp]
          have htodo : ∀ i (hi : i < (mvf T qs.length m).length), qs.length ≤ i → ∃ j, ∃ hj : j < T.length, qs.length ≤ j ∧ (mvf T qs.length m)[i] = T[j] := fun i hi hp => by
            rw [mvf_get hd hm (by omega), if_neg (by omega)]
            by_cases e2 : i = qs.length
            · rw [if_pos e2]; exact ⟨m, hm, hd, rfl⟩
            · rw [if_neg e2]
              by_cases e3 : i ≤ m
              · rw [dif_pos e3]; exact ⟨i - 1, by omega, by omega, rfl⟩
              · rw [dif_neg e3]; exact ⟨i, by omega, hp, rfl⟩
          have hpd : (mvf T qs.length m)[qs.length] = T[m] := by
            rw [mvf_get hd hm (by omega), if_neg (by omega), if_pos rfl]
          have hlen : ∀ k (hk : k < (mvf T qs.length m).length), (mvf T qs.length m)[k].length = W := fun k hk => (hR.at hk).1
          have hP0 : ∀ k, k < c → el (scl c (mvf T qs.length m)[qs.length]) k = 0 := fun k hk => el_scl_k (by rw [hpd]; exact ih.todo m hm hd k hk)
          have hPl : ∀ i (hi : i < (mvf T qs.length m).length), (scl c (mvf T qs.length m)[qs.length]).length = (mvf T qs.length m)[i].length := fun i hi => by rw [scl_len, hlen _ hq, hlen _ hi]
          have hP1 : el (scl c (mvf T qs.length m)[qs.length]) c = 1 := el_scl (by rw [hlen _ hq]; omega) (by rw [hpd]; exact h0)
          have hfl := fin_len (c := c) hq
          have hone : (1 : Rat) ≠ 0 := by decide
          -- elements in columns before c stay
          have hold : ∀ i (hi : i < (mvf T qs.length m).length), i ≠ qs.length → ∀ k, k < c → el ((fin (mvf T qs.length m) qs.length c)[i]'(by omega)) k = el (mvf T qs.length m)[i] k := fun i hi hne k hk => by
            rw [fin_at hq hi, if_neg hne, el_clr (hPl i hi) (hP0 k hk)]
          refine ⟨fun i hi hp k hk => ?_, fun i hi hp k hk => ?_, ?_, fun p hp => ?_, fun i hi hp => ?_, fun i hi j hp hij => ?_⟩
          · have hiV : i < (mvf T qs.length m).length := by omega
            rw [List.length_append, List.length_singleton] at hp
            rcases Nat.lt_or_eq_of_le (Nat.le_of_lt_succ hp) with hp' | rfl
            · rw [List.getElem_append_left hp'] at hk
              have hkc := i5 _ (List.getElem_mem hp')
              rw [hold i hiV (by omega) k (by omega), hdone i hiV hp']
              exact ih.done i (by omega) hp' k hk
            · rw [List.getElem_append_right (Nat.le_refl _)] at hk
              simp only [Nat.sub_self, List.getElem_cons_zero] at hk
              rw [fin_at hq hiV, if_pos rfl]
              exact hP0 k hk
          · have hiV : i < (mvf T qs.length m).length := by omega
            rw [List.length_append, List.length_singleton] at hp
            rcases Nat.lt_or_eq_of_le (Nat.le_of_lt_succ hk) with hk | rfl
            · rw [hold i hiV (by omega) k hk]
              obtain ⟨j, hj, hqj, e⟩ := htodo i hiV (by omega)
              rw [e]; exact ih.todo j hj hqj k hk
            · rw [fin_at hq hiV, if_neg (by omega)]
              exact el_clr_zero (hPl i hiV) (by rw [hlen _ hiV]; omega) (by rw [hP1]; exact hone)
          · exact List.pairwise_append.2 ⟨ih.inc, List.pairwise_singleton _ _, fun x hx y hy => by rw [List.mem_singleton.1 hy]; exact i5 x hx⟩
          · rcases List.mem_append.1 hp with hp | hp
            · have := i5 p hp; omega
            · rw [List.mem_singleton.1 hp]; omega
          · have hiV : i < (mvf T qs.length m).length := by omega
            rw [List.length_append, List.length_singleton] at hp
            rcases Nat.lt_or_eq_of_le (Nat.le_of_lt_succ hp) with hp' | rfl
            · have e1 : (qs ++ [c])[i]'(by simp; omega) = qs[i] := List.getElem_append_left hp'
              rw [e1, hold i hiV (by omega) _ (i5 _ (List.getElem_mem hp')), hdone i hiV hp']
              exact ih.one i (by omega) hp'
            · have e1 : (qs ++ [c])[qs.length]'(by simp) = c := by simp
              rw [e1, fin_at hq hiV, if_pos rfl]
              exact hP1
          · have hiV : i < (mvf T qs.length m).length := by omega
            rw [List.length_append, List.length_singleton] at hp
            rcases Nat.lt_or_eq_of_le (Nat.le_of_lt_succ hp) with hp' | rfl
            · have e1 : (qs ++ [c])[j]'(by simp; omega) = qs[j] := List.getElem_append_left hp'
              have hpc := i5 _ (List.getElem_mem hp')
              rw [e1]
              by_cases hiq : i = qs.length
              · subst hiq
                rw [fin_at hq hiV, if_pos rfl]
                exact hP0 _ hpc
              · rw [hold i hiV hiq _ hpc]
                by_cases hil : i < qs.length
                · rw [hdone i hiV hil]
                  exact ih.oth i (by omega) j hp' hij
                · obtain ⟨j', hj', hqj, e⟩ := htodo i hiV (by omega)
                  rw [e]; exact ih.todo j' hj' hqj _ hpc
            · have e1 : (qs ++ [c])[qs.length]'(by simp) = c := by simp
              rw [e1, fin_at hq hiV, if_neg hij]
              exact el_clr_zero (hPl i hiV) (by rw [hlen _ hiV]; omega) (by rw [hP1]; exact hone)
        · rw [redK_bad e0 ef ho] at e; cases e
/-- The first column that is not its own row's pivot, counted as the reference counts. -/
def frP (ps : List Nat) : Nat → Nat
  | 0 => 0
  | j + 1 => if ps.getD j 0 = frP ps j then frP ps j + 1 else frP ps j
theorem frP_bd (ps : List Nat) : ∀ j, frP ps j ≤ j
  | 0 => Nat.le_refl _
  | j + 1 => by
    have ih := frP_bd ps j
    rw [frP]; split <;> omega
theorem inc_ge {ps : List Nat} (h : ps.Pairwise (· < ·)) : ∀ {i : Nat} (hi : i < ps.length), i ≤ ps[i]
  | 0, _ => Nat.zero_le _
  | i + 1, hi => by
    have ih := inc_ge h (i := i) (by omega)
    have := List.pairwise_iff_getElem.1 h i (i + 1) (by omega) hi (by omega)
    omega
theorem frP_le {ps : List Nat} (f : Nat) (hf : f ≤ ps.length) (he : ∀ i (hi : i < f), ps[i]'(by omega) = i) : ∀ {j : Nat}, j ≤ f → frP ps j = j
  | 0, _ => rfl
  | j + 1, hj => by
    have ih := frP_le f hf he (j := j) (by omega)
    have h1 := he j (by omega)
    have h2 : ps.getD j 0 = j := by rw [List.getD_eq_getElem?_getD, List.getElem?_eq_getElem (by omega), Option.getD_some, h1]
    rw [frP, ih, if_pos h2]
theorem frP_hi {ps : List Nat} (hp : ps.Pairwise (· < ·)) (f : Nat) (hf : f ≤ ps.length) (he : ∀ i (hi : i < f), ps[i]'(by omega) = i) (hn : ∀ h : f < ps.length, ps[f] ≠ f) : ∀ {j : Nat}, f ≤ j → j ≤ ps.length → frP ps j = f
  | 0, h, _ => by rw [show f = 0 by omega]; rfl
  | j + 1, hj, hl => by
    by_cases e : f = j + 1
    · rw [e]; exact frP_le (j + 1) (by omega) (by subst e; exact he) (Nat.le_refl _)
    · have ih := frP_hi hp f hf he hn (j := j) (by omega) (by omega)
      have h2 : ps.getD j 0 = ps[j] := by rw [List.getD_eq_getElem?_getD, List.getElem?_eq_getElem (by omega), Option.getD_some]
      have h3 : ps[j] ≠ f := by
        by_cases e2 : f = j
        · subst e2; exact hn (by omega)
        · have h4 := inc_ge hp (i := f) (by omega)
          have := List.pairwise_iff_getElem.1 hp f j (by omega) (by omega) (by omega)
          omega
      rw [frP, ih, h2, if_neg h3]
/-- What the count says: the columns before it are their own rows' pivots. -/
theorem frP_all {ps : List Nat} (hp : ps.Pairwise (· < ·)) : ∃ f, f = frP ps ps.length ∧ f ≤ ps.length ∧ (∀ i (hi : i < ps.length), i < f → ps[i] = i) ∧ (∀ i (hi : i < ps.length), f ≤ i → f < ps[i]) := by
  have h : ∀ k : Nat, k ≤ ps.length → (∀ i (hi : i < ps.length), i < k → ps[i] = i) ∨ ∃ f, f < k ∧ (∀ i (hi : i < ps.length), i < f → ps[i] = i) ∧ ∃ h : f < ps.length, ps[f] ≠ f := by
    intro k
    induction k with
    | zero => exact fun _ => .inl fun i hi h => by omega
    | succ k ih =>
      intro hk
      rcases ih (by omega) with h | ⟨f, h1, h2, h3⟩
      · by_cases e : ps[k] = k
        · exact .inl fun i hi hik => by
            by_cases e2 : i = k
            · subst e2; exact e
            · exact h i hi (by omega)
        · exact .inr ⟨k, by omega, h, by omega, e⟩
      · exact .inr ⟨f, by omega, h2, h3⟩
  rcases h ps.length (Nat.le_refl _) with h | ⟨f, h1, h2, h3, h4⟩
  · refine ⟨ps.length, ?_, Nat.le_refl _, h, fun i hi h => by omega⟩
    exact (frP_hi hp ps.length (Nat.le_refl _) (fun i hi => h i hi hi) (fun h => absurd h (Nat.lt_irrefl _)) (Nat.le_refl _) (Nat.le_refl _)).symm
  · refine ⟨f, ?_, by omega, h2, fun i hi hfi => ?_⟩
    · exact (frP_hi hp f (by omega) (fun i hi => h2 i (by omega) hi) (fun _ => h4) (by omega) (Nat.le_refl _)).symm
    · have h5 := inc_ge hp h3
      by_cases e : f = i
      · subst e; omega
      · have := List.pairwise_iff_getElem.1 hp f i h3 hi (by omega)
        omega
/-- The vector after j of its entries are set. -/
def kvJ (W : Nat) (S : List (List Rat)) (f j : Nat) : List Rat := (List.range W).map fun k => if k < f ∧ k < j then -(el (S.getD k []) f) else if k = f then 1 else 0
theorem kvJ_len (W : Nat) (S : List (List Rat)) (f j : Nat) : (kvJ W S f j).length = W := by simp [kvJ]
theorem kvJ_at {W : Nat} {S : List (List Rat)} {f j k : Nat} (h : k < (kvJ W S f j).length) : (kvJ W S f j)[k] = if k < f ∧ k < j then -(el (S.getD k []) f) else if k = f then 1 else 0 := by simp [kvJ]
theorem kvJ_set {W : Nat} {S : List (List Rat)} {f j : Nat} (hj : j < f) (hf : f < W) : (kvJ W S f j).set j (-(el (S.getD j []) f)) = kvJ W S f (j + 1) := by
  refine List.ext_getElem (by simp [kvJ_len]) fun k h1 h2 => ?_
  rw [List.getElem_set, kvJ_at, kvJ_at]
  by_cases e : j = k
  · subst e; rw [if_pos rfl, if_pos ⟨hj, by omega⟩]
  · rw [if_neg e]
    by_cases e2 : k < j
    · rw [if_pos ⟨by omega, e2⟩, if_pos ⟨by omega, by omega⟩]
    · rw [if_neg (show ¬(k < f ∧ k < j) by omega), if_neg (show ¬(k < f ∧ k < j + 1) by omega)]
theorem kvJ_stay {W : Nat} {S : List (List Rat)} {f j : Nat} (hj : f ≤ j) : kvJ W S f j = kvJ W S f f := by
  refine List.ext_getElem (by simp [kvJ_len]) fun k h1 h2 => ?_
  rw [kvJ_at, kvJ_at]
  by_cases e : k < f
  · rw [if_pos ⟨e, by omega⟩, if_pos ⟨e, e⟩]
  · rw [if_neg (show ¬(k < f ∧ k < j) by omega), if_neg (show ¬(k < f ∧ k < f) by omega)]
theorem kvJ_zero {W : Nat} {S : List (List Rat)} {f j p : Nat} (hj : f < p) (hp : p < W) : (kvJ W S f j).set p 0 = kvJ W S f j := by
  refine List.ext_getElem (by simp [kvJ_len]) fun k h1 h2 => ?_
  rw [List.getElem_set]
  by_cases e : p = k
  · subst e; rw [if_pos rfl, kvJ_at, if_neg (show ¬(p < f ∧ p < j) by omega), if_neg (show ¬p = f by omega)]
  · rw [if_neg e]
/-- The vector of the kernel. -/
def kerV (W : Nat) (S : List (List Rat)) (ps : List Nat) : List Rat := if frP ps ps.length < W then kvJ W S (frP ps ps.length) (frP ps ps.length) else []
/-- The reference's next entry. -/
theorem kv_next {W : Nat} {S : List (List Rat)} {ps : List Nat} (h : Ech S ps W) (hl : ps.length ≤ S.length) (hf : frP ps ps.length < W) {j : Nat} (hj : j < ps.length) :
    ps[j] < W ∧ (kvJ W S (frP ps ps.length) j).set ps[j] (-(el S[j] (frP ps ps.length))) = kvJ W S (frP ps ps.length) (j + 1) := by
  have hw : ps[j] < W := h.lt _ (List.getElem_mem hj)
  refine ⟨hw, ?_⟩
  obtain ⟨f, e, h1, h2, h3⟩ := frP_all h.inc
  rw [← e] at hf ⊢
  have hS : S.getD j [] = S[j] := by rw [List.getD_eq_getElem?_getD, List.getElem?_eq_getElem (by omega), Option.getD_some]
  by_cases hjf : j < f
  · rw [h2 j hj hjf, ← hS]; exact kvJ_set hjf hf
  · have h4 := h3 j hj (by omega)
    have h5 : el S[j] f = 0 := h.done j (by omega) hj f h4
    rw [h5, kvJ_stay (j := j + 1) (by omega), kvJ_stay (j := j) (by omega), show (-0 : Rat) = 0 by rfl]
    exact kvJ_zero h4 hw
theorem rv_set {X : List Rat} {k : Nat} {x : Rat} : rv (X.set k x) = (rv X).set k (fqo (some x)) := by
  unfold rv; rw [List.map_set]

noncomputable def kerK (M : List (List Fq)) : List Fq := match redM M with
  | none => []
  | some (S, ps) => rv (kerV (matW M) S ps)
/-- What the elimination gives, of any list. -/
theorem ker_data (M : List (List Fq)) : ∃ W S ps, rreM M = S.map rv ∧ pivM M = natI ps ∧ Rows W S ∧ Ech S ps W ∧ ps.length ≤ S.length ∧ S.length ≤ 40 ∧ W ≤ 40 ∧ matW (S.map rv) = W ∧ kerK M = rv (kerV W S ps) := by
  have hN : ∀ (e1 : rreM M = []) (e2 : pivM M = []) (e3 : kerK M = []), ∃ W S ps, rreM M = S.map rv ∧ pivM M = natI ps ∧ Rows W S ∧ Ech S ps W ∧ ps.length ≤ S.length ∧ S.length ≤ 40 ∧ W ≤ 40 ∧ matW (S.map rv) = W ∧ kerK M = rv (kerV W S ps) := fun e1 e2 e3 =>
    ⟨0, [], [], by rw [e1]; rfl, by rw [e2]; rfl, ⟨fun X h => (by cases h), fun X h => (by cases h)⟩, ⟨fun i hi _ => (by simp at hi), fun i hi => (by simp at hi), List.Pairwise.nil, fun p h => (by cases h), fun i hi => (by simp at hi), fun i hi => (by simp at hi)⟩, Nat.le_refl _, by simp, by omega, rfl, by rw [e3]; rfl⟩
  cases hok : matOk M with
  | false =>
    obtain ⟨e1, e2⟩ := redM_no hok
    exact hN e1 e2 (by unfold kerK redM; rw [hok, if_neg (by decide)])
  | true =>
    cases e : redK (un M) (matW M) with
    | none =>
      obtain ⟨e1, e2⟩ := redM_none hok e
      exact hN e1 e2 (by unfold kerK redM; rw [hok, if_pos rfl, e])
    | some q =>
      obtain ⟨S, ps⟩ := q
      obtain ⟨e1, e2⟩ := redM_some hok e
      obtain ⟨u1, u2⟩ := un_rv hok
      obtain ⟨i1, i2, i3, i4, i5⟩ := redK_inv u2 e
      have hE := redK_ech u2 (Nat.le_refl _) e
      have hn := matOk_n hok
      have hw := matOk_w hok
      rw [un_len] at i2
      refine ⟨matW M, S, ps, e1, e2, i1, hE, i3, by omega, hw, ?_, by unfold kerK redM; rw [hok, if_pos rfl, e]⟩
      cases S with
      | nil =>
        have : M = [] := List.eq_nil_of_length_eq_zero (by simpa using i2.symm)
        subst this; rfl
      | cons X S =>
        show (rv X).length = _
        rw [rv_len]; exact i1.len X (List.mem_cons_self ..)
theorem kerV_len (W : Nat) (S : List (List Rat)) (ps : List Nat) : (kerV W S ps).length ≤ W := by
  unfold kerV; split
  · rw [kvJ_len]; exact Nat.le_refl _
  · simp
theorem unitK_no {W f : Nat} (hW : W ≤ 40) (h : W ≤ f) : unitK W f = [] := by
  have := zeroK_len (W : Int)
  have h1 : (zeroK (W : Int)).length = W := by rw [zeroK_yes (by omega)]; simp
  unfold unitK; rw [if_neg (by rw [h1]; omega)]
theorem unitK_kv {W f : Nat} (hW : W ≤ 40) (h : f < W) (S : List (List Rat)) : unitK W f = rv (kvJ W S f 0) := by
  have h1 : zeroK (W : Int) = List.replicate W (fqo (some ((0 : Int) : Rat))) := by rw [zeroK_yes (by omega)]
  unfold unitK
  rw [if_pos (by rw [h1, List.length_replicate]; omega), h1, Int.toNat_natCast]
  refine List.ext_getElem (by simp [rv_len, kvJ_len]) fun k h2 h3 => ?_
  rw [rv_len] at h3
  rw [List.getElem_set, rv_at h3, el_at h3, kvJ_at, if_neg (show ¬(k < f ∧ k < 0) by omega)]
  by_cases e : f = k
  · rw [if_pos e, if_pos e.symm]; rfl
  · rw [if_neg e, if_neg (fun h => e h.symm), List.getElem_replicate]; rfl
end Go.Proofs.YtamhmpjadnfpdaaGreat

/- Negation: what a pruned seat lacks. -/
namespace Go.Proofs.YtamhmpjadnfpdaaGreat
open Go.RowKit
open Go.Lib (hid)
set_option linter.unusedVariables false
set_option linter.unusedSimpArgs false

def una (f : Int → Int) (s : Bool) (A : List Int) : Int := if bok s A then f (sval s (val A)) else 0
theorem una_no {f : Int → Int} {s : Bool} {A : List Int} (h : bok s A = false) : una f s A = 0 := by simp [una, h]
theorem una_yes {f : Int → Int} {s : Bool} {A : List Int} (h : bok s A = true) : una f s A = f (sval s (val A)) := by simp [una, h]
theorem IsNat.setNeg {s t : Bool} {w : World} {S : Nat → Prop} {N : Nat} {v : Value} {L : List Int} (h : IsNat (wholeQ s) w S N v L) : IsNat (wholeQ t) (w.setCell ⟨N, 1, none⟩ (.bool t)) S N v L := by
  refine ⟨?_, h.mine, Ints_block h.ints fun k hk => Below.heap_setCell _ _ _ _ ?_, h.own⟩
  · have := h.cell1
    simp [World.setCell, Array.getElem?_modify, this, Rest.obj, wholeQ]
  · rintro rfl
    exact h.ne hk
theorem IsNat.freeAt {Q : Rest} {w : World} {S : Nat → Prop} {N : Nat} {v : Value} {L : List Int} (h : IsNat Q w S N v L) (i : Nat) : w.frozen? ⟨N, i, none⟩ = false := by
  have := h.cell1
  simp [World.frozen?, this, Rest.obj]
theorem W2_below {w : World} {s : Bool} {v : Value} {T : TypeId} : Below w.heap.size w (W2 w s v T) := ((Below.refl _ _).alloc (Nat.le_refl _) _).alloc (by simp) _
theorem W2_1 {w : World} {s : Bool} {v : Value} {T : TypeId} : Loc T (W2 w s v T) w.heap.size s v := (Loc.at rfl).new1
theorem W2_2 {w : World} {s : Bool} {v : Value} {T : TypeId} : Loc T (W2 w s v T) (w.heap.size + 1) false (.slice none 0 0) := Loc.at (by simp)
theorem OwnG_zero1 {s : Bool} {L : List Int} {Z : Int} {w w4 : World} {b : Nat} (hs : s = gzs Z) (hl : L = gzl Z) (hz : Z = 0) (hb : w.heap.size ≤ b) (hB : Below w.heap.size w w4) :
    OwnG s L w (.returned (.agg #[.bool false, .slice none 0 0])) ((w4.setCell ⟨b, 0, none⟩ (.bool false)).setCell ⟨b, 1, none⟩ (.slice none 0 0)) := by
  rw [hs, hl, hz, gzs_zero, gzl_zero]
  exact OwnG_mk (Nat.le_refl _) rfl (Ints_nil _ _) ((hB.setCell hb _).setCell hb _)
set_option maxRecDepth 100000 in
set_option maxHeartbeats 3200000 in
theorem impl_BigIntNeg (s : Bool) (v : Value) (A : List Int) (hA : A.length ≤ 1073741824) (b1 : Nat) (w : World) (h1 : Ints w b1 v A) :
    Calls Tryz.prog 135 #[.agg #[.bool s, v]] w (OwnG (gzs (una (fun x => -x) s A)) (gzl (una (fun x => -x) s A)) w) := by
  obtain ⟨Z, hZ⟩ : ∃ Z, Z = una (fun x => -x) s A := ⟨_, rfl⟩
  have HZ := hid hZ
  rw [← hZ]
  clear hZ
  obtain ⟨gs, hgs⟩ : ∃ g, g = gzs Z := ⟨_, rfl⟩
  rw [← hgs]
  have HGS := hid hgs
  clear hgs
  have KA := hid (fun (W : World) (h : Ints W b1 v A) => impl_BigIntOk_own s v A hA b1 W h)
  have B0 := hid (W2_below (w := w) (s := s) (v := v) (T := 47))
  have L1 := hid (W2_1 (w := w) (s := s) (v := v) (T := 47))
  have L3 := hid (W2_2 (w := w) (s := s) (v := v) (T := 47))
  have I1 := hid (Ints_old h1 B0.out)
  obtain ⟨a, c, rfl, -⟩ := Ints_form h1
  clear h1
  cases e1 : bok s A with
  | false =>
    have hE := hid (HZ.out.trans (una_no e1))
    rw [e1] at KA
    clear e1
    go_enter Tryz.func135, Tryz.ntmps135
    go_wp2_with fail
    change Calls _ _ _ (W2 w s (.slice a A.length c) 47) _
    refine (KA.out _ I1.out).mono ?_
    rintro e w1 ⟨rfl, b1⟩
    have B0 := hid (B0.out.trans (b1.mono B0.out.size))
    have L3 := hid (L3.out.old b1)
    clear b1
    have f0 := L3.out.f0 0
    have f1 := L3.out.f0 1
    have p0 := L3.out.c0
    have p1 := L3.out.c1
    have R := hid (OwnG_zero1 (b := w.heap.size + 1) HGS.out rfl hE.out (by omega) B0.out)
    clear hE
    go_wp2
    exact bodyPost_ret (v := .agg #[.bool false, .slice none 0 0]) (by simp [results, Tryz.results135, go_sem, p0, p1]) rfl R.out
  | true =>
    have hE := hid (HZ.out.trans (una_yes e1))
    rw [e1] at KA
    have nA := hid (bok_iff.1 e1).1
    clear e1
    go_enter Tryz.func135, Tryz.ntmps135
    go_wp2_with fail
    change Calls _ _ _ (W2 w s (.slice a A.length c) 47) _
    refine (KA.out _ I1.out).mono ?_
    rintro e w1 ⟨rfl, b1⟩
    have B0 := hid (B0.out.trans (b1.mono B0.out.size))
    have I1 := hid (Ints_old I1.out b1)
    have L1 := hid (L1.out.old b1)
    have L3 := hid (L3.out.old b1)
    have q0 := L1.out.c0
    have q1 := L1.out.c1
    have hl3 := L3.out.lt
    clear b1
    go_wp2_with fail
    refine (newWhole_own s _ _ A hA _ I1.out).mono ?_
    rintro e w2 ⟨N, x, rfl, h1, b1⟩
    have L3 := hid (L3.out.old b1)
    have hN : w1.heap.size ≤ N := h1.mine
    have hs0 : w.heap.size ≤ w1.heap.size := by omega
    have B0 := hid ((B0.out.trans (b1.mono B0.out.size)).setCell (p := ⟨N, 1, none⟩) (Nat.le_trans hs0 hN) (.bool (!s)))
    have L3 := hid (L3.out.block (set_block w2 N 1 _ (.bool (!s)) (show w.heap.size + 1 ≠ N by omega)))
    have H1 := hid (IsNat.setNeg (t := !s) h1)
    rw [← rep_val (nok_iff.1 nA.out).2] at H1
    have r0 := h1.neg
    have r1 := h1.freeAt 1
    clear h1 b1 q0 q1
    have hE2 := hid (show sval (!s) (val A) = Z from by rw [hE.out, neg_sval])
    go_wp2_with fail
    refine (bigInt_own _ (!s) N x _ (val_nonneg (nok_lim nA.out)) _ H1.out).mono ?_
    rintro e w4 ⟨r, rfl, ir, b4⟩
    rw [hE2.out] at ir
    rw [hE2.out, ← HGS.out]
    have L3 := hid (L3.out.old b4)
    have BB := hid (B0.out.trans (b4.mono B0.out.size))
    have R := hid (OwnG_out1 (s := gs) (b := w.heap.size + 1) hs0 (by omega) L3.out (by decide) ir BB.out)
    obtain ⟨ar, cr, rfl, -⟩ := Ints_form ir
    have f0 := L3.out.f0 0
    have f1 := L3.out.f0 1
    have p0 := L3.out.c0
    have p1 := L3.out.c1
    clear ir b4 r0 r1 hN hs0 hl3
    go_wp2
    exact bodyPost_ret (v := .agg #[.bool gs, .slice ar _ cr]) (by simp [results, Tryz.results135, go_sem, p0, p1]) rfl R.out

def negO : Option Rat → Option Rat | some x => some (-x) | none => none
theorem fitO_neg {o : Option Rat} (h : fitO o) : fitO (negO o) := by
  cases o with
  | none => exact fitO_none
  | some x => exact fitO_some ⟨by rw [Rat.neg_num, Int.natAbs_neg]; exact (h x rfl).1, (h x rfl).2⟩

theorem fit_neg {x : Rat} (h : fit x) : fit (-x) := ⟨by rw [Rat.neg_num, Int.natAbs_neg]; exact h.1, h.2⟩
set_option maxRecDepth 100000 in
set_option maxHeartbeats 3200000 in
theorem impl_RatNeg (s : Bool) (v u : Value) (A D : List Int) (w : World) (h : RL w v u A D) :
    Calls Tryz.prog 86 #[.agg #[.bool s, v, u]] w (OwnR (negO (rval s A D)) w) := by
  obtain ⟨o, ho⟩ : ∃ o, o = negO (rval s A D) := ⟨_, rfl⟩
  have HO := hid ho
  rw [← ho]
  clear ho
  have hA : A.length ≤ 1073741824 := by have := h.la; omega
  have hD : D.length ≤ 1073741824 := by have := h.ld; omega
  have KO := hid (fun (W : World) (h : RL W v u A D) => impl_RatOk s v u A D W h)
  obtain ⟨b1, i1⟩ := h.a
  obtain ⟨b2, i2⟩ := h.d
  obtain ⟨a, c, b, d, rfl, rfl⟩ := h.form
  have B := hid (show Below w.heap.size w ((w.alloc (.cells #[.bool s, .slice a A.length c, .slice b D.length d] 49)).alloc (.cells #[.bool false, .slice none 0 0, .slice none 0 0] 49)) from ((Below.refl _ _).alloc (Nat.le_refl _) _).alloc (by simp) _)
  have LP := hid (show LocA 49 ((w.alloc (.cells #[.bool s, .slice a A.length c, .slice b D.length d] 49)).alloc (.cells #[.bool false, .slice none 0 0, .slice none 0 0] 49)) (w.heap.size) #[.bool s, .slice a A.length c, .slice b D.length d] from (LocA.at (by simp)).new1)
  have LR := hid (show LocA 49 ((w.alloc (.cells #[.bool s, .slice a A.length c, .slice b D.length d] 49)).alloc (.cells #[.bool false, .slice none 0 0, .slice none 0 0] 49)) (w.heap.size + 1) #[.bool false, .slice none 0 0, .slice none 0 0] from (LocA.at (by simp)))
  have H1 := hid (h.old B.out)
  clear h
  generalize hW : (w.alloc (.cells #[.bool s, .slice a A.length c, .slice b D.length d] 49)).alloc (.cells #[.bool false, .slice none 0 0, .slice none 0 0] 49) = W0 at B LP LR H1
  have HW := hid hW
  clear hW
  have hs0 := B.out.size
  have X1 := hid (Ints_old i1 B.out)
  have X2 := hid (Ints_old i2 B.out)
  clear i1 i2
  obtain ⟨p, hp⟩ : ∃ p, p = rok s A D := ⟨_, rfl⟩
  rw [← hp] at KO
  cases p with
  | false =>
    have hE := hid (show o = none by rw [HO.out, rval_no hp.symm]; rfl)
    clear hp
    go_enter Tryz.func86, Tryz.ntmps86
    have q0 := LP.out.c 0 rfl
    have q1 := LP.out.c 1 rfl
    have q2 := LP.out.c 2 rfl
    go_wp2_with fail
    rw [HW.out]
    (with_reducible refine (KO.out _ H1.out).mono ?_)
    clear q0 q1 q2
    rintro e w1 ⟨rfl, b1⟩
    have LR := hid (LR.out.old b1)
    have B := hid (B.out.trans (b1.mono B.out.size))
    clear b1
    have f0 := LR.out.f 0
    have f1 := LR.out.f 1
    have f2 := LR.out.f 2
    have p0 := LR.out.c 0 rfl
    have p1 := LR.out.c 1 rfl
    have p2 := LR.out.c 2 rfl
    have R := hid (OwnR_zero (N := w.heap.size + 1) hE.out (by omega) B.out)
    go_wp2
    exact bodyPost_ret (v := .agg #[.bool false, .slice none 0 0, .slice none 0 0]) (by simp [results, Tryz.results86, go_sem, p0, p1, p2]) rfl R.out
  | true =>
    obtain ⟨x, ex, n1, d1, fx⟩ := rval_yes hp.symm
    have hE := hid (show gzs (qn o) = gzs (-x.num) ∧ gzl (qn o) = gzl (-x.num) ∧ gzl (qd o) = D by
      rw [HO.out, ex]
      refine ⟨rfl, rfl, ?_⟩
      exact (rval_lists ex).2.2)
    have kA := (rok_iff.1 hp.symm).1
    have KN := hid (fun (W : World) (h : Ints W b1 (.slice a A.length c) A) => impl_BigIntNeg s _ A hA b1 W h)
    rw [una_yes kA, ← n1] at KN
    have KC := hid (fun (W : World) (h : Ints W b2 (.slice b D.length d) D) => clone_own b2 _ D hD W h)
    obtain ⟨gs, hgs⟩ : ∃ z, z = gzs (-x.num) := ⟨_, rfl⟩
    obtain ⟨gl, hgl⟩ : ∃ z, z = gzl (-x.num) := ⟨_, rfl⟩
    rw [← hgs, ← hgl] at KN hE
    clear ex n1 d1 fx hp kA hgs hgl HO
    go_enter Tryz.func86, Tryz.ntmps86
    have q0 := LP.out.c 0 rfl
    have q1 := LP.out.c 1 rfl
    have q2 := LP.out.c 2 rfl
    go_wp2_with fail
    rw [HW.out]
    (with_reducible refine (KO.out _ H1.out).mono ?_)
    clear q0 q1 q2
    rintro e w1 ⟨rfl, b1⟩
    have LP := hid (LP.out.old b1)
    have LR := hid (LR.out.old b1)
    have X1 := hid (Ints_old X1.out b1)
    have X2 := hid (Ints_old X2.out b1)
    have B := hid (B.out.trans (b1.mono B.out.size))
    clear b1
    have hs0 := B.out.size
    go_wp2_with fail
    have LP := hid (LP.out.old (Below_drew1 (Below.refl _ _)))
    have LR := hid (LR.out.old (Below_drew1 (Below.refl _ _)))
    have X1 := hid (Ints_old X1.out (Below_drew1 (Below.refl _ _)))
    have X2 := hid (Ints_old X2.out (Below_drew1 (Below.refl _ _)))
    have B := hid (Below_drew1 B.out)
    have q0 := LP.out.c 0 rfl
    have q1 := LP.out.c 1 rfl
    have q2 := LP.out.c 2 rfl
    go_region_held3 (fun w' => w'.cell? ⟨w.heap.size, 0, none⟩ = some (.bool s) ∧ w'.cell? ⟨w.heap.size, 1, none⟩ = some (.slice a A.length c) ∧ w'.cell? ⟨w.heap.size, 2, none⟩ = some (.slice b D.length d)) (first | exact ⟨q0, q1, q2⟩ | exact ⟨(cell_set3 (by omega)).trans q0, (cell_set3 (by omega)).trans q1, (cell_set3 (by omega)).trans q2⟩ | go_keep) (first | (go_at_call 135; (with_reducible refine (KN.out _ X1.out).mono ?_); rintro e w2 ⟨r, rfl, i1, b1⟩; have LP := hid (LP.out.old b1); have LR := hid (LR.out.old b1); have X1 := hid (Ints_old X1.out b1); have X2 := hid (Ints_old X2.out b1); have B := hid (B.out.trans (b1.mono B.out.size)); have I1 := hid i1; have hs1 := B.out.size; obtain ⟨a1, c1, rfl, -⟩ := Ints_form i1; clear i1 b1; have q0 := LP.out.c 0 rfl; have q1 := LP.out.c 1 rfl; have q2 := LP.out.c 2 rfl) | (go_at_call 136; (with_reducible refine (KC.out _ X2.out).mono ?_); rintro e w3 ⟨r, rfl, i1, b1⟩; have LP := hid (LP.out.old b1); have LR := hid (LR.out.old b1); have X1 := hid (Ints_old X1.out b1); have X2 := hid (Ints_old X2.out b1); have B := hid (B.out.trans (b1.mono B.out.size)); have ND := hid (apart_of I1.out i1 (Nat.le_refl _)); have I1 := hid (Ints_old I1.out b1); have I2 := hid i1; obtain ⟨a2, c2, rfl, -⟩ := Ints_form i1; clear i1 b1; have q0 := LP.out.c 0 rfl; have q1 := LP.out.c 1 rfl; have q2 := LP.out.c 2 rfl; have f0 := LR.out.f 0; have f1 := LR.out.f 1; have f2 := LR.out.f 2; have p0 := LR.out.c 0 rfl; have p1 := LR.out.c 1 rfl; have p2 := LR.out.c 2 rfl; have R := hid (OwnR_out (o := o) (s := gs) (N := w.heap.size + 1) (w := w) hE.out.1.symm hE.out.2.1.symm hE.out.2.2.symm (by omega) LR.out (by decide) hs0 hs1 I1.out I2.out ND.out B.out)))
    clear q0 q1 q2
    go_wp2
    exact bodyPost_ret (v := .agg #[.bool gs, .slice a1 _ c1, .slice a2 _ c2]) (by simp [results, Tryz.results86, go_sem, p0, p1, p2]) rfl R.out
set_option maxRecDepth 100000 in
set_option maxHeartbeats 3200000 in
theorem spec_RatNeg (s : Bool) (v u : Value) (A D : List Int) (w : World) (h : RL w v u A D) :
    Calls Tryz.prog 80 #[.agg #[.bool s, v, u]] w (OwnS (negO (rval s A D)) w) := by
  obtain ⟨o, ho⟩ : ∃ o, o = negO (rval s A D) := ⟨_, rfl⟩
  have HO := hid ho
  rw [← ho]
  clear ho
  have KO := hid (fun (W : World) (h : RL W v u A D) => spec_RatOk s v u A D W h)
  obtain ⟨a, c, b, d, rfl, rfl⟩ := h.form
  have B := hid (show Below w.heap.size w ((w.alloc (.cells #[.bool s, .slice a A.length c, .slice b D.length d] 49)).alloc (.cells #[.bool false, .slice none 0 0, .slice none 0 0] 49)) from ((Below.refl _ _).alloc (Nat.le_refl _) _).alloc (by simp) _)
  have LP := hid (show LocA 49 ((w.alloc (.cells #[.bool s, .slice a A.length c, .slice b D.length d] 49)).alloc (.cells #[.bool false, .slice none 0 0, .slice none 0 0] 49)) (w.heap.size) #[.bool s, .slice a A.length c, .slice b D.length d] from (LocA.at (by simp)).new1)
  have LR := hid (show LocA 49 ((w.alloc (.cells #[.bool s, .slice a A.length c, .slice b D.length d] 49)).alloc (.cells #[.bool false, .slice none 0 0, .slice none 0 0] 49)) (w.heap.size + 1) #[.bool false, .slice none 0 0, .slice none 0 0] from (LocA.at (by simp)))
  have H1 := hid (h.old B.out)
  clear h
  generalize hW : (w.alloc (.cells #[.bool s, .slice a A.length c, .slice b D.length d] 49)).alloc (.cells #[.bool false, .slice none 0 0, .slice none 0 0] 49) = W0 at B LP LR H1
  have HW := hid hW
  clear hW
  have hs0 := B.out.size
  obtain ⟨p, hp⟩ : ∃ p, p = rok s A D := ⟨_, rfl⟩
  rw [← hp] at KO
  cases p with
  | false =>
    have hE := hid (show o = none by rw [HO.out, rval_no hp.symm]; rfl)
    clear hp
    go_enter Tryz.func80, Tryz.ntmps80
    have q0 := LP.out.c 0 rfl
    have q1 := LP.out.c 1 rfl
    have q2 := LP.out.c 2 rfl
    go_wp2_with fail
    rw [HW.out]
    (with_reducible refine (KO.out _ H1.out).mono ?_)
    clear q0 q1 q2
    rintro e w1 ⟨rfl, b1⟩
    have LR := hid (LR.out.old b1)
    have B := hid (B.out.trans (b1.mono B.out.size))
    clear b1
    have f0 := LR.out.f 0
    have f1 := LR.out.f 1
    have f2 := LR.out.f 2
    have p0 := LR.out.c 0 rfl
    have p1 := LR.out.c 1 rfl
    have p2 := LR.out.c 2 rfl
    have R := hid (OwnS_zero (N := w.heap.size + 1) hE.out (by omega) B.out)
    go_wp2
    exact bodyPost_ret (v := .agg #[.bool false, .slice none 0 0, .slice none 0 0]) (by simp [results, Tryz.results80, go_sem, p0, p1, p2]) rfl R.out
  | true =>
    obtain ⟨x, ex, rx⟩ := RatX.of H1.out hp.symm
    have X := hid rx
    have hE := hid (show o = some (-x) by rw [HO.out, ex]; rfl)
    have KN := hid (fun (W : World) (h : RatX W s (.slice a A.length c) (.slice b D.length d) x) => l04Neg_own s _ _ x W h)
    rw [← hE.out] at KN
    clear ex rx hp hE HO
    obtain ⟨gs, hgs⟩ : ∃ g, g = gzs (qn o) := ⟨_, rfl⟩
    have HGS := hid hgs
    clear hgs
    go_enter Tryz.func80, Tryz.ntmps80
    have q0 := LP.out.c 0 rfl
    have q1 := LP.out.c 1 rfl
    have q2 := LP.out.c 2 rfl
    go_wp2_with fail
    rw [HW.out]
    (with_reducible refine (KO.out _ H1.out).mono ?_)
    clear q0 q1 q2
    rintro e w1 ⟨rfl, b1⟩
    have LR := hid (LR.out.old b1)
    have LP := hid (LP.out.old b1)
    have X := hid (X.out.old b1)
    have B := hid (B.out.trans (b1.mono B.out.size))
    clear b1
    have q0 := LP.out.c 0 rfl
    have q1 := LP.out.c 1 rfl
    have q2 := LP.out.c 2 rfl
    have hs2 := B.out.size
    go_wp2_with fail
    (with_reducible refine (KN.out _ X.out).mono ?_)
    clear q0 q1 q2
    rintro e w2 ⟨v1, u1, rfl, j1, j2, b1⟩
    have LR := hid (LR.out.old b1)
    have LP := hid (LP.out.old b1)
    have X := hid (X.out.old b1)
    have B := hid (B.out.trans (b1.mono B.out.size))
    rw [← HGS.out]
    have f0 := LR.out.f 0
    have f1 := LR.out.f 1
    have f2 := LR.out.f 2
    have p0 := LR.out.c 0 rfl
    have p1 := LR.out.c 1 rfl
    have p2 := LR.out.c 2 rfl
    have R := hid (OwnS_out (o := o) (N := w.heap.size + 1) HGS.out rfl rfl (by omega) LR.out (by decide) hs2 hs2 j1 j2 B.out)
    obtain ⟨e1, d1, rfl, -⟩ := Ints_form j1
    obtain ⟨e2, d2, rfl, -⟩ := Ints_form j2
    clear j1 j2 b1
    go_wp2
    exact bodyPost_ret (v := .agg #[.bool gs, .slice e1 _ d1, .slice e2 _ d2]) (by simp [results, Tryz.results80, go_sem, p0, p1, p2]) rfl R.out
theorem neg_o {w : World} {s : Bool} {v u : Value} {o : Option Rat} (h : RA w s v u o) : Calls Tryz.prog 86 #[.agg #[.bool s, v, u]] w (RatO true (negO o) w) := by
  obtain ⟨A, D, r, rfl⟩ := h
  exact (impl_RatNeg s v u A D w r).mono fun e w' hh => RatO_of hh (fitO_neg (fitO_rval s A D))
theorem sneg_o {w : World} {s : Bool} {v u : Value} {o : Option Rat} (h : RA w s v u o) : Calls Tryz.prog 80 #[.agg #[.bool s, v, u]] w (RatO false (negO o) w) := by
  obtain ⟨A, D, r, rfl⟩ := h
  exact (spec_RatNeg s v u A D w r).mono fun e w' hh => RatO_ofS hh (fitO_neg (fitO_rval s A D))

theorem VO.weak {p : Bool} {w : World} {v : Value} {E : List El} {lo hi : Nat} (h : VO p w v E lo hi) : VO false w v E lo hi := ⟨h.row, h.high, h.el, fun h => (by cases h), fun h => (by cases h)⟩
theorem VK.weak {p : Bool} {w : World} {v : Value} {K : List Fq} {lo hi : Nat} (h : VK p w v K lo hi) : VK false w v K lo hi := by
  obtain ⟨E, h, e⟩ := h
  exact ⟨E, h.weak, e⟩
theorem eqRatS_vo (p1 p2 : Bool) (v1 v2 : Value) (E1 E2 : List El) (l1 h1 l2 h2 : Nat) (he : keys E1 = keys E2) (hK : szK (keys E1) ≤ 4194304) (w : World) (o1 : VO p1 w v1 E1 l1 h1) (o2 : VO p2 w v2 E2 l2 h2) :
    Calls Tryz.prog 31 #[v1, v2] w (RetB (.bool true) w) := by
  obtain ⟨a1, c1, rfl, -⟩ := o1.form
  obtain ⟨a2, c2, rfl, -⟩ := o2.form
  exact eqRatS_w hK w o1.vw (by rw [he]; exact o2.vw)
theorem eqRatS_k {p1 p2 : Bool} {v1 v2 : Value} {K : List Fq} {l1 h1 l2 h2 : Nat} (hK : szK K ≤ 4194304) (w : World) (o1 : VK p1 w v1 K l1 h1) (o2 : VK p2 w v2 K l2 h2) :
    Calls Tryz.prog 31 #[v1, v2] w (RetB (.bool true) w) := by
  obtain ⟨E1, o1, rfl⟩ := o1
  obtain ⟨E2, o2, e⟩ := o2
  exact eqRatS_vo p1 p2 v1 v2 E1 E2 l1 h1 l2 h2 e.symm hK w o1 o2
theorem heldRatS_k {p : Bool} {v : Value} {K : List Fq} {m : Int} {lo hi : Nat} (hK : szK K ≤ 4194304) (m0 : 0 ≤ m) (m1 : m ≤ 4194304) (w : World) (o1 : VK p w v (mkK K m) lo hi) :
    Calls Tryz.prog 33 #[v, .int .i64 m] w (RetB (.int .i64 (m + (szK K : Int))) w) := by
  obtain ⟨a, c, rfl⟩ := o1.form
  exact heldRatS_w hK m0 m1 w o1.vw

end Go.Proofs.YtamhmpjadnfpdaaGreat

/- The vector of the kernel (the program). -/
namespace Go.Proofs.YtamhmpjadnfpdaaGreat
open Go.RowKit
open Go.Lib (hid)
set_option linter.unusedVariables false
set_option linter.unusedSimpArgs false

theorem natI_get {ps : List Nat} {k : Nat} (h : k < (natI ps).length) : (natI ps)[k] = (ps[k]'(by rw [natI_len] at h; exact h) : Int) := by simp [natI]
theorem Ints_nat {w : World} {lo : Nat} {a : Option Addr} {n c : Nat} {ps : List Nat} (h : Ints w lo (.slice a n c) (natI ps)) : n = ps.length ∧ ∀ k (hk : k < ps.length), ∃ g o, a = some ⟨g, o, none⟩ ∧ w.cell? ⟨g, o + k, none⟩ = some (.int .i64 (ps[k] : Int)) := by
  obtain ⟨a', c', e, -, hr, -⟩ := Ints_form h
  simp only [Value.slice.injEq] at e
  obtain ⟨rfl, rfl, rfl⟩ := e
  refine ⟨natI_len ps, fun k hk => ?_⟩
  have hl := natI_len ps
  obtain ⟨g, o, e, -, hc⟩ := hr.2 (by omega)
  have := hc k (by omega)
  rw [natI_get (by omega)] at this
  exact ⟨g, o, e, this⟩
theorem kvJ_af {W : Nat} {S : List (List Rat)} (h : Rows W S) (f j : Nat) : AF (kvJ W S f j) := by
  have h0 : fit (0 : Rat) := by have := fitO_i64 (n := 0) (by decide) (by decide); exact this _ rfl
  have h1 : fit (1 : Rat) := by have := fitO_i64 (n := 1) (by decide) (by decide); exact this _ rfl
  intro x hx
  obtain ⟨k, hk, rfl⟩ := List.getElem_of_mem hx
  rw [kvJ_at]
  split
  · refine fit_neg ?_
    by_cases hS : k < S.length
    · rw [List.getD_eq_getElem?_getD, List.getElem?_eq_getElem hS, Option.getD_some]
      by_cases hf : f < S[k].length
      · exact af_el (h.af _ (List.getElem_mem hS)) hf
      · rw [el, List.getD_eq_getElem?_getD, List.getElem?_eq_none (by omega)]; exact h0
    · rw [List.getD_eq_getElem?_getD, List.getElem?_eq_none (by omega), Option.getD_none, el]; exact h0
  · split
    · exact h1
    · exact h0
theorem negO_fr (x : Rat) : negO (some x) = some (-x) := rfl
set_option maxRecDepth 100000 in
set_option maxHeartbeats 12800000 in
theorem impl_KernelVector {a : Option Addr} {n c : Nat} {M : List (List Fq)} {lo hi : Nat} (hM : Sm2 M) (w : World) (h : MW w a n M lo hi) :
    Calls Tryz.prog 42 #[.slice a n c] w (VecR true (kerK M) w) := by
  have KR := hid (reduceRows_all (c := c) hM w h)
  obtain ⟨W, S, ps, e1, e2, hRW, hE, hps, hS, hW, hmw, e3⟩ := ker_data M
  rw [e1, e2] at KR
  rw [e3]
  have HRW := hid hRW
  have HE := hid hE
  have HMW := hid hmw
  have HSM := hid (Sm2_rv hRW hS hW)
  clear h e1 e2 e3 hRW hE hmw hM
  go_enter Tryz.func42, Tryz.ntmps42
  go_wp2_with fail
  (with_reducible refine (KR.out).mono ?_)
  rintro e w1 ⟨a1, n1, c1, a2, n2, c2, rfl, h1, h2, hb⟩
  obtain ⟨rfl, hp⟩ := Ints_nat h2
  have hn1 := h1.num
  rw [List.length_map] at hn1
  subst hn1
  have HP := hid hp
  have HB := hid hb
  have HR := hid h1.mw
  clear h1 h2 hb hp
  go_wp2
  go_loopw [5] (fun f wr => ∃ k : Nat, k ≤ ps.length ∧ f = .int .i64 k ∧ w1 = wr ∧ Hid (∀ i (hi : i < ps.length), i < k → ps[i] = i)) (fun f _ => ps.length - (intOf f).toNat)
  case atStart => exact ⟨0, Nat.zero_le _, rfl, rfl, hid fun i hi h => by omega⟩
  case round =>
    obtain ⟨k, hk, rfl, rfl, HK⟩ := hrel
    have hcase : (∃ hlt : k < ps.length, ps[k] = k) ∨ (k = frP ps ps.length ∧ (k = ps.length ∨ ∃ hlt : k < ps.length, ps[k] ≠ k)) := by
      by_cases hlt : k < ps.length
      · by_cases he : ps[k] = k
        · exact .inl ⟨hlt, he⟩
        · refine .inr ⟨?_, .inr ⟨hlt, he⟩⟩
          exact (frP_hi HE.out.inc k (by omega) (fun i hi => HK.out i (by omega) hi) (fun _ => he) (by omega) (Nat.le_refl _)).symm
      · obtain rfl : k = ps.length := by omega
        exact .inr ⟨(frP_le _ (Nat.le_refl _) (fun i hi => HK.out i hi hi) (Nat.le_refl _)).symm, .inl rfl⟩
    have b1 : (0 : Int) ≤ k := by omega
    rcases hcase with ⟨hlt, he⟩ | ⟨hf, hx⟩
    · obtain ⟨g, o, rfl, hc⟩ := HP.out k hlt
      have HKK := hid he
      rw [he] at hc
      have b2 : (k : Int) < ps.length := by omega
      clear he
      go_wp2
      go_roundw
      case rel => exact ⟨k + 1, by omega, by go_num, by first | rfl | trivial, hid fun i hi h => by
        by_cases e : i = k
        · subst e; exact HKK.out
        · exact HK.out i hi (by omega)⟩
      case measure => simp [intOf]; omega
    · have KW := hid (impl_matWidth (c := c1) HSM.out w1 HR.out)
      rw [HMW.out] at KW
      have KU := hid (fun U => impl_VecUnit (W : Int) (k : Int) (by omega) (by omega) (by omega) (by omega) U)
      have HF := hid hf
      clear hf
      by_cases hkW : k < W
      · have KV := hid (show kerV W S ps = kvJ W S k k by unfold kerV; rw [← HF.out, if_pos hkW])
        rw [unitK_kv hW hkW S] at KU
        have hm0 : ((W : Int) == 0) = false := beq_eq_false_iff_ne.2 (by omega)
        have hAF := hid (fun j => kvJ_af HRW.out k j)
        rcases hx with hx | ⟨hlt, hne⟩
        · subst hx
          have b2 : ¬ (ps.length : Int) < ps.length := by omega
          go_wp2_with fail
          (with_reducible refine (KW.out).mono ?_)
          rintro e w2 ⟨rfl, rfl⟩
          go_wp2_with fail
          (with_reducible refine (KU.out _).mono ?_)
          rintro e w2 ⟨av, nv, cv, rfl, hv, hb⟩
          obtain rfl : nv = W := by have := hv.num; rw [rv_len, kvJ_len] at this; exact this
          have HV0 := hid hv
          have HB0 := hid hb
          clear hv hb
          go_wp2
          go_loopw [35] (fun i wr => ∃ j : Nat, j ≤ ps.length ∧ i = .int .i64 j ∧ Hid (VK true wr (.slice av nv cv) (rv (kvJ nv S ps.length j)) w1.heap.size wr.heap.size) ∧ Hid (Below w1.heap.size w1 wr)) (fun i _ => ps.length - (intOf i).toNat)
          case atStart => exact ⟨0, Nat.zero_le _, rfl, HV0, HB0⟩
          case round =>
            obtain ⟨j, hj, rfl, hV, HBB⟩ := hrel
            by_cases hlt : j < ps.length
            · have hjS : j < S.length := by omega
              have hgd : S.getD j [] = S[j] := by rw [List.getD_eq_getElem?_getD, List.getElem?_eq_getElem hjS, Option.getD_some]
              obtain ⟨g7, o7, b7, d7, rfl, hg7, q0, hvw⟩ := (HR.out.old HBB.out).at (k := j) (by rw [List.length_map]; exact hjS)
              rw [List.getElem_map, rv_len, (HRW.out.at hjS).1] at q0 hvw
              obtain ⟨g8, o8, s8, a8, n8, c8, e8, m8, d8, rfl, hg8, p0, p1, p2, R⟩ := hvw.elx (HRW.out.at hjS).2 (by rw [(HRW.out.at hjS).1]; exact hW) (k := ps.length) (by rw [(HRW.out.at hjS).1]; exact hkW)
              have KN := hid (neg_o R)
              rw [negO_fr, ← hgd] at KN
              have hjv : j < (rv (kvJ nv S ps.length j)).length := by rw [rv_len, kvJ_len]; omega
              have hSMv := hid (Sm_rv (hAF.out j) (by rw [kvJ_len]; exact hW))
              obtain ⟨gv, -, -, -, -, -, -, eav, -⟩ := hV.out.at hSMv.out hjv
              subst eav
              have b5 : (0 : Int) ≤ j := by omega
              have b6 : (j : Int) < ps.length := by omega
              have b7 : (ps.length : Int) < nv := by omega
              have b8 : (j : Int) < nv := by omega
              have b9 : (j : Int) < S.length := by omega
              clear hvw R hgd
              go_wp2_with fail
              (with_reducible refine (KN.out).mono ?_)
              rintro e w5 ⟨s5, a5, n5, c5, b5, m5, d5, rfl, hro, hb⟩
              have VE := hid (hV.out.old hb)
              have HRO := hid hro
              have HBE := hid (HBB.out.trans (hb.mono HBB.out.size))
              have hbz := hid hb.size
              have f0 := VE.out.free (j * 3)
              have f1 := VE.out.free (j * 3 + 1)
              have f2 := VE.out.free (j * 3 + 2)
              have hcs := VE.out.at hSMv.out hjv
              obtain ⟨gw, x31, x32, x33, x34, x35, x36, eg, -, p0, p1, p2, -⟩ := hcs
              have egv : gv = gw := by simpa using eg
              subst egv
              clear hro hb eg
              all_goals
                have hz5 := hbz.out
                have hz6 := HBB.out.size
                have HPP := hid (VE.out.put hjv HRO.out (Nat.le_refl _) (by omega) hz5)
                have hg := hid (show w1.heap.size ≤ gv by obtain ⟨E, hE, -⟩ := VE.out; exact (hE.lt gv rfl).1)
                have HBN := hid (((HBE.out.setCell (p := ⟨gv, j * 3, none⟩) hg.out (.bool s5)).setCell (p := ⟨gv, j * 3 + 1, none⟩) hg.out (.slice a5 n5 c5)).setCell (p := ⟨gv, j * 3 + 2, none⟩) hg.out (.slice b5 m5 d5))
                go_wp2
                go_roundw
                case rel => exact ⟨j + 1, by omega, by go_num, hid (by
                  have := HPP.out
                  rw [← rv_set, kvJ_set hlt hkW] at this
                  simpa [size_set] using this), HBN⟩
                case measure => simp [intOf]; omega
            · obtain rfl : j = ps.length := by omega
              go_wp2
              go_ret
              exact ⟨_, _, _, rfl, by rw [KV.out]; exact hV.out.wide HB.out.size (Nat.le_refl _), HB.out.trans (HBB.out.mono HB.out.size)⟩
        · obtain ⟨g, o, rfl, hc⟩ := HP.out k hlt
          have b2 : (k : Int) < ps.length := by omega
          have b3 : ((ps[k] : Int) == (k : Int)) = false := beq_eq_false_iff_ne.2 (by omega)
          have b4 : ¬ (ps[k] : Int) = (k : Int) := by omega
          clear hne
          go_wp2_with fail
          (with_reducible refine (KW.out).mono ?_)
          rintro e w2 ⟨rfl, rfl⟩
          go_wp2_with fail
          (with_reducible refine (KU.out _).mono ?_)
          rintro e w2 ⟨av, nv, cv, rfl, hv, hb⟩
          obtain rfl : nv = W := by have := hv.num; rw [rv_len, kvJ_len] at this; exact this
          have HV0 := hid hv
          have HB0 := hid hb
          clear hv hb
          go_wp2
          go_loopw [35] (fun i wr => ∃ j : Nat, j ≤ k ∧ i = .int .i64 j ∧ Hid (VK true wr (.slice av nv cv) (rv (kvJ nv S k j)) w1.heap.size wr.heap.size) ∧ Hid (Below w1.heap.size w1 wr)) (fun i _ => k - (intOf i).toNat)
          case atStart => exact ⟨0, Nat.zero_le _, rfl, HV0, HB0⟩
          case round =>
            obtain ⟨j, hj, rfl, hV, HBB⟩ := hrel
            by_cases hlt : j < k
            · have hjS : j < S.length := by omega
              have hgd : S.getD j [] = S[j] := by rw [List.getD_eq_getElem?_getD, List.getElem?_eq_getElem hjS, Option.getD_some]
              obtain ⟨g7, o7, b7, d7, rfl, hg7, q0, hvw⟩ := (HR.out.old HBB.out).at (k := j) (by rw [List.length_map]; exact hjS)
              rw [List.getElem_map, rv_len, (HRW.out.at hjS).1] at q0 hvw
              obtain ⟨g8, o8, s8, a8, n8, c8, e8, m8, d8, rfl, hg8, p0, p1, p2, R⟩ := hvw.elx (HRW.out.at hjS).2 (by rw [(HRW.out.at hjS).1]; exact hW) (k := k) (by rw [(HRW.out.at hjS).1]; exact hkW)
              have KN := hid (neg_o R)
              rw [negO_fr, ← hgd] at KN
              have hjv : j < (rv (kvJ nv S k j)).length := by rw [rv_len, kvJ_len]; omega
              have hSMv := hid (Sm_rv (hAF.out j) (by rw [kvJ_len]; exact hW))
              obtain ⟨gv, -, -, -, -, -, -, eav, -⟩ := hV.out.at hSMv.out hjv
              subst eav
              have b5 : (0 : Int) ≤ j := by omega
              have b6 : (j : Int) < k := by omega
              have b7 : (k : Int) < nv := by omega
              have b8 : (j : Int) < nv := by omega
              have b9 : (j : Int) < S.length := by omega
              clear hvw R hgd
              go_wp2_with fail
              (with_reducible refine (KN.out).mono ?_)
              rintro e w5 ⟨s5, a5, n5, c5, b5, m5, d5, rfl, hro, hb⟩
              have VE := hid (hV.out.old hb)
              have HRO := hid hro
              have HBE := hid (HBB.out.trans (hb.mono HBB.out.size))
              have hbz := hid hb.size
              have f0 := VE.out.free (j * 3)
              have f1 := VE.out.free (j * 3 + 1)
              have f2 := VE.out.free (j * 3 + 2)
              have hcs := VE.out.at hSMv.out hjv
              obtain ⟨gw, x31, x32, x33, x34, x35, x36, eg, -, p0, p1, p2, -⟩ := hcs
              have egv : gv = gw := by simpa using eg
              subst egv
              clear hro hb eg
              all_goals
                have hz5 := hbz.out
                have hz6 := HBB.out.size
                have HPP := hid (VE.out.put hjv HRO.out (Nat.le_refl _) (by omega) hz5)
                have hg := hid (show w1.heap.size ≤ gv by obtain ⟨E, hE, -⟩ := VE.out; exact (hE.lt gv rfl).1)
                have HBN := hid (((HBE.out.setCell (p := ⟨gv, j * 3, none⟩) hg.out (.bool s5)).setCell (p := ⟨gv, j * 3 + 1, none⟩) hg.out (.slice a5 n5 c5)).setCell (p := ⟨gv, j * 3 + 2, none⟩) hg.out (.slice b5 m5 d5))
                go_wp2
                go_roundw
                case rel => exact ⟨j + 1, by omega, by go_num, hid (by
                  have := HPP.out
                  rw [← rv_set, kvJ_set hlt hkW] at this
                  simpa [size_set] using this), HBN⟩
                case measure => simp [intOf]; omega
            · obtain rfl : j = k := by omega
              go_wp2
              go_ret
              exact ⟨_, _, _, rfl, by rw [KV.out]; exact hV.out.wide HB.out.size (Nat.le_refl _), HB.out.trans (HBB.out.mono HB.out.size)⟩
      · have KV := hid (show kerV W S ps = [] by unfold kerV; rw [← HF.out, if_neg hkW])
        rw [unitK_no hW (by omega)] at KU
        rcases hx with hx | ⟨hlt, hne⟩
        · subst hx
          have b2 : ¬ (ps.length : Int) < ps.length := by omega
          go_wp2_with fail
          (with_reducible refine (KW.out).mono ?_)
          rintro e w2 ⟨rfl, rfl⟩
          go_wp2_with fail
          (with_reducible refine (KU.out _).mono ?_)
          rintro e w2 ⟨av, nv, cv, rfl, hv, hb⟩
          obtain rfl : nv = 0 := hv.num
          have HBN := hid (HB.out.trans (hb.mono HB.out.size))
          clear hv hb
          go_wp2
          go_ret
          exact ⟨none, 0, 0, rfl, by rw [KV.out]; exact VK_nil _ _ _ _, HBN.out⟩
        · obtain ⟨g, o, rfl, hc⟩ := HP.out k hlt
          have b2 : (k : Int) < ps.length := by omega
          have b3 : ((ps[k] : Int) == (k : Int)) = false := beq_eq_false_iff_ne.2 (by omega)
          have b4 : ¬ (ps[k] : Int) = (k : Int) := by omega
          clear hne
          go_wp2_with fail
          (with_reducible refine (KW.out).mono ?_)
          rintro e w2 ⟨rfl, rfl⟩
          go_wp2_with fail
          (with_reducible refine (KU.out _).mono ?_)
          rintro e w2 ⟨av, nv, cv, rfl, hv, hb⟩
          obtain rfl : nv = 0 := hv.num
          have HBN := hid (HB.out.trans (hb.mono HB.out.size))
          clear hv hb
          go_wp2
          go_ret
          exact ⟨none, 0, 0, rfl, by rw [KV.out]; exact VK_nil _ _ _ _, HBN.out⟩
end Go.Proofs.YtamhmpjadnfpdaaGreat

/- The vector of the kernel (the reference). -/
namespace Go.Proofs.YtamhmpjadnfpdaaGreat
open Go.RowKit
open Go.Lib (hid)
set_option linter.unusedVariables false
set_option linter.unusedSimpArgs false

theorem kerK_nil {M : List (List Fq)} (h : M.length = 0) : kerK M = [] := by
  have : M = [] := List.eq_nil_of_length_eq_zero h
  subst this; rfl
theorem kerK_no {M : List (List Fq)} (h : matOk M = false) : kerK M = [] := by unfold kerK redM; rw [h, if_neg (by decide)]
theorem kerK_none {M : List (List Fq)} (h : matOk M = true) (e : redK (un M) (matW M) = none) : kerK M = [] := by unfold kerK redM; rw [h, if_pos rfl, e]
theorem kerK_some {M : List (List Fq)} (h : matOk M = true) {S : List (List Rat)} {ps : List Nat} (e : redK (un M) (matW M) = some (S, ps)) : kerK M = rv (kerV (matW M) S ps) := by unfold kerK redM; rw [h, if_pos rfl, e]
set_option maxRecDepth 100000 in
set_option maxHeartbeats 12800000 in
theorem spec_KernelVector {a : Option Addr} {n c : Nat} {M : List (List Fq)} {lo hi : Nat} (hM : Sm2 M) (w : World) (h : MW w a n M lo hi) :
    Calls Tryz.prog 41 #[.slice a n c] w (VecR false (kerK M) w) := by
  have HV := hid h
  have KO := hid (spec_MatOk_w (c := c) hM w h)
  obtain rfl := h.num
  obtain ⟨RS, hRS⟩ : ∃ RS, RS = kerK M := ⟨_, rfl⟩
  cases hok : matOk M with
  | false =>
    rw [hok] at KO
    have HR0 := hid (show RS = [] by rw [hRS]; exact kerK_no hok)
    rw [← hRS]
    clear h hok hRS
    go_enter Tryz.func41, Tryz.ntmps41
    go_wp2_with fail
    (with_reducible refine (KO.out).mono ?_)
    rintro e w2 ⟨rfl, hb⟩
    have R := hid (show VecR false RS w (.returned (.slice none 0 0)) w2 by rw [HR0.out]; exact ⟨none, 0, 0, rfl, VK_nil _ _ _ _, hb⟩)
    clear hb
    go_wp2
    go_ret
    exact R.out
  | true =>
    rw [hok] at KO
    by_cases h0 : M.length = 0
    · have HR0 := hid (show RS = [] by rw [hRS]; exact kerK_nil h0)
      rw [← hRS]
      have e0 : ((M.length : Int) == 0) = true := by rw [h0]; rfl
      clear h hok hRS h0
      go_enter Tryz.func41, Tryz.ntmps41
      go_wp2_with fail
      (with_reducible refine (KO.out).mono ?_)
      rintro e w2 ⟨rfl, hb⟩
      have R := hid (show VecR false RS w (.returned (.slice none 0 0)) w2 by rw [HR0.out]; exact ⟨none, 0, 0, rfl, VK_nil _ _ _ _, hb⟩)
      clear hb
      go_wp2
      go_ret
      exact R.out
    · have e0 : ((M.length : Int) == 0) = false := beq_eq_false_iff_ne.2 (by omega)
      have a0 : (0 : Int) < M.length := by omega
      obtain ⟨u1, u2⟩ := un_rv hok
      have hn := matOk_n hok
      have hw := matOk_w hok
      have hl := un_len M
      have KR := hid (fun (U : World) (hb : Below w.heap.size w U) => l09Reduce_any (c := c) u2 (by omega) hw (by omega) (Nat.le_refl _) U (show MW U a M.length ((un M).map rv) lo hi by rw [← u1]; exact h.old hb))
      have HRS := hid hRS
      rw [← hRS]
      cases e3 : redK (un M) (matW M) with
      | none =>
        have HR0 := hid (show RS = [] by rw [hRS]; exact kerK_none hok e3)
        rw [e3] at KR
        obtain ⟨W, hWe⟩ : ∃ W, W = matW M := ⟨_, rfl⟩
        have HWE := hid hWe
        rw [← hWe] at KR hw
        clear h hok hRS u1 u2 hl hWe
        go_enter Tryz.func41, Tryz.ntmps41
        go_wp2_with fail
        (with_reducible refine (KO.out).mono ?_)
        rintro e w2 ⟨rfl, hb⟩
        have HB2 := hid hb
        clear hb
        obtain ⟨g, o, b, d, rfl, hg, q0, -⟩ := (HV.out.old HB2.out).at (k := 0) (by omega)
        rw [Nat.add_zero, ← matW_at (by omega), ← HWE.out] at q0
        go_wp2_with fail
        (with_reducible refine (KR.out _ HB2.out).mono ?_)
        rintro e w3 ⟨rfl, hb⟩
        have R := hid (show VecR false RS w (.returned (.slice none 0 0)) w3 by rw [HR0.out]; exact ⟨none, 0, 0, rfl, VK_nil _ _ _ _, HB2.out.trans (hb.mono HB2.out.size)⟩)
        clear hb
        go_wp2
        go_loopw [7, 34] (fun f i wr => f = .int .i64 0 ∧ i = .int .i64 0 ∧ w3 = wr) (fun _ _ _ => 0)
        case atStart => exact ⟨rfl, rfl, rfl⟩
        case round =>
          obtain ⟨rfl, rfl, rfl⟩ := hrel
          go_wp2
          go_ret
          exact R.out
      | some q =>
        obtain ⟨S, ps⟩ := q
        have hE := redK_ech u2 (Nat.le_refl _) e3
        obtain ⟨i1, i2, i3, i4, i5⟩ := redK_inv u2 e3
        have HR0 := hid (show RS = rv (kerV (matW M) S ps) by rw [hRS]; exact kerK_some hok e3)
        rw [e3] at KR
        rw [← i2] at KR
        obtain ⟨W, hWe⟩ : ∃ W, W = matW M := ⟨_, rfl⟩
        have HWE := hid hWe
        rw [← hWe] at KR hw HR0 hE i1 i4
        have HE := hid hE
        have HRW := hid i1
        have hS : S.length ≤ 40 := by omega
        clear h hok hRS u1 u2 hl hWe hE i1 i5 e3
        go_enter Tryz.func41, Tryz.ntmps41
        go_wp2_with fail
        (with_reducible refine (KO.out).mono ?_)
        rintro e w2 ⟨rfl, hb⟩
        have HB2 := hid hb
        clear hb
        obtain ⟨g, o, b, d, rfl, hg, q0, -⟩ := (HV.out.old HB2.out).at (k := 0) (by omega)
        rw [Nat.add_zero, ← matW_at (by omega), ← HWE.out] at q0
        go_wp2_with fail
        (with_reducible refine (KR.out _ HB2.out).mono ?_)
        rintro e w3 ⟨a1, c1, pv, rfl, hmw, hp, hb⟩
        obtain ⟨a2, c2, rfl⟩ := natI_form hp
        have HR := hid hmw
        have HPV := hid hp
        have HB3 := hid (HB2.out.trans (hb.mono HB2.out.size))
        have HP := hid (Ints_nat hp).2
        clear hmw hp hb q0 i2
        go_wp2
        go_loopw [7, 34] (fun f i wr => ∃ j : Nat, j ≤ ps.length ∧ i = .int .i64 j ∧ f = .int .i64 (frP ps j : Int) ∧ w3 = wr) (fun _ i _ => ps.length - (intOf i).toNat)
        case atStart => exact ⟨0, Nat.zero_le _, rfl, rfl, rfl⟩
        case round =>
          obtain ⟨j, hj, rfl, rfl, rfl⟩ := hrel
          have b1 : (0 : Int) ≤ j := by omega
          by_cases hlt : j < ps.length
          · obtain ⟨g5, o5, rfl, hc⟩ := HP.out j hlt
            have b2 : (j : Int) < ps.length := by omega
            have hgd : ps.getD j 0 = ps[j] := by rw [List.getD_eq_getElem?_getD, List.getElem?_eq_getElem hlt, Option.getD_some]
            have hfr : frP ps (j + 1) = if ps[j] = frP ps j then frP ps j + 1 else frP ps j := by rw [frP, hgd]
            have HFR := hid hfr
            have hfb : frP ps j ≤ j := frP_bd ps j
            clear hfr hgd
            by_cases he : ps[j] = frP ps j
            · have HN := hid (show frP ps (j + 1) = frP ps j + 1 by rw [HFR.out, if_pos he])
              rw [he] at hc
              clear he
              generalize frP ps j = F at hc hfb HN
              go_wp2
              go_roundw
              case rel => exact ⟨j + 1, by omega, by go_num, by rw [HN.out]; go_num, by first | rfl | trivial⟩
              case measure => simp [intOf]; omega
            · have HN := hid (show frP ps (j + 1) = frP ps j by rw [HFR.out, if_neg he])
              have b3 : ((ps[j] : Int) == (frP ps j : Int)) = false := beq_eq_false_iff_ne.2 (by omega)
              have b4 : ¬ (ps[j] : Int) = (frP ps j : Int) := by omega
              clear he
              go_wp2
              go_roundw
              case rel => exact ⟨j + 1, by omega, by go_num, by rw [HN.out], by first | rfl | trivial⟩
              case measure => simp [intOf]; omega
          · obtain rfl : j = ps.length := by omega
            obtain ⟨F, hF⟩ : ∃ F, F = frP ps ps.length := ⟨_, rfl⟩
            have hFb : F ≤ ps.length := by rw [hF]; exact frP_bd ps _
            have HF := hid hF
            rw [← hF]
            clear hF
            by_cases hFW : F < W
            · have KU := hid (fun U => spec_VecUnit (W : Int) (F : Int) (by omega) (by omega) (by omega) (by omega) U)
              rw [unitK_kv hw hFW S] at KU
              have KV := hid (show RS = rv (kvJ W S F ps.length) by rw [HR0.out, kerV, ← HF.out, if_pos hFW, kvJ_stay hFb])
              have b5 : ¬ (W : Int) ≤ F := by omega
              have b6 : (F : Int) < W := by omega
              go_wp2_with fail
              (with_reducible refine (KU.out _).mono ?_)
              rintro e w4 ⟨av, nv, cv, rfl, hv, hb⟩
              obtain rfl : nv = W := by have := hv.num; rw [rv_len, kvJ_len] at this; exact this
              have HV0 := hid hv
              have HB0 := hid hb
              clear hv hb
              go_wp2
              go_loopw [56] (fun i wr => ∃ j : Nat, j ≤ ps.length ∧ i = .int .i64 j ∧ Hid (VK false wr (.slice av nv cv) (rv (kvJ nv S F j)) w3.heap.size wr.heap.size) ∧ Hid (Below w3.heap.size w3 wr)) (fun i _ => ps.length - (intOf i).toNat)
              case atStart => exact ⟨0, Nat.zero_le _, rfl, HV0, HB0⟩
              case round =>
                obtain ⟨j, hj, rfl, hV, HBB⟩ := hrel
                by_cases hlt : j < ps.length
                · have hjS : j < S.length := by omega
                  obtain ⟨g5, o5, rfl, hc⟩ := (Ints_nat (Ints_old HPV.out HBB.out)).2 j hlt
                  obtain ⟨hpW, hset⟩ := kv_next HE.out (by omega) (by rw [← HF.out]; exact hFW) hlt
                  rw [← HF.out] at hset
                  have HSET := hid hset
                  obtain ⟨p, hp⟩ : ∃ p, p = ps[j] := ⟨_, rfl⟩
                  rw [← hp] at hc hpW HSET
                  obtain ⟨g7, o7, b7, d7, rfl, hg7, q0, hvw⟩ := (HR.out.old HBB.out).at (k := j) (by rw [List.length_map]; exact hjS)
                  rw [List.getElem_map, rv_len, (HRW.out.at hjS).1] at q0 hvw
                  obtain ⟨g8, o8, s8, a8, n8, c8, e8, m8, d8, rfl, hg8, p0, p1, p2, R⟩ := hvw.elx (HRW.out.at hjS).2 (by rw [(HRW.out.at hjS).1]; exact hw) (k := F) (by rw [(HRW.out.at hjS).1]; exact hFW)
                  have KN := hid (sneg_o R)
                  rw [negO_fr] at KN
                  have hjv : p < (rv (kvJ nv S F j)).length := by rw [rv_len, kvJ_len]; omega
                  have hSMv := hid (Sm_rv (kvJ_af HRW.out F j) (by rw [kvJ_len]; exact hw))
                  obtain ⟨gv, -, -, -, -, -, -, eav, -⟩ := hV.out.at hSMv.out hjv
                  subst eav
                  have b9 : (0 : Int) ≤ j := by omega
                  have b10 : (j : Int) < ps.length := by omega
                  have b11 : (0 : Int) ≤ p := by omega
                  have b12 : (p : Int) < nv := by omega
                  have b13 : (j : Int) < S.length := by omega
                  have b14 : (0 : Int) ≤ F := by omega
                  clear hvw R hset hp
                  go_wp2_with fail
                  (with_reducible refine (KN.out).mono ?_)
                  rintro e w5 ⟨s5, a5, n5, c5, b5, m5, d5, rfl, hro, hb⟩
                  have VE := hid (hV.out.old hb)
                  have HRO := hid hro
                  have HBE := hid (HBB.out.trans (hb.mono HBB.out.size))
                  have hbz := hid hb.size
                  have f0 := VE.out.free (p * 3)
                  have f1 := VE.out.free (p * 3 + 1)
                  have f2 := VE.out.free (p * 3 + 2)
                  have hcs := VE.out.at hSMv.out hjv
                  obtain ⟨gw, x31, x32, x33, x34, x35, x36, eg, -, p0, p1, p2, -⟩ := hcs
                  have egv : gv = gw := by simpa using eg
                  subst egv
                  clear hro hb eg
                  have hz5 := hbz.out
                  have hz6 := HBB.out.size
                  have HPP := hid (VE.out.put hjv HRO.out (Nat.le_refl _) (by omega) hz5)
                  have hg := hid (show w3.heap.size ≤ gv by obtain ⟨E, hE, -⟩ := VE.out; exact (hE.lt gv rfl).1)
                  have HBN := hid (((HBE.out.setCell (p := ⟨gv, p * 3, none⟩) hg.out (.bool s5)).setCell (p := ⟨gv, p * 3 + 1, none⟩) hg.out (.slice a5 n5 c5)).setCell (p := ⟨gv, p * 3 + 2, none⟩) hg.out (.slice b5 m5 d5))
                  go_wp2
                  go_roundw
                  case rel => exact ⟨j + 1, by omega, by go_num, hid (by
                    have := HPP.out
                    rw [← rv_set, HSET.out] at this
                    simpa [size_set] using this), HBN⟩
                  case measure => simp [intOf]; omega
                · obtain rfl : j = ps.length := by omega
                  go_wp2
                  go_ret
                  exact ⟨_, _, _, rfl, by rw [KV.out]; exact hV.out.wide HB3.out.size (Nat.le_refl _), HB3.out.trans (HBB.out.mono HB3.out.size)⟩
            · have KV := hid (show RS = [] by rw [HR0.out, kerV, ← HF.out, if_neg hFW]; rfl)
              have b5 : (W : Int) ≤ F := by omega
              have R := hid (show VecR false RS w (.returned (.slice none 0 0)) w3 by rw [KV.out]; exact ⟨none, 0, 0, rfl, VK_nil _ _ _ _, HB3.out⟩)
              go_wp2
              go_ret
              exact R.out
theorem kerK_sz (M : List (List Fq)) : szK (kerK M) ≤ 2000 := by
  obtain ⟨W, S, ps, -, -, hR, -, -, -, hW, -, e⟩ := ker_data M
  rw [e]
  have hl := kerV_len W S ps
  have hA : AF (kerV W S ps) := by
    unfold kerV
    split
    · exact kvJ_af hR _ _
    · exact fun x hx => by cases hx
  exact Nat.le_trans (fv_sz hA (by omega)) (by decide)
end Go.Proofs.YtamhmpjadnfpdaaGreat
