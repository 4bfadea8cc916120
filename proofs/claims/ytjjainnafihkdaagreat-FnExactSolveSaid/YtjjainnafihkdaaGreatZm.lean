import Derived.Test.YtjjainnafihkdaaGreatYu
set_option maxRecDepth 512
set_option maxHeartbeats 200000
set_option linter.unusedVariables false
set_option linter.unusedSimpArgs false
namespace Go.Proofs.YtjjainnafihkdaaGreat
open Go.RowKit
open Go.Lib (hid)
def csum : List (Rat × List Rat) → Nat → Rat
 | [], _ => 0
 | p :: D, k => p.1 * el p.2 k + csum D k
theorem csum_perm {D D' : List (Rat × List Rat)} (h : D.Perm D') (k : Nat) : csum D k = csum D' k := by
 induction h with
 | nil => rfl
 | cons x _ ih => simp only [csum, ih]
 | swap x y l => simp only [csum]; grind
 | trans _ _ ih1 ih2 => rw [ih1, ih2]
theorem csum_append : ∀ (D E : List (Rat × List Rat)) (k : Nat), csum (D ++ E) k = csum D k + csum E k
 | [], E, k => by simp only [List.nil_append, csum]; grind
 | p :: D, E, k => by simp only [List.cons_append, csum, csum_append D E k]; grind
theorem csum_zeros : ∀ (R : List (List Rat)) (k : Nat), csum (R.map fun X => (0, X)) k = 0
 | [], _ => rfl
 | X :: R, k => by simp only [List.map_cons, csum, csum_zeros R k]; grind
theorem perm_lift {α β : Type} {f : α → β} {l l' : List β} (h : l.Perm l') : ∀ {D : List α}, D.map f = l → ∃ D' : List α, D'.Perm D ∧ D'.map f = l' := by
 induction h with
 | nil => intro D h; exact ⟨D, List.Perm.refl _, h⟩
 |cons x _ ih =>
  intro D h
  cases D with
  | nil => simp at h
  |cons p D =>
   simp only [List.map_cons, List.cons.injEq] at h
   obtain ⟨D', h1, h2⟩ := ih h.2
   exact ⟨p :: D', h1.cons p, by rw [List.map_cons, h.1, h2]⟩
 |swap x y l =>
  intro D h
  match D, h with
  |p :: q :: D, h =>
   simp only [List.map_cons, List.cons.injEq] at h
   exact ⟨q :: p :: D, List.Perm.swap p q D, by rw [List.map_cons, List.map_cons, h.1, h.2.1, h.2.2]⟩
 |trans _ _ ih1 ih2 =>
  intro D h
  obtain ⟨D1, h1, h2⟩ := ih1 h
  obtain ⟨D2, h3, h4⟩ := ih2 h2
  exact ⟨D2, h3.trans h1, h4⟩
def Dep (R : List (List Rat)) : Prop := ∃ D : List (Rat × List Rat), D.map Prod.snd = R ∧ (∃ p ∈ D, p.1 ≠ 0) ∧ ∀ k, csum D k = 0
theorem Dep.perm {R R' : List (List Rat)} (h : Dep R) (hp : R.Perm R') : Dep R' := by
 obtain ⟨D, h1, ⟨p, h2, h3⟩, h4⟩ := h
 obtain ⟨D', h5, h6⟩ := perm_lift hp h1
 exact ⟨D', h6, ⟨p, h5.mem_iff.2 h2, h3⟩, fun k => by rw [csum_perm h5, h4]⟩
theorem el_scl_any (c k : Nat) (X : List Rat) : el (scl c X) k = el X k / el X c := by
 by_cases hk : k < X.length
 ·rw [el_at (by rw [scl_len]; exact hk), el_at hk]; simp [scl]
 ·have h1 : el (scl c X) k = 0 := by simp [el, scl, hk]
  have h2 : el X k = 0 := by simp [el, hk]
  rw [h1, h2]; grind
theorem el_out {X : List Rat} {k : Nat} (h : X.length ≤ k) : el X k = 0 := by simp [el, h]
theorem el_clr_one {s X : List Rat} {c : Nat} (hl : s.length = X.length) (hs : el s c = 1) (k : Nat) : el (clr s c X) k = el X k - el s k * el X c := by
 by_cases hk : k < X.length
 ·unfold clr
  split
  ·rename_i h; rw [h]; grind
  ·rw [el_at (by simp; omega), el_at hk, el_at (X := s) (k := k) (by omega)]
   simp only [List.getElem_zipWith]
   rw [hs]; grind
 ·have hc := clr_len (c := c) hl
  have h2 : el s k = 0 := el_out (by omega)
  rw [el_out (X := clr s c X) (k := k) (by omega), el_out (X := X) (k := k) (by omega), h2]; grind
theorem dep_back {s : List Rat} {c : Nat} (hs : el s c = 1) : ∀ (L : List (List Rat)) (D : List (Rat × List Rat)), (∀ X ∈ L, s.length = X.length) → D.map Prod.snd = L.map (clr s c) →
  ∃ (D2 : List (Rat × List Rat)) (b : Rat), D2.map Prod.snd = L ∧ D2.map Prod.fst = D.map Prod.fst ∧ (∀ k, csum D k = csum D2 k - b * el s k) ∧ ((∀ p ∈ D, p.1 = 0) → b = 0)
 |[], D, _, h => by
  have : D = [] := by simpa using h
  subst this
  exact ⟨[], 0, rfl, rfl, fun k => by simp only [csum]; grind, fun _ => rfl⟩
 | X :: L, [], _, h => by simp at h
 |X :: L, p :: D, hl, h => by
  simp only [List.map_cons, List.cons.injEq] at h
  obtain ⟨D2, b, h1, h2, h3, h4⟩ := dep_back hs L D (fun Y hY => hl Y (List.mem_cons_of_mem _ hY)) h.2
  refine ⟨(p.1, X) :: D2, b + p.1 * el X c, by rw [List.map_cons, h1], by rw [List.map_cons, List.map_cons, h2], fun k => ?_, fun hz => ?_⟩
  ·simp only [csum]
   rw [h3, h.1, el_clr_one (hl X (List.mem_cons_self ..)) hs]; grind
  ·have e1 := hz p (List.mem_cons_self ..)
   have e2 := h4 fun q hq => hz q (List.mem_cons_of_mem _ hq)
   rw [e1, e2]; grind
theorem fin_perm {R : List (List Rat)} {d c : Nat} (hd : d < R.length) : (fin R d c).Perm (scl c R[d] :: (R.take d ++ R.drop (d + 1)).map (clr (scl c R[d]) c)) := by
 have hg : R.getD d [] = R[d] := by simp [hd]
 unfold fin
 rw [hg, List.map_append]
 exact List.perm_middle
theorem perm_at {R : List (List Rat)} {d : Nat} (hd : d < R.length) : (R[d] :: (R.take d ++ R.drop (d + 1))).Perm R := by
 have e : R = R.take d ++ R[d] :: R.drop (d + 1) := by rw [← List.drop_eq_getElem_cons hd, List.take_append_drop]
 conv => rhs; rw [e]
 exact List.perm_middle.symm
theorem Dep.fin {W : Nat} {R : List (List Rat)} (hR : Rows W R) {d c : Nat} (hd : d < R.length) (hc : c < W) (h0 : el R[d] c ≠ 0) (h : Dep (fin R d c)) : Dep R := by
 have hW : ∀ X ∈ R, X.length = W := hR.len
 have hdl := (hR.at hd).1
 obtain ⟨D, h1, h2, h4⟩ := h.perm (fin_perm hd)
 refine Dep.perm ?_ (perm_at hd)
 cases D with
 | nil => simp at h1
 |cons q D =>
  simp only [List.map_cons, List.cons.injEq] at h1
  obtain ⟨a, s⟩ := q
  obtain ⟨e1, e2⟩ := h1
  simp only at e1
  have hs1 : el s c = 1 := by rw [e1]; exact el_scl (by omega) h0
  rw [← e1] at e2
  obtain ⟨D2, b, g1, g2, g3, g4⟩ := dep_back hs1 (R.take d ++ R.drop (d + 1)) D (fun X hX => by
   rw [e1, scl_len, hdl]
   rcases List.mem_append.1 hX with hX | hX
   ·exact (hW X (List.mem_of_mem_take hX)).symm
   ·exact (hW X (List.mem_of_mem_drop hX)).symm) e2
  refine ⟨((a - b) / el R[d] c, R[d]) :: D2, by rw [List.map_cons, g1], ?_, fun k => ?_⟩
  ·by_cases hz : ∃ p ∈ D2, p.1 ≠ 0
   ·obtain ⟨p, hp, hne⟩ := hz
    exact ⟨p, List.mem_cons_of_mem _ hp, hne⟩
   ·have hz2 : ∀ p ∈ D, p.1 = 0 := fun p hp => by
     have hm : p.1 ∈ D2.map Prod.fst := by rw [g2]; exact List.mem_map_of_mem hp
     obtain ⟨p', hp', e⟩ := List.mem_map.1 hm
     rw [← e]
     exact Classical.byContradiction fun hn => hz ⟨p', hp', hn⟩
    have hb := g4 hz2
    obtain ⟨p, hp, hne⟩ := h2
    rcases List.mem_cons.1 hp with rfl | hp
    ·refine ⟨_, List.mem_cons_self .., ?_⟩
     simp only at hne ⊢
     rw [hb]
     intro h
     grind
    ·exact absurd (hz2 p hp) hne
  ·have := h4 k
   simp only [csum] at this ⊢
   rw [g3] at this
   have e3 : el s k = el R[d] k / el R[d] c := by rw [e1]; exact el_scl_any _ _ _
   rw [e3] at this
   grind
theorem redK_dep {W : Nat} {R : List (List Rat)} (h : Rows W R) : ∀ {c : Nat} (hc : c ≤ W) {S : List (List Rat)} {ps : List Nat}, redK R c = some (S, ps) → Dep S → Dep R
 |0, _, S, ps, e, hD => by
  simp only [redK, Option.some.injEq, Prod.mk.injEq] at e
  obtain ⟨rfl, rfl⟩ := e
  exact hD
 |c + 1, hc, S, ps, e, hD => by
  cases e0 : redK R c with
  | none => simp [redK, e0] at e
  |some q =>
   obtain ⟨T, qs⟩ := q
   obtain ⟨i1, i2, i3, i4, i5⟩ := redK_inv h e0
   cases ef : fnd T qs.length c with
   |none =>
    rw [redK_skip e0 ef] at e
    simp only [Option.some.injEq, Prod.mk.injEq] at e
    obtain ⟨rfl, rfl⟩ := e
    exact redK_dep h (by omega) e0 hD
   |some m =>
    obtain ⟨hm, hd, h0, hz⟩ := fnd_of ef
    by_cases ho : finOk (mvf T qs.length m) qs.length c
    ·rw [redK_fin e0 ef ho] at e
     simp only [Option.some.injEq, Prod.mk.injEq] at e
     obtain ⟨rfl, rfl⟩ := e
     have hl := mvf_len hd hm
     have hpd : (mvf T qs.length m)[qs.length]'(by omega) = T[m] := by
      rw [mvf_get hd hm (by omega), if_neg (by omega), if_pos rfl]
     exact redK_dep h (by omega) e0 ((Dep.fin (i1.mvf hd hm) (by omega) (by omega) (by rw [hpd]; exact h0) hD).perm (mvf_perm hd hm))
    ·rw [redK_bad e0 ef ho] at e; cases e
theorem Dep.zero {R : List (List Rat)} {i : Nat} (hi : i < R.length) (h : ∀ k, el R[i] k = 0) : Dep R := by
 have e : R = R.take i ++ R[i] :: R.drop (i + 1) := by rw [← List.drop_eq_getElem_cons hi, List.take_append_drop]
 refine ⟨(R.take i).map (fun X => (0, X)) ++ (1, R[i]) :: (R.drop (i + 1)).map (fun X => (0, X)), ?_, ⟨(1, R[i]), by simp, show (1 : Rat) ≠ 0 by decide⟩, fun k => ?_⟩
 ·rw [List.map_append, List.map_cons, List.map_map, List.map_map]
  conv => rhs; rw [e]
  congr 1
  ·exact List.map_id' _
  ·congr 1
   exact List.map_id' _
 ·rw [csum_append]
  simp only [csum]
  rw [csum_zeros, csum_zeros, h k]; grind
def joinR (R Q : List (List Rat)) : List (List Rat) := List.zipWith (· ++ ·) R Q
def idR (n : Nat) : List (List Rat) := (List.range n).map fun i => (List.range n).map fun j => if j = i then (1 : Rat) else 0
theorem idR_len (n : Nat) : (idR n).length = n := by simp [idR]
theorem joinR_len {R Q : List (List Rat)} (h : R.length = Q.length) : (joinR R Q).length = R.length := by simp [joinR, h]
theorem joinR_at {R Q : List (List Rat)} {i : Nat} (h : R.length = Q.length) (hi : i < R.length) : (joinR R Q)[i]'(by rw [joinR_len h]; exact hi) = R[i] ++ Q[i]'(by omega) := by simp [joinR]
theorem Rows.join {W V : Nat} {R Q : List (List Rat)} (h : Rows W R) (h' : Rows V Q) (hl : R.length = Q.length) : Rows (W + V) (joinR R Q) := by
 refine ⟨fun X hX => ?_, fun X hX => ?_⟩
 ·obtain ⟨i, hi, rfl⟩ := List.getElem_of_mem hX
  rw [joinR_len hl] at hi
  rw [joinR_at hl hi, List.length_append, (h.at hi).1, (h'.at (by omega)).1]
 ·obtain ⟨i, hi, rfl⟩ := List.getElem_of_mem hX
  rw [joinR_len hl] at hi
  rw [joinR_at hl hi]
  intro x hx
  rcases List.mem_append.1 hx with hx | hx
  ·exact (h.at hi).2 x hx
  ·exact (h'.at (by omega)).2 x hx
theorem csum_pick {k j : Nat} : ∀ (D : List (Rat × List Rat)) (o : Nat), (∀ i (hi : i < D.length), el D[i].2 k = if o + i = j then 1 else 0) → csum D k = if o ≤ j then (D.map Prod.fst).getD (j - o) 0 else 0
 | [], o, _ => by simp [csum]
 |p :: D, o, h => by
  have h0 := h 0 (by simp)
  simp only [ka5, Nat.add_zero] at h0
  have ih := csum_pick D (o + 1) fun i hi => by
   have := h (i + 1) (by simpa using hi)
   simp only [ka6] at this
   rw [this, show o + 1 + i = o + (i + 1) by omega]
  simp only [csum]
  rw [h0, ih]
  by_cases e : o = j
  ·subst e
   rw [if_pos rfl, if_neg (by omega), if_pos (Nat.le_refl _), Nat.sub_self]
   simp only [List.map_cons, List.getD_cons_zero]; grind
  ·rw [if_neg e]
   by_cases e2 : o ≤ j
   ·rw [if_pos e2, if_pos (by omega), show j - o = (j - (o + 1)) + 1 by omega]
    simp only [List.map_cons, List.getD_cons_succ]; grind
   ·rw [if_neg e2, if_neg (by omega)]; grind
theorem el_unit {n i j : Nat} (hj : j < n) : el ((List.range n).map fun j => if j = i then (1 : Rat) else 0) j = if i = j then 1 else 0 := by
 rw [el_at (by simp; exact hj)]
 simp only [List.getElem_map, List.getElem_range]
 by_cases e : j = i
 ·rw [if_pos e, if_pos e.symm]
 ·rw [if_neg e, if_neg (fun h => e h.symm)]
theorem el_append_r {X Y : List Rat} {n k : Nat} (h : X.length = n) : el (X ++ Y) (n + k) = el Y k := by
 subst h
 simp [el, List.getElem?_append_right]
theorem indep_join {n : Nat} {R : List (List Rat)} (hR : Rows n R) (hl : R.length = n) : ¬ Dep (joinR R (idR n)) := by
 rintro ⟨D, h1, ⟨p, hp, hne⟩, h4⟩
 have hlen : R.length = (idR n).length := by rw [idR_len, hl]
 have hD : D.length = n := by
  have := congrArg List.length h1
  rw [List.length_map, joinR_len hlen, hl] at this
  exact this
 obtain ⟨j, hj, rfl⟩ := List.getElem_of_mem hp
 have := csum_pick (k := n + j) (j := j) D 0 fun i hi => by
  have e : D[i].2 = (joinR R (idR n))[i]'(by rw [joinR_len hlen]; omega) := by
   have := congrArg (fun l => l[i]?) h1
   simp only [List.getElem?_map, List.getElem?_eq_getElem hi, Option.map_some] at this
   rw [List.getElem?_eq_getElem (by rw [joinR_len hlen]; omega)] at this
   exact Option.some.inj this
  rw [e, joinR_at hlen (by omega), el_append_r (hR.at (by omega)).1]
  simp only [idR, List.getElem_map, List.getElem_range, Nat.zero_add]
  exact el_unit (by omega)
 rw [h4, if_pos (Nat.zero_le _), Nat.sub_zero] at this
 apply hne
 rw [this]
 simp [hj]
theorem redK_ext {R : List (List Rat)} {c : Nat} {S : List (List Rat)} {ps : List Nat} (h : redK R c = some (S, ps)) : ∀ {k : Nat} {S' : List (List Rat)} {ps' : List Nat}, redK R (c + k) = some (S', ps') → ∃ qs, ps' = ps ++ qs ∧ ∀ q ∈ qs, c ≤ q
 |0, S', ps', e => by
  rw [Nat.add_zero, h] at e
  simp only [Option.some.injEq, Prod.mk.injEq] at e
  obtain ⟨rfl, rfl⟩ := e
  exact ⟨[], by simp, fun q hq => by cases hq⟩
 |k + 1, S', ps', e => by
  rw [show c + (k + 1) = c + k + 1 from rfl] at e
  cases e0 : redK R (c + k) with
  | none => simp [redK, e0] at e
  |some q =>
   obtain ⟨T, qs⟩ := q
   obtain ⟨us, e1, e2⟩ := redK_ext h e0
   cases ef : fnd T qs.length (c + k) with
   |none =>
    rw [redK_skip e0 ef] at e
    simp only [Option.some.injEq, Prod.mk.injEq] at e
    obtain ⟨rfl, rfl⟩ := e
    exact ⟨us, e1, e2⟩
   |some m =>
    by_cases ho : finOk (mvf T qs.length m) qs.length (c + k)
    ·rw [redK_fin e0 ef ho] at e
     simp only [Option.some.injEq, Prod.mk.injEq] at e
     obtain ⟨rfl, rfl⟩ := e
     exact ⟨us ++ [c + k], by rw [e1, List.append_assoc], fun q hq => by
      rcases List.mem_append.1 hq with hq | hq
      ·exact e2 q hq
      ·rw [List.mem_singleton.1 hq]; omega⟩
    ·rw [redK_bad e0 ef ho] at e; cases e
theorem redK_full {R : List (List Rat)} {c : Nat} {S : List (List Rat)} {ps : List Nat} (h : redK R c = some (S, ps)) (hf : ps.length = S.length) : ∀ k, redK R (c + k) = some (S, ps)
 | 0 => h
 |k + 1 => by
  have ih := redK_full h hf k
  exact redK_skip ih (fnd_none fun j hj hd => by omega)
theorem inv_full {n : Nat} {R : List (List Rat)} (hR : Rows n R) (hl : R.length = n) (hI : Rows n (idR n)) {S : List (List Rat)} {ps : List Nat} (e : redK (joinR R (idR n)) (n + n) = some (S, ps)) : ps.length = n ∧ S.length = n := by
 have hlen : R.length = (idR n).length := by rw [idR_len, hl]
 have hJ := hR.join hI hlen
 obtain ⟨i1, i2, i3, i4, i5⟩ := redK_inv hJ e
 rw [joinR_len hlen, hl] at i2
 refine ⟨?_, i2⟩
 apply Classical.byContradiction
 intro hn
 have hE := redK_ech hJ (Nat.le_refl _) e
 have hi : ps.length < S.length := by omega
 refine indep_join hR hl (redK_dep hJ (Nat.le_refl _) e (Dep.zero hi fun k => ?_))
 by_cases hk : k < n + n
 ·exact hE.todo _ hi (Nat.le_refl _) k hk
 ·exact el_out (by rw [(i1.at hi).1]; omega)
noncomputable def invK (R : List (List Rat)) (n : Nat) : Option (List (List Rat)) := match redK (joinR R (idR n)) n with
 | none => none
 | some (S, ps) => if ps.length = n then some (S.map fun X => X.drop n) else none
theorem inv_prog {n : Nat} {R : List (List Rat)} (hR : Rows n R) (hl : R.length = n) (h0 : 0 < n) (hI : Rows n (idR n)) :
  (redK (joinR R (idR n)) (n + n) = none ∧ invK R n = none) ∨ ∃ S ps, redK (joinR R (idR n)) (n + n) = some (S, ps) ∧ S.length = n ∧ Rows (n + n) S ∧ ∃ hp : ps.length = n, (n ≤ ps[n - 1] ∧ invK R n = none ∨ ps[n - 1] < n ∧ invK R n = some (S.map fun X => X.drop n)) := by
 have hlen : R.length = (idR n).length := by rw [idR_len, hl]
 have hJ := hR.join hI hlen
 cases e1 : redK (joinR R (idR n)) n with
 | none => exact .inl ⟨redK_none e1 n, by simp [invK, e1]⟩
 |some q =>
  obtain ⟨S, ps⟩ := q
  obtain ⟨i1, i2, i3, i4, i5⟩ := redK_inv hJ e1
  rw [joinR_len hlen, hl] at i2
  by_cases hp : ps.length = n
  ·have e2 := redK_full e1 (by omega) n
   exact .inr ⟨S, ps, e2, i2, i1, hp, .inr ⟨i5 _ (List.getElem_mem _), by simp [invK, e1, hp]⟩⟩
  ·have e3 : invK R n = none := by simp [invK, e1, hp]
   cases e2 : redK (joinR R (idR n)) (n + n) with
   | none => exact .inl ⟨rfl, e3⟩
   |some q =>
    obtain ⟨S', ps'⟩ := q
    obtain ⟨f1, f2⟩ := inv_full hR hl hI e2
    obtain ⟨qs, g1, g2⟩ := redK_ext e1 e2
    obtain ⟨j1, j2, -⟩ := redK_inv hJ e2
    refine .inr ⟨S', ps', rfl, f2, j1, f1, .inl ⟨?_, e3⟩⟩
    subst g1
    rw [List.getElem_append_right (by omega)]
    exact g2 _ (List.getElem_mem _)
end Go.Proofs.YtjjainnafihkdaaGreat
