import Derived.Test.YtjjainnafihkdaaGreatYk
import Derived.Test.YtjjainnafihkdaaGreatXh
import Derived.Test.YtjjainnafihkdaaGreatYh
set_option maxRecDepth 100000
set_option maxHeartbeats 12800000
set_option linter.unusedVariables false
set_option linter.unusedSimpArgs false
namespace Go.Proofs.YtjjainnafihkdaaGreat
open Go.RowKit
open Go.Lib (hid)
def un (M : List (List Fq)) : List (List Rat) := M.map fun K => K.map fun f => f.o.getD 0
theorem un_fr : ∀ {X : List Rat}, AF X → (rv X).map (fun f => f.o.getD 0) = X
 | [], _ => rfl
 |x :: X, h => by
  have ih := un_fr (X := X) fun y hy => h y (List.mem_cons_of_mem _ hy)
  unfold rv at ih ⊢
  rw [List.map_cons, List.map_cons, fr_o (h x (List.mem_cons_self ..)), Option.getD_some, ih]
theorem un_row {K : List Fq} (h : oks (vals K) = true) : K = rv (K.map fun f => f.o.getD 0) ∧ AF (K.map fun f => f.o.getD 0) := by
 obtain ⟨X, e, hX⟩ := rv_row h
 subst e
 rw [un_fr hX]
 exact ⟨rfl, hX⟩
theorem un_rv {M : List (List Fq)} (h : matOk M = true) : M = (un M).map rv ∧ Rows (matW M) (un M) := by
 have hr : ∀ K ∈ M, K.length = matW M ∧ oks (vals K) = true := fun K hK => by
  obtain ⟨k, hk, rfl⟩ := List.getElem_of_mem hK
  exact matOk_row h hk
 refine ⟨?_, fun X hX => ?_, fun X hX => ?_⟩
 ·unfold un
  rw [List.map_map]
  conv => lhs; rw [← List.map_id M]
  exact List.map_congr_left fun K hK => (un_row (hr K hK).2).1
 ·obtain ⟨K, hK, rfl⟩ := List.mem_map.1 hX
  rw [List.length_map]; exact (hr K hK).1
 ·obtain ⟨K, hK, rfl⟩ := List.mem_map.1 hX
  exact (un_row (hr K hK).2).2
theorem un_len (M : List (List Fq)) : (un M).length = M.length := by simp [un]
theorem fv_sz {X : List Rat} (h : AF X) (hl : X.length ≤ 40) : szK (rv X) ≤ 1960 := by
 have := szK_each (K := rv X) fun f hf => by
  obtain ⟨x, hx, rfl⟩ := List.mem_map.1 hf
  exact fqo_n (o := some x) fun y e => by cases e; exact h x hx
 rw [rv_len] at this
 omega
end Go.Proofs.YtjjainnafihkdaaGreat
namespace Go.Proofs.YtjjainnafihkdaaGreat
open Go.RowKit
open Go.Lib (hid)
theorem reduceRows_bad {a : Option Addr} {n c : Nat} {M : List (List Fq)} {lo hi : Nat} (hM : Sm2 M) (hok : matOk M = false) (w : World) (h : MW w a n M lo hi) :
  Calls Tryz.prog 110 #[.slice a n c] w (fun e w' => e = .returned (.tuple #[.slice none 0 0, .slice none 0 0]) ∧ Below w.heap.size w w') := by
 have KO := hid (impl_MatOk (c := c) hM w h)
 rw [hok] at KO
 clear h hok
 go_enter Tryz.func110, Tryz.ntmps110
 go_wp2
 go_step3
 go_wp2_with fail
 (with_reducible refine (KO.out).mono ?_)
 rintro e w1 ⟨rfl, hb⟩
 have HB := hid hb
 clear hb
 go_wp2
 (try simp only [Exit.inBlock, Exit.then])
 (try rw [Exit.noGoto_ret])
 refine bodyPost_ret (results_tmp2 rfl _ _ _) rfl ?_
 exact ⟨rfl, HB.out⟩
end Go.Proofs.YtjjainnafihkdaaGreat
namespace Go.Proofs.YtjjainnafihkdaaGreat
open Go.RowKit
open Go.Lib (hid)
end Go.Proofs.YtjjainnafihkdaaGreat

namespace Go.Proofs.YtjjainnafihkdaaGreat
open Go.RowKit
open Go.Lib (hid)
theorem fnd_no {R : List (List Rat)} {d c : Nat} (h : fnd R d c = none) : ∀ j (h : j < R.length), d ≤ j → el R[j] c = 0 := by
 intro j hj hd
 unfold fnd at h
 rw [List.find?_eq_none] at h
 have := h j (by simpa using hj)
 simp [hj, hd] at this
 exact this
theorem el_clr {P : List Rat} {c : Nat} {X : List Rat} (hl : P.length = X.length) {k : Nat} (hp : el P k = 0) : el (clr P c X) k = el X k := by
 by_cases hk : k < X.length
 ·unfold clr
  split
  ·rfl
  ·rw [el_at (by simp; omega), el_at hk]
   rw [el_at (by omega)] at hp
   simp only [List.getElem_zipWith]
   rw [hp]; grind
 ·have hc := clr_len (c := c) hl
  simp [el, hk, hc]
theorem el_clr_zero {P : List Rat} {c : Nat} {X : List Rat} (hl : P.length = X.length) (hc : c < X.length) (hp : el P c ≠ 0) : el (clr P c X) c = 0 := by
 unfold clr
 split
 ·assumption
 ·rw [el_at (by simp; omega)]
  simp only [List.getElem_zipWith]
  rw [el_at hc] at *
  rw [el_at (by omega)] at *
  grind
theorem el_scl_k {c k : Nat} {X : List Rat} (h : el X k = 0) : el (scl c X) k = 0 := by
 by_cases hk : k < X.length
 ·rw [el_at (by rw [scl_len]; exact hk)]
  rw [el_at hk] at h
  simp only [scl, List.getElem_map, h]
  grind
 ·simp [el, scl, hk]
structure Ech (S : List (List Rat)) (ps : List Nat) (c : Nat) : Prop where
 done : ∀ i (hi : i < S.length) (hp : i < ps.length), ∀ k, k < ps[i] → el S[i] k = 0
 todo : ∀ i (hi : i < S.length), ps.length ≤ i → ∀ k, k < c → el S[i] k = 0
 inc : ps.Pairwise (· < ·)
 lt : ∀ p ∈ ps, p < c
 one : ∀ i (hi : i < S.length) (hp : i < ps.length), el S[i] ps[i] = 1
 oth : ∀ i (hi : i < S.length) j (hp : j < ps.length), i ≠ j → el S[i] ps[j] = 0
theorem redK_ech {W : Nat} {R : List (List Rat)} (h : Rows W R) : ∀ {c : Nat} (hc : c ≤ W) {S : List (List Rat)} {ps : List Nat}, redK R c = some (S, ps) → Ech S ps c
 |0, _, S, ps, e => by
  simp only [redK, Option.some.injEq, Prod.mk.injEq] at e
  obtain ⟨rfl, rfl⟩ := e
  exact ⟨fun i hi hp => by simp at hp, fun i hi _ k hk => by omega, List.Pairwise.nil, fun p hp => by simp at hp, fun i hi hp => by simp at hp, fun i hi j hp => by simp at hp⟩
 |c + 1, hc, S, ps, e => by
  cases e0 : redK R c with
  | none => simp [redK, e0] at e
  |some q =>
   obtain ⟨T, qs⟩ := q
   obtain ⟨i1, i2, i3, i4, i5⟩ := redK_inv h e0
   have ih := redK_ech h (by omega) e0
   cases ef : fnd T qs.length c with
   |none =>
    rw [redK_skip e0 ef] at e
    simp only [Option.some.injEq, Prod.mk.injEq] at e
    obtain ⟨rfl, rfl⟩ := e
    refine ⟨ih.done, fun i hi hp k hk => ?_, ih.inc, fun p hp => by have := ih.lt p hp; omega, ih.one, ih.oth⟩
    rcases Nat.lt_or_eq_of_le (Nat.le_of_lt_succ hk) with hk | rfl
    ·exact ih.todo i hi hp k hk
    ·exact fnd_no ef i hi hp
   |some m =>
    obtain ⟨hm, hd, h0, hz⟩ := fnd_of ef
    by_cases ho : finOk (mvf T qs.length m) qs.length c
    ·rw [redK_fin e0 ef ho] at e
     simp only [Option.some.injEq, Prod.mk.injEq] at e
     obtain ⟨rfl, rfl⟩ := e
     have hl := mvf_len hd hm
     have hq : qs.length < (mvf T qs.length m).length := by omega
     have hR := i1.mvf hd hm
     have hdone : ∀ i (hi : i < (mvf T qs.length m).length) (hp : i < qs.length), (mvf T qs.length m)[i] = T[i]'(by omega) := fun i hi hp => by
      rw [mvf_get hd hm (by omega), if_pos hp]
     have htodo : ∀ i (hi : i < (mvf T qs.length m).length), qs.length ≤ i → ∃ j, ∃ hj : j < T.length, qs.length ≤ j ∧ (mvf T qs.length m)[i] = T[j] := fun i hi hp => by
      rw [mvf_get hd hm (by omega), if_neg (by omega)]
      by_cases e2 : i = qs.length
      ·rw [if_pos e2]; exact ⟨m, hm, hd, rfl⟩
      ·rw [if_neg e2]
       by_cases e3 : i ≤ m
       ·rw [dif_pos e3]; exact ⟨i - 1, by omega, by omega, rfl⟩
       ·rw [dif_neg e3]; exact ⟨i, by omega, hp, rfl⟩
     have hpd : (mvf T qs.length m)[qs.length] = T[m] := by
      rw [mvf_get hd hm (by omega), if_neg (by omega), if_pos rfl]
     have hlen : ∀ k (hk : k < (mvf T qs.length m).length), (mvf T qs.length m)[k].length = W := fun k hk => (hR.at hk).1
     have hP0 : ∀ k, k < c → el (scl c (mvf T qs.length m)[qs.length]) k = 0 := fun k hk => el_scl_k (by rw [hpd]; exact ih.todo m hm hd k hk)
     have hPl : ∀ i (hi : i < (mvf T qs.length m).length), (scl c (mvf T qs.length m)[qs.length]).length = (mvf T qs.length m)[i].length := fun i hi => by rw [scl_len, hlen _ hq, hlen _ hi]
     have hP1 : el (scl c (mvf T qs.length m)[qs.length]) c = 1 := el_scl (by rw [hlen _ hq]; omega) (by rw [hpd]; exact h0)
     have hfl := fin_len (c := c) hq
     have hone : (1 : Rat) ≠ 0 := by decide
     have hold : ∀ i (hi : i < (mvf T qs.length m).length), i ≠ qs.length → ∀ k, k < c → el ((fin (mvf T qs.length m) qs.length c)[i]'(by omega)) k = el (mvf T qs.length m)[i] k := fun i hi hne k hk => by
      rw [fin_at hq hi, if_neg hne, el_clr (hPl i hi) (hP0 k hk)]
     refine ⟨fun i hi hp k hk => ?_, fun i hi hp k hk => ?_, ?_, fun p hp => ?_, fun i hi hp => ?_, fun i hi j hp hij => ?_⟩
     ·have hiV : i < (mvf T qs.length m).length := by omega
      rw [List.length_append, List.length_singleton] at hp
      rcases Nat.lt_or_eq_of_le (Nat.le_of_lt_succ hp) with hp' | rfl
      ·rw [List.getElem_append_left hp'] at hk
       have hkc := i5 _ (List.getElem_mem hp')
       rw [hold i hiV (by omega) k (by omega), hdone i hiV hp']
       exact ih.done i (by omega) hp' k hk
      ·rw [List.getElem_append_right (Nat.le_refl _)] at hk
       simp only [Nat.sub_self, ka5] at hk
       rw [fin_at hq hiV, if_pos rfl]
       exact hP0 k hk
     ·have hiV : i < (mvf T qs.length m).length := by omega
      rw [List.length_append, List.length_singleton] at hp
      rcases Nat.lt_or_eq_of_le (Nat.le_of_lt_succ hk) with hk | rfl
      ·rw [hold i hiV (by omega) k hk]
       obtain ⟨j, hj, hqj, e⟩ := htodo i hiV (by omega)
       rw [e]; exact ih.todo j hj hqj k hk
      ·rw [fin_at hq hiV, if_neg (by omega)]
       exact el_clr_zero (hPl i hiV) (by rw [hlen _ hiV]; omega) (by rw [hP1]; exact hone)
     ·exact List.pairwise_append.2 ⟨ih.inc, List.pairwise_singleton _ _, fun x hx y hy => by rw [List.mem_singleton.1 hy]; exact i5 x hx⟩
     ·rcases List.mem_append.1 hp with hp | hp
      ·have := i5 p hp; omega
      ·rw [List.mem_singleton.1 hp]; omega
     ·have hiV : i < (mvf T qs.length m).length := by omega
      rw [List.length_append, List.length_singleton] at hp
      rcases Nat.lt_or_eq_of_le (Nat.le_of_lt_succ hp) with hp' | rfl
      ·have e1 : (qs ++ [c])[i]'(by simp; omega) = qs[i] := List.getElem_append_left hp'
       rw [e1, hold i hiV (by omega) _ (i5 _ (List.getElem_mem hp')), hdone i hiV hp']
       exact ih.one i (by omega) hp'
      ·have e1 : (qs ++ [c])[qs.length]'(by simp) = c := by simp
       rw [e1, fin_at hq hiV, if_pos rfl]
       exact hP1
     ·have hiV : i < (mvf T qs.length m).length := by omega
      rw [List.length_append, List.length_singleton] at hp
      rcases Nat.lt_or_eq_of_le (Nat.le_of_lt_succ hp) with hp' | rfl
      ·have e1 : (qs ++ [c])[j]'(by simp; omega) = qs[j] := List.getElem_append_left hp'
       have hpc := i5 _ (List.getElem_mem hp')
       rw [e1]
       by_cases hiq : i = qs.length
       ·subst hiq
        rw [fin_at hq hiV, if_pos rfl]
        exact hP0 _ hpc
       ·rw [hold i hiV hiq _ hpc]
        by_cases hil : i < qs.length
        ·rw [hdone i hiV hil]
         exact ih.oth i (by omega) j hp' hij
        ·obtain ⟨j', hj', hqj, e⟩ := htodo i hiV (by omega)
         rw [e]; exact ih.todo j' hj' hqj _ hpc
      ·have e1 : (qs ++ [c])[qs.length]'(by simp) = c := by simp
       rw [e1, fin_at hq hiV, if_neg hij]
       exact el_clr_zero (hPl i hiV) (by rw [hlen _ hiV]; omega) (by rw [hP1]; exact hone)
    ·rw [redK_bad e0 ef ho] at e; cases e
def kvJ (W : Nat) (S : List (List Rat)) (f j : Nat) : List Rat := (List.range W).map fun k => if k < f ∧ k < j then -(el (S.getD k []) f) else if k = f then 1 else 0
theorem kvJ_len (W : Nat) (S : List (List Rat)) (f j : Nat) : (kvJ W S f j).length = W := by simp [kvJ]
theorem kvJ_at {W : Nat} {S : List (List Rat)} {f j k : Nat} (h : k < (kvJ W S f j).length) : (kvJ W S f j)[k] = if k < f ∧ k < j then -(el (S.getD k []) f) else if k = f then 1 else 0 := by simp [kvJ]
theorem unitK_kv {W f : Nat} (hW : W ≤ 40) (h : f < W) (S : List (List Rat)) : unitK W f = rv (kvJ W S f 0) := by
 have h1 : zeroK (W : Int) = List.replicate W (fqo (some ((0 : Int) : Rat))) := by rw [zeroK_yes (by omega)]
 unfold unitK
 rw [if_pos (by rw [h1, List.length_replicate]; omega), h1, Int.toNat_natCast]
 refine List.ext_getElem (by simp [rv_len, kvJ_len]) fun k h2 h3 => ?_
 rw [rv_len] at h3
 rw [List.getElem_set, rv_at h3, el_at h3, kvJ_at, if_neg (show ¬(k < f ∧ k < 0) by omega)]
 by_cases e : f = k
 ·rw [if_pos e, if_pos e.symm]; rfl
 ·rw [if_neg e, if_neg (fun h => e h.symm), List.getElem_replicate]; rfl
end Go.Proofs.YtjjainnafihkdaaGreat

namespace Go.Proofs.YtjjainnafihkdaaGreat
open Go.RowKit
open Go.Lib (hid)
def NdE (e : El) : Prop := ∀ k, e.v.ownBlock = some k → e.u.ownBlock ≠ some k
theorem seg_len {As : List Arr} {P : List (Nat × Nat)} {S : List (List Rat)} (e2 : S.map rv = P.map (sgk As)) {i : Nat} (hi : i < S.length) (hiP : i < P.length) : keys ((ag As P[i].1).seg P[i].2) = rv S[i] := by
 have := congrArg (fun l => l[i]?) e2
 have h : rv S[i] = sgk As P[i] := by simpa [hi, hiP] using this
 rw [h]; rfl
theorem Arr.seg_cells {w : World} {A : Arr} (hv : A.vo w) {i k : Nat} (hi : i < A.Es.length) (hk' : k < (A.seg i).length) :
  w.cell? ⟨A.g, A.off i + k * 3, none⟩ = some (.bool (A.seg i)[k].q.s) ∧ w.cell? ⟨A.g, A.off i + k * 3 + 1, none⟩ = some (A.seg i)[k].v ∧ w.cell? ⟨A.g, A.off i + k * 3 + 2, none⟩ = some (A.seg i)[k].u := by
 have hsp := flat_split hi
 have hseg := seg_at hi
 unfold Arr.vo at hv
 have hL : (A.Es.take i).flatten.length + k < (A.Es.flatten ++ A.Z).length := by
  rw [hsp]
  simp only [List.length_append]
  rw [hseg] at hk'
  omega
 have hc := hv.cell hL
 have hg : (A.Es.flatten ++ A.Z)[(A.Es.take i).flatten.length + k]'hL = (A.seg i)[k] := by
  have : ∀ (l : List El) (h : (A.Es.take i).flatten.length + k < l.length), l = (A.Es.take i).flatten ++ A.seg i ++ (A.Es.drop (i + 1)).flatten ++ A.Z → l[(A.Es.take i).flatten.length + k] = (A.seg i)[k] := fun l h e => by
   subst e
   rw [List.getElem_append_left (by simp; omega), List.getElem_append_left (by simp; omega), List.getElem_append_right (by omega)]
   simp
  refine this _ hL ?_
  rw [hseg]
  conv => lhs; rw [hsp]
 rw [hg] at hc
 rw [show A.off i + k * 3 = ((A.Es.take i).flatten.length + k) * 3 by unfold Arr.off; omega]
 exact hc
theorem IX.els {b : Option Nat} {G n cap lo : Nat} {w : World} {H : List Value} {S : List (List Rat)} {hi : Nat} (h : IX b G n cap lo w H S hi) :
  ∃ Es : List (List El), Es.length = S.length ∧
   (∀ i (h1 : i < S.length) (h2 : i < Es.length), keys Es[i] = rv S[i] ∧ ∃ g o c, H[i]? = some (.slice (some ⟨g, o, none⟩) S[i].length c) ∧ S[i].length ≤ c ∧ g < w.heap.size ∧ ∀ k (hk : k < Es[i].length), w.cell? ⟨g, o + k * 3, none⟩ = some (.bool Es[i][k].q.s) ∧ w.cell? ⟨g, o + k * 3 + 1, none⟩ = some Es[i][k].v ∧ w.cell? ⟨g, o + k * 3 + 2, none⟩ = some Es[i][k].u) ∧
   (∀ e ∈ Es.flatten, ROw w e.v e.u e.q.A e.q.D lo hi ∧ NdE e) ∧ Es.flatten.Pairwise Apt := by
 obtain ⟨As, P, hM, e1, e2, -, -⟩ := h
 have hl : S.length = P.length := by
  have := congrArg List.length e2
  rwa [List.length_map, List.length_map] at this
 have inb := hM.inb
 have sub : ∀ r ∈ P, ∀ e ∈ (ag As r.1).seg r.2, e ∈ (ag As r.1).Es.flatten ++ (ag As r.1).Z := fun r hr e he => by
  have h2 := (inb r hr).2
  rw [seg_at h2] at he
  exact List.mem_append_left _ (List.mem_flatten.2 ⟨_, List.getElem_mem h2, he⟩)
 refine ⟨P.map fun r => (ag As r.1).seg r.2, by rw [List.length_map, hl], fun i h1 h2 => ?_, fun e he => ?_, ?_⟩
 ·rw [List.length_map] at h2
  have hr := inb _ (List.getElem_mem h2)
  have hv := (hM.ok _ hr.1).1
  have hk := seg_len e2 h1 h2
  have hsl : S[i].length = ((ag As P[i].1).seg P[i].2).length := by rw [← keys_len, hk, rv_len]
  simp only [List.getElem_map]
  refine ⟨hk, (ag As P[i].1).g, (ag As P[i].1).off P[i].2, (ag As P[i].1).cc, ?_, ?_, ?_, fun k hk' => ?_⟩
  ·rw [e1, List.getElem?_map, List.getElem?_eq_getElem h2, Option.map_some, hsl]; rfl
  ·rw [hsl, seg_at hr.2]
   exact hM.cp _ hr.1 _ (List.getElem_mem hr.2)
  ·exact (hv.lt _ rfl).2
  ·exact Arr.seg_cells hv hr.2 hk'
 ·obtain ⟨l, hl', he⟩ := List.mem_flatten.1 he
  obtain ⟨r, hr, rfl⟩ := List.mem_map.1 hl'
  obtain ⟨o1, o2, o3⟩ := hM.ok _ (inb r hr).1
  have hm := sub r hr e he
  have ro := o1.el e hm
  exact ⟨⟨ro.a.wide o2 (.inr o3), ro.d.wide o2 (.inr o3)⟩, o1.nd rfl e hm⟩
 ·rw [List.pairwise_flatten]
  have inner : ∀ a, a < As.length → (ag As a).Es.flatten.Pairwise Apt := fun a ha => (List.pairwise_append.1 ((hM.ok a ha).1.ap rfl)).1
  refine ⟨fun l hl' => ?_, ?_⟩
  ·obtain ⟨r, hr, rfl⟩ := List.mem_map.1 hl'
   have := (List.pairwise_flatten.1 (inner _ (inb r hr).1)).1
   rw [seg_at (inb r hr).2]
   exact this _ (List.getElem_mem _)
  ·rw [List.pairwise_map]
   have hnd : P.Pairwise (· ≠ ·) := hM.nd
   refine hnd.imp_of_mem fun {r r'} hr hr' hne x hx y hy => ?_
   have b1 := inb r hr
   have b2 := inb r' hr'
   by_cases ea : r.1 = r'.1
   ·have ei : r.2 ≠ r'.2 := fun e => hne (Prod.ext ea e)
    have hp := List.pairwise_iff_getElem.1 (List.pairwise_flatten.1 (inner _ b1.1)).2
    rw [← ea] at hy b2
    rw [seg_at b1.2] at hx
    rw [seg_at b2.2] at hy
    rcases Nat.lt_or_gt_of_ne ei with hlt | hgt
    ·exact hp _ _ b1.2 b2.2 hlt x hx y hy
    ·exact (hp _ _ b2.2 b1.2 hgt y hy x hx).symm
   ·have ox := (hM.ok _ b1.1).1
    have oy := (hM.ok _ b2.1).1
    have mx := sub r hr x hx
    have my := sub r' hr' y hy
    rcases Nat.lt_or_gt_of_ne ea with hlt | hgt
    ·exact ox.apt (oy.el y my) (hM.ap _ _ hlt b2.1) x mx
    ·exact (oy.apt (ox.el x mx) (hM.ap _ _ hgt b1.1) y my).symm
end Go.Proofs.YtjjainnafihkdaaGreat
