import Derived.Test.YthkehmnodcmlcaaGreatTctP
import Derived.Deep.RegionLaw
import Derived.Deep.RegionHeld3
import Derived.Deep.DeepCutAuto
set_option maxRecDepth 512
set_option maxHeartbeats 200000
set_option linter.unusedVariables false
set_option linter.unusedSimpArgs false
namespace Go.Proofs.YthkehmnodcmlcaaGreat
open Go.RowKit
open Go.Lib (hid)
theorem mul_t {w : World} {s t : Bool} {v u v' u' : Value} {o o' : Option Rat} (h : RA w s v u o) (h' : RA w t v' u' o') : Calls Tryz.prog 85 #[.agg #[.bool s, v, u], .agg #[.bool t, v', u']] w (RatO true (bq mulF o o') w) := by
 obtain ⟨A, D, r, rfl⟩ := h
 obtain ⟨A', D', r', rfl⟩ := h'
 exact (impl_RatMul s t v u v' u' A D A' D' w r r').mono fun e w' hh => RatO_of hh (fitO_bq fitO_mul _ _)
theorem bq_ss (f : Rat → Rat → Option Rat) (x y : Rat) : bq f (some x) (some y) = f x y := by simp only [bq]
theorem smul_t {w : World} {s t : Bool} {v u v' u' : Value} {x y : Rat} (h : RA w s v u (some x)) (h' : RA w t v' u' (some y)) : Calls Tryz.prog 132 #[.agg #[.bool s, v, u], .agg #[.bool t, v', u']] w (RatO false (bq mulF (some x) (some y)) w) := by
 rw [bq_ss]
 exact (l04Mul_own s t v u v' u' x y w h.x h'.x).mono fun e w' hh => RatO_ofS hh (fitO_mul x y)
theorem layG_take (f : Option Rat → Option Rat → Fq) {K : List Tq} {k : Nat} (h : k < K.length) (G : Int → Option Fq) : layG f (K.take (k + 1)) G = updG (layG f (K.take k) G) K[k].c (f (ofG (layG f (K.take k) G) K[k].c) K[k].o) := by
 rw [List.take_succ_eq_append_getElem h, layG_append]; rfl
def G0 : Int → Option Fq := fun _ => none
theorem cols_lay {f : Option Rat → Option Rat → Fq} {K : List Tq} {n : Int} (h : tok K n = true) : ColsOf (layG f K G0) (cT K) := by
 obtain ⟨a, b, -⟩ := tok_asc h
 obtain ⟨n0, n1, -⟩ := tok_parts h
 refine ⟨a, fun x => ?_⟩
 rw [layG_at f a]
 constructor
 ·intro hx
  have := b x hx
  refine ⟨⟨by omega, by omega⟩, ?_⟩
  obtain ⟨t, e⟩ := Option.isSome_iff_exists.1 (findC_isSome.2 hx)
  rw [e]; rfl
 ·rintro ⟨-, hs⟩
  cases e : findC K x with
  | none => rw [e] at hs; cases hs
  | some t => exact findC_isSome.1 (by rw [e]; rfl)
theorem lay_at {f : Option Rat → Option Rat → Fq} {K : List Tq} (h : Asc (cT K)) {t : Tq} (ht : t ∈ K) : layG f K G0 t.c = some (f (ofG G0 t.c) t.o) := by
 rw [layG_at f h, find_at h ht]
def outT (P : Tq → Option Rat) (K : List Tq) : List Tq := K.map fun t => tqo t.c (P t)
theorem outT_len (P : Tq → Option Rat) (K : List Tq) : (outT P K).length = K.length := by simp [outT]
theorem outT_take {P : Tq → Option Rat} {K : List Tq} {k : Nat} (h : k < K.length) : outT P (K.take (k + 1)) = outT P (K.take k) ++ [tqo K[k].c (P K[k])] := by
 rw [List.take_succ_eq_append_getElem h]
 unfold outT
 rw [List.map_append]; rfl
theorem outT_sz {P : Tq → Option Rat} (hP : ∀ t, fitO (P t)) : ∀ (K : List Tq), szT (outT P K) ≤ K.length * 50
 | [] => by simp [outT, szT]
 |t :: K => by
  have h1 := tqo_n t.c (hP t)
  have h2 := outT_sz hP K
  unfold outT at h2 ⊢
  simp only [List.map_cons, szT, List.length_cons]
  omega
theorem outT_tok {P : Tq → Option Rat} (hP : ∀ t, fitO (P t)) {n : Int} : ∀ {K : List Tq} {b : Int}, tokF n b K = true → tokF n b (outT P K) = K.all fun t => nz (P t)
 | [], b, _ => rfl
 |t :: K, b, h => by
  simp only [tokF, Bool.and_eq_true, decide_eq_true_eq] at h
  have i := outT_tok hP h.2
  show ((decide (b < (tqo t.c (P t)).c) && decide ((tqo t.c (P t)).c < n) && nz (tqo t.c (P t)).o) && tokF n (tqo t.c (P t)).c (outT P K)) = _
  rw [tqo_c, tqo_o t.c (hP t), i, List.all_cons, decide_eq_true h.1.1.1, decide_eq_true h.1.1.2]
  simp
theorem flat_out {P : Tq → Option Rat} (hP : ∀ t, fitO (P t)) {G : Int → Option Fq} : ∀ {K : List Tq}, (∀ t ∈ K, G t.c = some (fqo (P t))) → (cT K).flatMap (pickG G) = K.flatMap (fun t => if nz (P t) = true then [tqo t.c (P t)] else [])
 | [], _ => rfl
 |t :: K, h => by
  have i := flat_out hP (K := K) fun u hu => h u (List.mem_cons_of_mem _ hu)
  have e : pickG G t.c = if nz (P t) = true then [tqo t.c (P t)] else [] := by
   unfold pickG
   rw [h t (List.mem_cons_self ..)]
   show (if nz (fqo (P t)).o = true then _ else _) = _
   rw [fqo_o (hP t)]
   by_cases hz : nz (P t) = true
   ·rw [if_pos hz, if_pos hz]; simp only [tqo, fqo]
   ·rw [if_neg hz, if_neg hz]
  show (t.c :: cT K).flatMap (pickG G) = _
  rw [List.flatMap_cons, List.flatMap_cons, i, e]
theorem all_out {P : Tq → Option Rat} (hP : ∀ t, fitO (P t)) {G : Int → Option Fq} : ∀ {K : List Tq}, (∀ t ∈ K, G t.c = some (fqo (P t))) → allG (cT K) G = K.all fun t => (P t).isSome
 | [], _ => rfl
 |t :: K, h => by
  have i := all_out hP (K := K) fun u hu => h u (List.mem_cons_of_mem _ hu)
  have e : okG G t.c = (P t).isSome := by
   unfold okG
   rw [h t (List.mem_cons_self ..)]
   show (fqo (P t)).o.isSome = _
   rw [fqo_o (hP t)]
  show (okG G t.c && allG (cT K) G) = _
  rw [i, e, List.all_cons]
theorem flat_no {P : Tq → Option Rat} : ∀ {K : List Tq}, (∀ t ∈ K, nz (P t) = false) → K.flatMap (fun t => if nz (P t) = true then [tqo t.c (P t)] else []) = []
 | [], _ => rfl
 |t :: K, h => by
  rw [List.flatMap_cons, flat_no (K := K) fun u hu => h u (List.mem_cons_of_mem _ hu), h t (List.mem_cons_self ..)]; rfl
theorem flat_yes {P : Tq → Option Rat} : ∀ {K : List Tq}, (∀ t ∈ K, nz (P t) = true) → K.flatMap (fun t => if nz (P t) = true then [tqo t.c (P t)] else []) = outT P K
 | [], _ => rfl
 |t :: K, h => by
  rw [List.flatMap_cons, flat_yes (K := K) fun u hu => h u (List.mem_cons_of_mem _ hu), if_pos (h t (List.mem_cons_self ..))]; rfl
def scP (r : Option Rat) (t : Tq) : Option Rat := bq mulF t.o r
theorem scP_fit (r : Option Rat) (t : Tq) : fitO (scP r t) := fitO_bq fitO_mul _ _
def scF (r : Option Rat) : Option Rat → Option Rat → Fq := fun _ o => fqo (bq mulF o r)
theorem scF_at (r o o' : Option Rat) : scF r o o' = fqo (bq mulF o' r) := rfl
def scaleT (K : List Tq) (r : Option Rat) : List Tq := if tok K 40 = true then (if nz r = true then (if tok (outT (scP r) K) 40 = true then outT (scP r) K else []) else []) else []
theorem scaleT_no {K : List Tq} {r : Option Rat} (h : tok K 40 = false) : scaleT K r = [] := by unfold scaleT; rw [h]; rfl
theorem scaleT_nz {K : List Tq} {r : Option Rat} (h : nz r = false) : scaleT K r = [] := by
 unfold scaleT
 split
 ·rw [h]; rfl
 ·rfl
theorem scaleT_yes {K : List Tq} {r : Option Rat} (h : tok K 40 = true) (h' : nz r = true) : scaleT K r = if tok (outT (scP r) K) 40 = true then outT (scP r) K else [] := by unfold scaleT; rw [h, h']; rfl
theorem nz_mul_no {o r : Option Rat} (h : nz r = false) : nz (bq mulF o r) = false := by
 cases o with
 | none => cases r <;> exact nz_none
 |some x =>
  cases r with
  | none => exact nz_none
  |some y =>
   have hy : y = 0 := Decidable.byContradiction fun e => by rw [nz_iff.2 e] at h; cases h
   subst hy
   rw [bq_ss]
   unfold mulF
   rw [Rat.mul_zero]
   unfold capF
   split
   ·cases e : nz (some (0 : Rat)) with
    | false => rfl
    | true => exact absurd rfl (nz_iff.1 e)
   ·exact nz_none
theorem nz_mul {x y : Rat} (hx : x ≠ 0) (hy : y ≠ 0) : nz (bq mulF (some x) (some y)) = (bq mulF (some x) (some y)).isSome := by
 rw [bq_ss]
 unfold mulF capF
 split
 ·exact nz_iff.2 (fun e => by rcases Rat.mul_eq_zero.1 e with e | e <;> contradiction)
 ·exact nz_none
theorem coll_scale {K : List Tq} {r : Option Rat} (h : tok K 40 = true) : collG (cT K) (layG (scF r) K G0) = scaleT K r := by
 obtain ⟨a, -, c⟩ := tok_asc h
 obtain ⟨n0, n1, hf⟩ := tok_parts h
 have hG : ∀ t ∈ K, layG (scF r) K G0 t.c = some (fqo (scP r t)) := fun t ht => lay_at a ht
 unfold collG
 rw [flat_out (scP_fit r) hG, all_out (scP_fit r) hG]
 cases hr : nz r with
 |false =>
  rw [scaleT_nz hr, flat_no (P := scP r) (fun t _ => (nz_mul_no (o := t.o) hr : nz (scP r t) = false))]
  split <;> rfl
 |true =>
  rw [scaleT_yes h hr]
  obtain ⟨y, rfl, hy⟩ := nz_some hr
  have hs : ∀ t ∈ K, nz (scP (some y) t) = (scP (some y) t).isSome := fun t ht => by
   obtain ⟨x, e, hx⟩ := nz_some (c t ht)
   unfold scP
   rw [e, nz_mul hx hy]
  have ht : tok (outT (scP (some y)) K) 40 = K.all fun t => (scP (some y) t).isSome := by
   have h1 : tok (outT (scP (some y)) K) 40 = K.all fun t => nz (scP (some y) t) := by
    rw [← outT_tok (scP_fit (some y)) hf]; rfl
   rw [h1]
   rw [Bool.eq_iff_iff, List.all_eq_true, List.all_eq_true]
   exact ⟨fun k t ht => by rw [← hs t ht]; exact k t ht, fun k t ht => by rw [hs t ht]; exact k t ht⟩
  rw [ht]
  cases e : K.all fun t => (scP (some y) t).isSome with
  | false => rfl
  |true =>
   rw [if_pos rfl, if_pos rfl]
   exact flat_yes fun t ht => by rw [hs t ht]; exact List.all_eq_true.1 e t ht
section
variable {ops : Array Oper} {o : Oper} {a : Act} {w : World} {b n : Nat} {E : Int → Option El}
theorem step_storeM {K : Act → World → Prop} {Q : Exit → Act → World → Prop} {E' : Prop} (hg : o.guard = none) (m x y : Operand) (hop : o.op = Op.mapUpdate 133 m x y) (hm : a.eval m = .map (some b)) (h : MI w b n E) (hn : n ≤ 1048576) (c : Int) (hc : I64 c) (hx : a.eval x = .int .i64 c) (e : El) (s : Bool) (a3 : Option Addr) (n3 c3 : Nat) (b3 : Option Addr) (m3 d3 : Nat) (he : e.val = .agg #[.bool s, .slice a3 n3 c3, .slice b3 m3 d3]) (hv : a.eval y = .agg #[.bool s, .slice a3 n3 c3, .slice b3 m3 d3])
  (hK : ∀ w', MI w' b (n + 1) (updE E c e) → w.grownBy w' (some b) → K (a.put o.dst undef) w') : if Region.wanted o (yielded ops a.tmps) = true then Oper.wp Tryz.prog o a w K Q else E' := by
 have hw : Region.wanted o (yielded ops a.tmps) = true := by simp [Region.wanted, hg]
 rw [if_pos hw]
 obtain ⟨D, hown, hD⟩ := h
 obtain ⟨w', hrun, r1, r2⟩ := hown.update (t := 133) keyI Tryz.underlying133 (show n < maxLen by unfold maxLen; omega) (keyOf_I64 hc) (rawE_mk s a3 n3 c3 b3 m3 d3)
 unfold Oper.wp
 simp [execOp, hop, hm, hx, hv, hrun, Result.andThen]
 refine hK w' ⟨_, r1, ?_⟩ r2
 rw [← he]
 exact Spec.upd (E := E) hD hown.isMap c e
end
theorem TK.own {p : Bool} {w : World} {v : Value} {K : List Tq} {lo hi : Nat} (h : TK p w v K lo hi) : ∀ k, v.ownBlock = some k → lo ≤ k ∧ k < hi := by
 obtain ⟨E, h, -⟩ := h
 exact fun k hk => ⟨(h.lt k hk).1, h.high k hk⟩
end Go.Proofs.YthkehmnodcmlcaaGreat
