/- Products of matrices and vectors: the mathematics. -/
import Derived.Test.YtdffmeinofgdgaaGreatXr
import Derived.Test.YtdffmeinofgdgaaGreatVx
import Derived.Test.YtdffmeinofgdgaaGreatVdt
namespace Go.Proofs.YtdffmeinofgdgaaGreat
open Go.RowKit
open Go.Lib (hid)
set_option linter.unusedVariables false

theorem vres_sz' {os : List (Option Rat)} (h : ∀ o ∈ os, fitO o) : szK (vres os) ≤ 1960 := by
  unfold vres
  by_cases ho : oks os = true
  · rw [if_pos ho]
    have hl : os.length ≤ 40 := by
      simp only [oks, Bool.and_eq_true, decide_eq_true_eq] at ho
      exact ho.1
    have := szK_each (K := os.map fqo) fun f hf => by
      obtain ⟨o, ho, rfl⟩ := List.mem_map.1 hf
      exact fqo_n (h o ho)
    rw [List.length_map] at this
    omega
  · rw [if_neg ho]; simp [szK]
theorem vres_len {os : List (Option Rat)} (h : oks os = true) : (vres os).length = os.length := by unfold vres; rw [if_pos h, List.length_map]
theorem vres_le (os : List (Option Rat)) : (vres os).length ≤ os.length := by
  unfold vres; split
  · rw [List.length_map]; exact Nat.le_refl _
  · exact Nat.zero_le _
theorem oks_nil : oks [] = true := rfl
/-- What is given as a vector is one. -/
theorem oks_vres {os : List (Option Rat)} (h : ∀ o ∈ os, fitO o) : oks (vals (vres os)) = true := by
  unfold vres
  by_cases ho : oks os = true
  · rw [if_pos ho, vals_map h]; exact ho
  · rw [if_neg ho]; rfl
theorem oks_none' {os : List (Option Rat)} (h : oks os = false) (h4 : os.length ≤ 40) : ∃ (k : Nat) (hk : k < os.length), os[k] = none := by
  apply Classical.byContradiction
  intro hc
  have : oks os = true := by
    simp only [oks, Bool.and_eq_true, List.all_eq_true, decide_eq_true_eq]
    refine ⟨h4, fun x hx => ?_⟩
    obtain ⟨k, hk, rfl⟩ := List.getElem_of_mem hx
    cases e : os[k] with
    | none => exact absurd ⟨k, hk, e⟩ hc
    | some x => rfl
  rw [this] at h
  cases h
theorem oks_at_none {os : List (Option Rat)} {k : Nat} (hk : k < os.length) (hn : os[k] = none) : oks os = false := by
  cases e : oks os
  · rfl
  · simp only [oks, Bool.and_eq_true, List.all_eq_true] at e
    have := e.2 _ (List.getElem_mem hk)
    rw [hn] at this
    cases this
theorem zw_fqo {f : Rat → Rat → Option Rat} : ∀ {S T : List (Option Rat)}, (∀ o ∈ S, fitO o) → (∀ o ∈ T, fitO o) → zw f (S.map fqo) (T.map fqo) = List.zipWith (bq f) S T
  | [], _, _, _ => by simp [zw]
  | _ :: _, [], _, _ => by simp [zw]
  | o :: S, o' :: T, hS, hT => by
    have ih := zw_fqo (f := f) (S := S) (T := T) (fun x hx => hS x (List.mem_cons_of_mem _ hx)) (fun x hx => hT x (List.mem_cons_of_mem _ hx))
    unfold zw at ih ⊢
    simp only [List.map_cons, List.zipWith_cons_cons, ih, fqo_o (hS o (List.mem_cons_self ..)), fqo_o (hT o' (List.mem_cons_self ..))]
theorem zipO_len {S T : List (Option Rat)} {f : Rat → Rat → Option Rat} (h : S.length = T.length) : (List.zipWith (bq f) S T).length = S.length := by simp [h]
theorem zipO_fit {S T : List (Option Rat)} {f : Rat → Rat → Option Rat} (hf : ∀ x y, fitO (f x y)) : ∀ o ∈ List.zipWith (bq f) S T, fitO o := by
  intro o ho
  obtain ⟨k, hk, rfl⟩ := List.getElem_of_mem ho
  simp only [List.getElem_zipWith]
  exact fitO_bq hf _ _
theorem vzip_vres {f : Rat → Rat → Option Rat} {S T : List (Option Rat)} (hS : ∀ o ∈ S, fitO o) (hT : ∀ o ∈ T, fitO o) (hl : S.length = T.length) (h4 : S.length ≤ 40) : vzip f (vres S) (vres T) = vres (List.zipWith (bq f) S T) := by
  have nil : ∀ X : List Fq, vzip f [] X = [] := fun X => by
    unfold vzip
    cases X with
    | nil => rfl
    | cons x X => rw [if_neg (by simp)]
  have nil' : ∀ X : List Fq, vzip f X [] = [] := fun X => by
    unfold vzip
    cases X with
    | nil => rfl
    | cons x X => rw [if_neg (by simp)]
  cases eS : oks S with
  | false =>
    obtain ⟨k, hk, e⟩ := oks_none' eS h4
    have e2 : oks (List.zipWith (bq f) S T) = false := oks_at_none (k := k) (by rw [zipO_len hl]; exact hk) (by rw [List.getElem_zipWith, e, bq_none_l])
    rw [show vres S = [] by unfold vres; rw [eS, if_neg (by decide)], nil, show vres (List.zipWith (bq f) S T) = [] by unfold vres; rw [e2, if_neg (by decide)]]
  | true =>
    cases eT : oks T with
    | false =>
      obtain ⟨k, hk, e⟩ := oks_none' eT (by omega)
      have e2 : oks (List.zipWith (bq f) S T) = false := oks_at_none (k := k) (by rw [zipO_len hl]; omega) (by rw [List.getElem_zipWith, e, bq_none_r])
      rw [show vres T = [] by unfold vres; rw [eT, if_neg (by decide)], nil', show vres (List.zipWith (bq f) S T) = [] by unfold vres; rw [e2, if_neg (by decide)]]
    | true =>
      rw [show vres S = S.map fqo by unfold vres; rw [if_pos eS], show vres T = T.map fqo by unfold vres; rw [if_pos eT]]
      unfold vzip
      rw [if_pos (by simp [hl]), zw_fqo hS hT]
def matV (M : List (List Fq)) (V : List Fq) : List Fq := if matOk M = true then vres (M.map fun K => dotO K V) else []
theorem dots_fit (M : List (List Fq)) (V : List Fq) : ∀ o ∈ M.map (fun K => dotO K V), fitO o := by
  intro o ho
  obtain ⟨K, -, rfl⟩ := List.mem_map.1 ho
  exact fitO_dot K V
theorem matV_sz (M : List (List Fq)) (V : List Fq) : szK (matV M V) ≤ 2000 := by
  unfold matV; split
  · exact Nat.le_trans (vres_sz' (dots_fit M V)) (by decide)
  · simp [szK]
/-- The sums of the first k rows' multiples, element by element. -/
def colS (W : Nat) (M : List (List Fq)) (V : List Fq) : Nat → List (Option Rat)
  | 0 => List.replicate W (some ((0 : Int) : Rat))
  | k + 1 => List.zipWith (bq addF) (colS W M V k) (smO (M.getD k []) (elt V k).o)
theorem colS_fit (W : Nat) (M : List (List Fq)) (V : List Fq) : ∀ k, ∀ o ∈ colS W M V k, fitO o
  | 0 => fun o ho => by rw [(List.mem_replicate.1 ho).2]; exact fitO_zero
  | k + 1 => zipO_fit fitO_add
theorem getD_at {M : List (List Fq)} {k : Nat} (h : k < M.length) : M.getD k [] = M[k] := by simp [h]
theorem colS_len {W : Nat} {M : List (List Fq)} (V : List Fq) (h : ∀ k (hk : k < M.length), M[k].length = W) : ∀ k, k ≤ M.length → (colS W M V k).length = W
  | 0, _ => by simp [colS]
  | k + 1, hk => by
    have h1 := colS_len V h k (by omega)
    have h2 := h k (by omega)
    rw [colS, zipO_len (by rw [h1, smO_len, getD_at (by omega), h2]), h1]
theorem colS_zero (W : Nat) (M : List (List Fq)) (V : List Fq) (h : W ≤ 40) : vres (colS W M V 0) = zeroK (W : Int) := by
  have : oks (List.replicate W (some ((0 : Int) : Rat))) = true := by
    simp only [oks, Bool.and_eq_true, List.all_eq_true, decide_eq_true_eq, List.length_replicate]
    exact ⟨h, fun x hx => by rw [(List.mem_replicate.1 hx).2]; rfl⟩
  show vres (List.replicate W (some ((0 : Int) : Rat))) = _
  unfold vres
  rw [if_pos this, zeroK_yes h, List.map_replicate]
theorem colS_step {W : Nat} {M : List (List Fq)} {V : List Fq} (h : ∀ k (hk : k < M.length), M[k].length = W) (h4 : W ≤ 40) {k : Nat} (hk : k < M.length) : vzip addF (vres (colS W M V k)) (vscale M[k] (elt V k).o) = vres (colS W M V (k + 1)) := by
  have h1 := colS_len V h k (by omega)
  unfold vscale
  rw [vzip_vres (colS_fit W M V k) (smO_fit _ _) (by rw [h1, smO_len, h k hk]) (by omega)]
  simp only [colS]
  rw [getD_at hk]
def vecM (V : List Fq) (M : List (List Fq)) : List Fq := if (matOk M = true ∧ oks (vals V) = true) ∧ V.length = M.length then vres (colS (matW M) M V M.length) else []
theorem vecM_sz (V : List Fq) (M : List (List Fq)) : szK (vecM V M) ≤ 1960 := by
  unfold vecM; split
  · exact vres_sz' (colS_fit _ _ _ _)
  · simp [szK]
theorem vecM_ok (V : List Fq) (M : List (List Fq)) : oks (vals (vecM V M)) = true := by
  unfold vecM; split
  · exact oks_vres (colS_fit _ _ _ _)
  · rfl
theorem vecM_Sm (V : List Fq) (M : List (List Fq)) : Sm (vecM V M) := Sm.of (by have := vecM_sz V M; omega)
def matMul (M J : List (List Fq)) : List (List Fq) := if (matOk M = true ∧ matOk J = true) ∧ matW M = J.length ∧ 0 < J.length then bmF M.length (matW J) (fun i => vecM (M.getD i []) J) else []
theorem matMul_sz (M J : List (List Fq)) : (matMul M J).length ≤ 40 ∧ szM (matMul M J) ≤ 78400 := by
  by_cases h : (matOk M = true ∧ matOk J = true) ∧ matW M = J.length ∧ 0 < J.length
  · have hn := matOk_n h.1.1
    have key : (bmF M.length (matW J) (fun i => vecM (M.getD i []) J)).length ≤ 40 ∧ ∀ K ∈ bmF M.length (matW J) (fun i => vecM (M.getD i []) J), szK K ≤ 1960 := by
      unfold bmF
      split
      · refine ⟨by simpa using hn, fun K hK => ?_⟩
        obtain ⟨i, -, rfl⟩ := List.mem_map.1 hK
        exact vecM_sz _ _
      · exact ⟨Nat.zero_le _, fun K hK => by cases hK⟩
    have e : matMul M J = bmF M.length (matW J) (fun i => vecM (M.getD i []) J) := by unfold matMul; rw [if_pos h]
    rw [e]
    exact ⟨key.1, szM_40 key.1 key.2⟩
  · unfold matMul; rw [if_neg h]; simp [szM]
section
variable {ops : Array Oper} {o : Oper} {a : Act} {p : Bool} {W : World} {v x y : Value} {Ks : List Fq} {lo hi lo' B : Nat} {sg : Bool} {oo : Option Rat}
theorem wpList_pushN {rest : List Oper} {Q : Exit → Act → World → Prop} (hgd : o.guard = none) (s1 x1 : Operand)
    (ho : o.op = .call { callee := .builtin .append, args := #[s1, x1], argTypes := #[25, 25] }) (hs : a.eval s1 = v) (hv : VK p W v Ks lo hi) (hh : hi ≤ lo') (hl : lo ≤ lo') (hr : RO p W lo' sg x y oo)
    (hx : a.eval x1 = .slice (some ⟨B, 0, none⟩) 1 1) (hB : W.heap[B]? = some (.cells #[.bool sg, x, y] 65 (0, 0))) (hlen : Ks.length ≤ 1048576) (hlw : lo ≤ W.heap.size) {n : Nat} (hnn : n = Ks.length + 1)
    (h : ∀ (g cap : Nat) (w' : World), VK p w' (.slice (some ⟨g, 0, none⟩) n cap) (Ks ++ [fqo oo]) lo w'.heap.size → Below lo W w' → wpList Tryz.prog ops Q rest (a.put o.dst (.slice (some ⟨g, 0, none⟩) n cap)) w') :
    wpList Tryz.prog ops Q (o :: rest) a W := by
  subst hnn
  exact wpList_push hgd s1 x1 ho hs hv hh hl hr hx hB hlen hlw h
end
end Go.Proofs.YtdffmeinofgdgaaGreat
