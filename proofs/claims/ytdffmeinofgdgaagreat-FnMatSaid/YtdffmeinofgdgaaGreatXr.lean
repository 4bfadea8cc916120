/- What the functions on matrices give: the mathematics. -/
import Derived.Test.YtdffmeinofgdgaaGreatXm
import Derived.Test.YtdffmeinofgdgaaGreatVy
import Derived.Test.YtdffmeinofgdgaaGreatVw
namespace Go.Proofs.YtdffmeinofgdgaaGreat
open Go.RowKit
open Go.Lib (hid)
set_option linter.unusedVariables false

/-- The number of columns. -/
def matW : List (List Fq) → Nat
  | [] => 0
  | K :: _ => K.length
theorem matW_at {M : List (List Fq)} (h : 0 < M.length) : matW M = M[0].length := by
  cases M with
  | nil => simp at h
  | cons K M => rfl
theorem matW_nil {M : List (List Fq)} (h : M.length = 0) : matW M = 0 := by
  cases M with
  | nil => rfl
  | cons K M => simp at h
def matOk (M : List (List Fq)) : Bool := decide (M.length ≤ 40) && M.all fun K => decide (K.length = matW M) && oks (vals K)
theorem matOk_long {M : List (List Fq)} (h : 40 < M.length) : matOk M = false := by
  have : ¬ M.length ≤ 40 := by omega
  simp [matOk, this]
theorem matOk_len {M : List (List Fq)} {k : Nat} (h : k < M.length) (hn : M[k].length ≠ matW M) : matOk M = false := by
  cases e : matOk M
  · rfl
  · simp only [matOk, Bool.and_eq_true, List.all_eq_true, decide_eq_true_eq] at e
    exact absurd (e.2 _ (List.getElem_mem h)).1 hn
theorem matOk_no {M : List (List Fq)} {k : Nat} (h : k < M.length) (hn : oks (vals M[k]) = false) : matOk M = false := by
  cases e : matOk M
  · rfl
  · simp only [matOk, Bool.and_eq_true, List.all_eq_true, decide_eq_true_eq] at e
    have := (e.2 _ (List.getElem_mem h)).2
    rw [hn] at this
    cases this
theorem matOk_yes {M : List (List Fq)} (h : M.length ≤ 40) (ha : ∀ k (h : k < M.length), M[k].length = matW M ∧ oks (vals M[k]) = true) : matOk M = true := by
  simp only [matOk, Bool.and_eq_true, List.all_eq_true, decide_eq_true_eq]
  refine ⟨h, fun K hK => ?_⟩
  obtain ⟨k, hk, rfl⟩ := List.getElem_of_mem hK
  exact ha k hk
theorem matOk_n {M : List (List Fq)} (h : matOk M = true) : M.length ≤ 40 := by
  simp only [matOk, Bool.and_eq_true, decide_eq_true_eq] at h
  exact h.1
theorem matOk_row {M : List (List Fq)} (h : matOk M = true) {k : Nat} (hk : k < M.length) : M[k].length = matW M ∧ oks (vals M[k]) = true := by
  simp only [matOk, Bool.and_eq_true, List.all_eq_true, decide_eq_true_eq] at h
  exact h.2 _ (List.getElem_mem hk)
theorem oks_n {K : List Fq} (h : oks (vals K) = true) : K.length ≤ 40 := by
  simp only [oks, Bool.and_eq_true, decide_eq_true_eq, vals_len] at h
  exact h.1
theorem matOk_w {M : List (List Fq)} (h : matOk M = true) : matW M ≤ 40 := by
  by_cases h0 : 0 < M.length
  · have := matOk_row h h0
    have := oks_n this.2
    omega
  · rw [matW_nil (by omega)]; omega
/-- A matrix of zeros, if there is one. -/
def matZ (r c : Int) : List (List Fq) := if (0 ≤ r ∧ r ≤ 40) ∧ 0 ≤ c ∧ c ≤ 40 then List.replicate r.toNat (zeroK c) else []
theorem matZ_yes {R C : Nat} (h : R ≤ 40) (h' : C ≤ 40) : matZ (R : Int) (C : Int) = List.replicate R (List.replicate C (fqo (some ((0 : Int) : Rat)))) := by
  unfold matZ; rw [if_pos (by omega), zeroK_yes h']; rfl
theorem matZ_no {r c : Int} (h : (r < 0 ∨ 40 < r) ∨ c < 0 ∨ 40 < c) : matZ r c = [] := by
  unfold matZ; rw [if_neg (by omega)]
def matI (n : Int) : List (List Fq) := if 0 ≤ n ∧ n ≤ 40 then (List.range n.toNat).map fun (i : Nat) => unitK n i else []
theorem matI_yes {N : Nat} (h : N ≤ 40) : matI (N : Int) = (List.range N).map fun (i : Nat) => unitK N i := by
  unfold matI; rw [if_pos (by omega)]; rfl
theorem matI_no {n : Int} (h : n < 0 ∨ 40 < n) : matI n = [] := by
  unfold matI; rw [if_neg (by omega)]
/-- An element, as it stands. -/
def elt (K : List Fq) (k : Nat) : Fq := K.getD k ⟨false, [], []⟩
theorem elt_at {K : List Fq} {k : Nat} (h : k < K.length) : elt K k = K[k] := by simp [elt, h]
def matT (M : List (List Fq)) : List (List Fq) := if matOk M = true then (List.range (matW M)).map fun k => M.map fun K => elt K k else []
/-- What a list of rows is that a function gives, if all have that length. -/
def bmF (R C : Nat) (F : Nat → List Fq) : List (List Fq) := if (∀ i, i < R → (F i).length = C) then (List.range R).map F else []
theorem bmF_yes {R C : Nat} {F : Nat → List Fq} (h : ∀ i, i < R → (F i).length = C) : bmF R C F = (List.range R).map F := by unfold bmF; rw [if_pos h]
theorem bmF_no {R C : Nat} {F : Nat → List Fq} {i : Nat} (h : i < R) (hn : (F i).length ≠ C) : bmF R C F = [] := by
  unfold bmF; rw [if_neg fun e => hn (e i h)]
theorem bmF_nil (C : Nat) (F : Nat → List Fq) : bmF 0 C F = [] := by unfold bmF; simp
def colsIn (cs : List Int) (W : Nat) : Bool := cs.all fun c => decide (0 ≤ c) && decide (c < (W : Int))
theorem colsIn_no {cs : List Int} {W k : Nat} (h : k < cs.length) (hn : cs[k] < 0 ∨ (W : Int) ≤ cs[k]) : colsIn cs W = false := by
  cases e : colsIn cs W
  · rfl
  · simp only [colsIn, List.all_eq_true, Bool.and_eq_true, decide_eq_true_eq] at e
    have := e _ (List.getElem_mem h)
    omega
theorem colsIn_yes {cs : List Int} {W : Nat} (h : ∀ k (h : k < cs.length), 0 ≤ cs[k] ∧ cs[k] < (W : Int)) : colsIn cs W = true := by
  simp only [colsIn, List.all_eq_true, Bool.and_eq_true, decide_eq_true_eq]
  intro x hx
  obtain ⟨k, hk, rfl⟩ := List.getElem_of_mem hx
  exact h k hk
theorem colsIn_at {cs : List Int} {W k : Nat} (h : colsIn cs W = true) (hk : k < cs.length) : 0 ≤ cs[k] ∧ cs[k] < (W : Int) := by
  simp only [colsIn, List.all_eq_true, Bool.and_eq_true, decide_eq_true_eq] at h
  exact h _ (List.getElem_mem hk)
def pick (cs : List Int) (K : List Fq) : List Fq := cs.map fun c => elt K c.toNat
def matC (M : List (List Fq)) (cs : List Int) : List (List Fq) := if (matOk M = true ∧ cs.length ≤ 40) ∧ colsIn cs (matW M) = true then M.map (pick cs) else []
def eqM : List (List Fq) → List (List Fq) → Bool
  | [], [] => true
  | K :: M, L :: O => eqV K L && eqM M O
  | _, _ => false
theorem eqM_len : ∀ {K L : List (List Fq)}, K.length ≠ L.length → eqM K L = false
  | [], [], h => absurd rfl h
  | [], _ :: _, _ => rfl
  | _ :: _, [], _ => rfl
  | f :: K, g :: L, h => by
    have := eqM_len (K := K) (L := L) (fun e => h (by simp [e]))
    simp [eqM, this]
theorem eqM_no : ∀ {K L : List (List Fq)} {k : Nat} (h : k < K.length) (h' : k < L.length), eqV K[k] L[k] = false → eqM K L = false
  | f :: K, g :: L, 0, _, _, e => by simp only [List.getElem_cons_zero] at e; simp [eqM, e]
  | f :: K, g :: L, k + 1, h, h', e => by
    have := eqM_no (K := K) (L := L) (k := k) (by simpa using h) (by simpa using h') (by simpa using e)
    simp [eqM, this]
theorem eqM_yes : ∀ {K L : List (List Fq)}, K.length = L.length → (∀ k (h : k < K.length) (h' : k < L.length), eqV K[k] L[k] = true) → eqM K L = true
  | [], [], _, _ => rfl
  | [], _ :: _, h, _ => by simp at h
  | _ :: _, [], h, _ => by simp at h
  | f :: K, g :: L, h, ha => by
    have h0 := ha 0 (by simp) (by simp)
    have h1 := eqM_yes (K := K) (L := L) (by simpa using h) (fun k h2 h3 => ha (k + 1) (Nat.succ_lt_succ h2) (Nat.succ_lt_succ h3))
    simp only [List.getElem_cons_zero] at h0
    simp [eqM, h0, h1]
theorem fq_canon {f : Fq} (h : f.o.isSome = true) : f = fqo f.o := by
  obtain ⟨s, A, D⟩ := f
  obtain ⟨x, e⟩ := Option.isSome_iff_exists.1 h
  obtain ⟨h1, h2, h3⟩ := rval_lists (s := s) (A := A) (D := D) e
  rw [e]
  simp only [fqo]
  rw [show qn (some x) = x.num from rfl, show qd (some x) = (x.den : Int) from rfl, h1, h2, h3]
theorem fq_n {f : Fq} (h : f.o.isSome = true) : f.n ≤ 49 := by
  rw [fq_canon h]; exact fqo_n (fitO_o f)
theorem oks_at {K : List Fq} (h : oks (vals K) = true) {k : Nat} (hk : k < K.length) : K[k].o.isSome = true := by
  simp only [oks, vals, Bool.and_eq_true, List.all_eq_true] at h
  exact h.2 _ (List.mem_map_of_mem (List.getElem_mem hk))
/-! Sizes. -/
theorem szK_each : ∀ {K : List Fq}, (∀ f ∈ K, f.n ≤ 49) → szK K ≤ K.length * 49
  | [], _ => by simp [szK]
  | f :: K, h => by
    have h1 := h f (List.mem_cons_self ..)
    have h2 := szK_each (K := K) fun x hx => h x (List.mem_cons_of_mem _ hx)
    simp only [szK, List.length_cons]
    omega
theorem szM_each {b : Nat} : ∀ {M : List (List Fq)}, (∀ K ∈ M, szK K ≤ b) → szM M ≤ M.length * b
  | [], _ => by simp [szM]
  | K :: M, h => by
    have h1 := h K (List.mem_cons_self ..)
    have h2 := szM_each (b := b) (M := M) fun x hx => h x (List.mem_cons_of_mem _ hx)
    simp only [szM, List.length_cons, Nat.add_mul]
    omega
theorem szM_40 {M : List (List Fq)} (h : M.length ≤ 40) (hs : ∀ K ∈ M, szK K ≤ 1960) : szM M ≤ 78400 := by
  have := szM_each hs
  omega
theorem elt_n {M : List (List Fq)} (h : matOk M = true) {K : List Fq} (hK : K ∈ M) {k : Nat} (hk : k < matW M) : (elt K k).n ≤ 49 := by
  obtain ⟨i, hi, rfl⟩ := List.getElem_of_mem hK
  have hr := matOk_row h hi
  rw [elt_at (by omega)]
  exact fq_n (oks_at hr.2 (by omega))
theorem matZ_sz (r c : Int) : (matZ r c).length ≤ 40 ∧ szM (matZ r c) ≤ 78400 := by
  by_cases h : (0 ≤ r ∧ r ≤ 40) ∧ 0 ≤ c ∧ c ≤ 40
  · have hl : (matZ r c).length ≤ 40 := by unfold matZ; rw [if_pos h, List.length_replicate]; omega
    refine ⟨hl, szM_40 hl fun K hK => ?_⟩
    unfold matZ at hK
    rw [if_pos h] at hK
    rw [(List.mem_replicate.1 hK).2]
    exact zeroK_sz c
  · unfold matZ; rw [if_neg h]; simp [szM]
theorem unit_sz (n i : Int) : szK (unitK n i) ≤ 1960 := by
  unfold unitK
  split
  · have h1 := zeroK_len n
    have key : ∀ (l : List Fq) (j : Nat) (x : Fq), (∀ f ∈ l, f.n ≤ 49) → x.n ≤ 49 → szK (l.set j x) ≤ l.length * 49 := by
      intro l
      induction l with
      | nil => intro j x _ _; simp [szK]
      | cons y l ih =>
        intro j x hl hx
        have hy := hl y (List.mem_cons_self ..)
        have hl2 : ∀ f ∈ l, f.n ≤ 49 := fun f hf => hl f (List.mem_cons_of_mem _ hf)
        cases j with
        | zero =>
          have := ih l.length x hl2 hx
          rw [List.set_eq_of_length_le (Nat.le_refl _)] at this
          simp only [List.set_cons_zero, szK, List.length_cons]
          omega
        | succ j =>
          have := ih j x hl2 hx
          simp only [List.set_cons_succ, szK, List.length_cons]
          omega
    have h2 := key (zeroK n) i.toNat (fqo (some ((1 : Int) : Rat))) (fun f hf => by
      unfold zeroK at hf
      split at hf
      · rw [(List.mem_replicate.1 hf).2]; exact fqo_n fitO_zero
      · cases hf) (fqo_n (fitO_i64 (by decide) (by decide)))
    omega
  · simp [szK]
theorem matI_sz (n : Int) : (matI n).length ≤ 40 ∧ szM (matI n) ≤ 78400 := by
  by_cases h : 0 ≤ n ∧ n ≤ 40
  · have hl : (matI n).length ≤ 40 := by unfold matI; rw [if_pos h, List.length_map, List.length_range]; omega
    refine ⟨hl, szM_40 hl fun K hK => ?_⟩
    unfold matI at hK
    rw [if_pos h] at hK
    obtain ⟨i, -, rfl⟩ := List.mem_map.1 hK
    exact unit_sz n i
  · unfold matI; rw [if_neg h]; simp [szM]
theorem matT_sz (M : List (List Fq)) : (matT M).length ≤ 40 ∧ szM (matT M) ≤ 78400 := by
  by_cases h : matOk M = true
  · have hw := matOk_w h
    have hn := matOk_n h
    have hl : (matT M).length ≤ 40 := by unfold matT; rw [if_pos h, List.length_map, List.length_range]; omega
    refine ⟨hl, szM_40 hl fun K hK => ?_⟩
    unfold matT at hK
    rw [if_pos h] at hK
    obtain ⟨i, hi, rfl⟩ := List.mem_map.1 hK
    have h2 := szK_each (K := M.map fun K => elt K i) fun f hf => by
      obtain ⟨L, hL, rfl⟩ := List.mem_map.1 hf
      exact elt_n h hL (List.mem_range.1 hi)
    rw [List.length_map] at h2
    omega
  · unfold matT; rw [if_neg h]; simp [szM]
theorem matC_sz (M : List (List Fq)) (cs : List Int) : (matC M cs).length ≤ 40 ∧ szM (matC M cs) ≤ 78400 := by
  by_cases h : (matOk M = true ∧ cs.length ≤ 40) ∧ colsIn cs (matW M) = true
  · have hn := matOk_n h.1.1
    have hl : (matC M cs).length ≤ 40 := by unfold matC; rw [if_pos h, List.length_map]; omega
    refine ⟨hl, szM_40 hl fun K hK => ?_⟩
    unfold matC at hK
    rw [if_pos h] at hK
    obtain ⟨L, hL, rfl⟩ := List.mem_map.1 hK
    have h2 := szK_each (K := pick cs L) fun f hf => by
      obtain ⟨c, hc, rfl⟩ := List.mem_map.1 hf
      obtain ⟨k, hk, rfl⟩ := List.getElem_of_mem hc
      have := colsIn_at h.2 hk
      exact elt_n h.1.1 hL (by omega)
    rw [show (pick cs L).length = cs.length by simp [pick]] at h2
    have := h.1.2
    omega
  · unfold matC; rw [if_neg h]; simp [szM]
end Go.Proofs.YtdffmeinofgdgaaGreat
