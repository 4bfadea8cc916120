/- Lists of terms: whether a list is one (the program). -/
import Derived.Test.YteanocjkdehhgaaTcl
import Derived.Deep.RegionHeld3
import Derived.Deep.DeepCutAuto
namespace Go.Proofs.Yteanocjkdehhgaa
open Go.RowKit
open Go.Lib (hid)
set_option linter.unusedVariables false

/-- A fraction that is valid and not 0. -/
def nz (o : Option Rat) : Bool := decide (sgnO o ≠ 0)
theorem nz_none : nz none = false := by simp [nz, sgnO]
theorem nz_some {o : Option Rat} (h : nz o = true) : ∃ x, o = some x ∧ x ≠ 0 := by
  cases o with
  | none => simp [nz, sgnO] at h
  | some x =>
    refine ⟨x, rfl, fun e => ?_⟩
    subst e
    simp [nz, sgnO, sgn] at h
theorem nz_iff {x : Rat} : nz (some x) = true ↔ x ≠ 0 := by
  refine ⟨fun h e => by subst e; simp [nz, sgnO, sgn] at h, fun h => ?_⟩
  have : x.num ≠ 0 := fun e => h (Rat.num_eq_zero.1 e)
  refine decide_eq_true (show sgn x.num ≠ 0 from ?_)
  rcases sgn_cases x.num with ⟨-, e⟩ | ⟨e, -⟩ | ⟨-, e⟩
  · omega
  · exact absurd e this
  · omega
theorem RL.nums {w : World} {a b : Option Addr} {n c m d : Nat} {A D : List Int} (h : RL w (.slice a n c) (.slice b m d) A D) : n = A.length ∧ m = D.length := by
  obtain ⟨a1, c1, b1, d1, e1, e2⟩ := h.form
  simp only [Value.slice.injEq] at e1 e2
  exact ⟨e1.2.1, e2.2.1⟩
theorem tq_mag {x : Int} {s : Bool} {A D : List Int} {o : Option Rat} (h : Tq.o ⟨x, s, A, D⟩ = o) (ho : o.isSome = true) : (A.length = 0 ↔ nz o = false) := by
  cases o with
  | none => cases ho
  | some y =>
    obtain ⟨-, hA, -⟩ := rval_lists (s := s) (A := A) (D := D) h
    have hr : rok s A D = true := by rw [rok_isSome]; exact Option.isSome_of_mem h
    obtain ⟨k1, -, -⟩ := rok_iff.1 hr
    have hg := gz_of k1
    obtain ⟨z, e, hn, -, -⟩ := rval_yes hr
    have : z = y := by have := e.symm.trans h; exact Option.some.inj this
    subst this
    constructor
    · intro h0
      have : A = [] := List.eq_nil_of_length_eq_zero h0
      subst this
      have : z.num = 0 := by rw [hn]; cases s <;> rfl
      simp [nz, sgnO, this, sgn]
    · intro hz
      have : z.num = 0 := by
        have h1 : sgn z.num = 0 := Decidable.byContradiction fun hh => absurd (show nz (some z) = true from decide_eq_true hh) (by rw [hz]; decide)
        rcases sgn_cases z.num with ⟨-, e⟩ | ⟨e, -⟩ | ⟨-, e⟩
        · omega
        · exact e
        · omega
      rw [← hA, this, gzl_nil]; rfl
def tokF (n : Int) : Int → List Tq → Bool
  | _, [] => true
  | b, t :: L => (decide (b < t.c) && decide (t.c < n) && nz t.o) && tokF n t.c L
def lastC : Int → List Tq → Int
  | b, [] => b
  | _, t :: L => lastC t.c L
/-- Whether l is a list of terms for n columns. -/
def tok (L : List Tq) (n : Int) : Bool := (decide (0 ≤ n) && decide (n ≤ 40)) && tokF n (-1) L
theorem tokF_append (n : Int) : ∀ (b : Int) (L M : List Tq), tokF n b (L ++ M) = (tokF n b L && tokF n (lastC b L) M)
  | b, [], M => by simp [tokF, lastC]
  | b, t :: L, M => by simp only [List.cons_append, tokF, lastC, tokF_append n t.c L M, Bool.and_assoc]
theorem lastC_append : ∀ (b : Int) (L M : List Tq), lastC b (L ++ M) = lastC (lastC b L) M
  | b, [], M => rfl
  | b, t :: L, M => by simp only [List.cons_append, lastC]; exact lastC_append t.c L M
theorem lastC_take {L : List Tq} {k : Nat} (h : k < L.length) (b : Int) : lastC b (L.take (k + 1)) = L[k].c := by
  rw [List.take_succ_eq_append_getElem h, lastC_append]; rfl
theorem tokF_take {n b : Int} {L : List Tq} {k : Nat} (h : k < L.length) : tokF n b (L.take (k + 1)) = (tokF n b (L.take k) && (decide (lastC b (L.take k) < L[k].c) && decide (L[k].c < n) && nz L[k].o)) := by
  rw [List.take_succ_eq_append_getElem h, tokF_append]; simp [tokF]
theorem tokF_no {n b : Int} {L : List Tq} {k : Nat} (h : k < L.length) (hn : (decide (lastC b (L.take k) < L[k].c) && decide (L[k].c < n) && nz L[k].o) = false) : tokF n b L = false := by
  have h1 := tokF_append n b (L.take (k + 1)) (L.drop (k + 1))
  rw [List.take_append_drop, tokF_take h, hn] at h1
  simpa using h1
theorem tok_no {L : List Tq} {n : Int} {k : Nat} (h : k < L.length) (hn : (decide (lastC (-1) (L.take k) < L[k].c) && decide (L[k].c < n) && nz L[k].o) = false) : tok L n = false := by
  simp [tok, tokF_no h hn]
theorem tok_out {L : List Tq} {n : Int} (h : n < 0 ∨ 40 < n) : tok L n = false := by
  rcases h with h | h
  · simp [tok, show ¬ 0 ≤ n by omega]
  · simp [tok, show ¬ n ≤ 40 by omega]
theorem tok_yes {L : List Tq} {n : Int} (h0 : 0 ≤ n) (h1 : n ≤ 40) (h : tokF n (-1) L = true) : tok L n = true := by simp [tok, h0, h1, h]
theorem tok_parts {L : List Tq} {n : Int} (h : tok L n = true) : 0 ≤ n ∧ n ≤ 40 ∧ tokF n (-1) L = true := by
  simpa [tok, and_assoc] using h
theorem tokF_at {n : Int} : ∀ {L : List Tq} {b : Int}, tokF n b L = true → ∀ k (h : k < L.length), b + (k : Int) < L[k].c ∧ L[k].c < n ∧ nz L[k].o = true
  | t :: L, b, h, 0, _ => by
    simp only [tokF, Bool.and_eq_true, decide_eq_true_eq] at h
    exact ⟨by simp; omega, h.1.1.2, h.1.2⟩
  | t :: L, b, h, k + 1, hk => by
    simp only [tokF, Bool.and_eq_true, decide_eq_true_eq] at h
    have := tokF_at h.2 k (by simpa using hk)
    simp only [List.getElem_cons_succ]
    refine ⟨by omega, this.2⟩
theorem tokF_len {n b : Int} {L : List Tq} (h : tokF n b L = true) (hb : b ≤ n) : (L.length : Int) ≤ n - b := by
  cases e : L.length with
  | zero => omega
  | succ k =>
    have := tokF_at h k (by omega)
    omega
theorem tok_len {L : List Tq} {n : Int} (h : tok L n = true) : L.length ≤ 40 := by
  obtain ⟨h0, h1, h2⟩ := tok_parts h
  cases e : L.length with
  | zero => omega
  | succ k =>
    have := tokF_at h2 k (by omega)
    omega
theorem tok_at {L : List Tq} {n : Int} (h : tok L n = true) {k : Nat} (hk : k < L.length) : 0 ≤ L[k].c ∧ L[k].c < n ∧ ∃ x, L[k].o = some x ∧ x ≠ 0 := by
  obtain ⟨h0, h1, h2⟩ := tok_parts h
  have := tokF_at h2 k hk
  exact ⟨by omega, this.2.1, nz_some this.2.2⟩
theorem bool_retT {a b : Bool} (h : a = b) : Ending.returned (.bool a) = .returned (.bool b) := by rw [h]
end Go.Proofs.Yteanocjkdehhgaa
