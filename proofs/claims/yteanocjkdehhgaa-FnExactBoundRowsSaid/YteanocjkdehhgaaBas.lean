/- Merged: Val Mem Hlp Rd Of Obj. -/
import Derived.Test.YteanocjkdehhgaaProg
import Derived.WalkKit
import Derived.Lib.Hide
import Derived.Below
import Derived.Maps.AppendAt
import Derived.Deep.QuietTactic
import Derived.BigQuiet
import Derived.Deep.RegionHeld3
import Derived.WalkSmall
import Derived.IntWalk
import Derived.Deep.OwnRows
import Derived.OpenShut
import Derived.Laws.OwnMore
/- Numbers in limbs of base 10^9: the value of a list of limbs, its one canonical list, order. No program text. -/
namespace Go.Proofs.Yteanocjkdehhgaa

def val : List Int → Int
  | [] => 0
  | x :: xs => x + 1000000000 * val xs
def Lim (L : List Int) : Prop := ∀ x ∈ L, 0 ≤ x ∧ x < 1000000000
def pw : Nat → Int
  | 0 => 1
  | n + 1 => 1000000000 * pw n
theorem pw_pos : ∀ n, 0 < pw n
  | 0 => by decide
  | n + 1 => by have := pw_pos n; simp only [pw]; omega
theorem pw_add (m : Nat) : ∀ n, pw (m + n) = pw m * pw n
  | 0 => by simp [pw]
  | n + 1 => by
    show 1000000000 * pw (m + n) = pw m * (1000000000 * pw n)
    rw [pw_add m n]; grind
theorem pw_le {m n : Nat} (h : m ≤ n) : pw m ≤ pw n := by
  obtain ⟨k, rfl⟩ : ∃ k, n = m + k := ⟨n - m, by omega⟩
  clear h
  induction k with
  | zero => exact Int.le_refl _
  | succ k ih =>
    have := pw_pos (m + k)
    show pw m ≤ 1000000000 * pw (m + k)
    omega
theorem pw_succ_lt (n : Nat) : 1000000000 ≤ pw (n + 1) := by have := pw_pos n; simp only [pw]; omega

theorem val_append : ∀ (L M : List Int), val (L ++ M) = val L + pw L.length * val M
  | [], M => by simp [val, pw]
  | x :: L, M => by
    simp only [List.cons_append, val, val_append L M, List.length_cons, pw]; grind
theorem Lim_nil : Lim [] := by intro x h; cases h
theorem Lim_cons {x : Int} {L : List Int} (h : Lim (x :: L)) : (0 ≤ x ∧ x < 1000000000) ∧ Lim L := ⟨h x (by simp), fun y hy => h y (by simp [hy])⟩
theorem Lim_append {L M : List Int} (h : Lim L) (h' : Lim M) : Lim (L ++ M) := by
  intro x hx
  rcases List.mem_append.1 hx with hx | hx
  · exact h x hx
  · exact h' x hx
theorem Lim_one {x : Int} (h : 0 ≤ x) (h' : x < 1000000000) : Lim [x] := by intro y hy; simp at hy; subst hy; exact ⟨h, h'⟩
theorem Lim_take {L : List Int} (h : Lim L) (k : Nat) : Lim (L.take k) := fun x hx => h x (List.mem_of_mem_take hx)
theorem Lim_drop {L : List Int} (h : Lim L) (k : Nat) : Lim (L.drop k) := fun x hx => h x (List.mem_of_mem_drop hx)
theorem Lim_at {L : List Int} (h : Lim L) {i : Nat} (hi : i < L.length) : 0 ≤ L[i] ∧ L[i] < 1000000000 := h _ (List.getElem_mem hi)
theorem Lim_set {L : List Int} (h : Lim L) (i : Nat) {x : Int} (h0 : 0 ≤ x) (h1 : x < 1000000000) : Lim (L.set i x) := by
  intro y hy
  rcases List.mem_or_eq_of_mem_set hy with hy | rfl
  · exact h y hy
  · exact ⟨h0, h1⟩
theorem Lim_zeros (k : Nat) : Lim (List.replicate k 0) := by
  intro x hx
  obtain ⟨-, rfl⟩ := List.mem_replicate.1 hx
  decide
theorem val_zeros : ∀ k, val (List.replicate k 0) = 0
  | 0 => rfl
  | k + 1 => by simp [List.replicate_succ, val, val_zeros k]
theorem val_pad (L : List Int) (k : Nat) : val (L ++ List.replicate k 0) = val L := by rw [val_append, val_zeros]; simp
theorem val_nonneg : ∀ {L : List Int}, Lim L → 0 ≤ val L
  | [], _ => by decide
  | x :: L, h => by
    have h1 := Lim_cons h
    have h2 := val_nonneg h1.2
    simp only [val]; omega
theorem val_lt : ∀ {L : List Int}, Lim L → val L < pw L.length
  | [], _ => by decide
  | x :: L, h => by
    have h1 := Lim_cons h
    have h2 := val_lt h1.2
    simp only [val, List.length_cons, pw]; omega
theorem val_split (L : List Int) {k : Nat} (hk : k ≤ L.length) : val L = val (L.take k) + pw k * val (L.drop k) := by
  have h := val_append (L.take k) (L.drop k)
  rw [List.take_append_drop, List.length_take, Nat.min_eq_left hk] at h
  exact h
theorem val_take_succ {L : List Int} {k : Nat} (hk : k < L.length) : val (L.take (k + 1)) = val (L.take k) + pw k * L[k] := by
  rw [List.take_succ_eq_append_getElem hk, val_append]
  simp [val, Nat.min_eq_left (Nat.le_of_lt hk)]
theorem val_drop {L : List Int} {k : Nat} (hk : k < L.length) : val (L.drop k) = L[k] + 1000000000 * val (L.drop (k + 1)) := by
  rw [List.drop_eq_getElem_cons hk]; rfl
theorem val_drop_end {L : List Int} {k : Nat} (hk : L.length ≤ k) : val (L.drop k) = 0 := by rw [List.drop_eq_nil_of_le hk]; rfl
theorem val_drop_le {L : List Int} (h : Lim L) (k : Nat) : val (L.drop k) ≤ val L := by
  induction k with
  | zero => simp
  | succ k ih =>
    by_cases hk : k < L.length
    · have h1 := val_drop hk
      have h2 := Lim_at h hk
      have h3 := val_nonneg (Lim_drop h (k + 1))
      omega
    · rw [val_drop_end (by omega)]; exact val_nonneg h
theorem val_set : ∀ {L : List Int} {k : Nat} (hk : k < L.length) (x : Int), val (L.set k x) = val L + (x - L[k]) * pw k
  | y :: L, 0, _, x => by simp [val, pw]; omega
  | y :: L, k + 1, hk, x => by
    simp only [List.set_cons_succ, val, List.getElem_cons_succ, pw, val_set (L := L) (k := k) (by simpa using hk) x]
    grind

/-- The limbs of a natural number. -/
def rep (n : Nat) : List Int := if h : n = 0 then [] else ((n % 1000000000 : Nat) : Int) :: rep (n / 1000000000)
termination_by n
decreasing_by omega
theorem rep_zero : rep 0 = [] := by rw [rep]; simp
theorem rep_pos {n : Nat} (h : n ≠ 0) : rep n = ((n % 1000000000 : Nat) : Int) :: rep (n / 1000000000) := by rw [rep]; simp [h]
theorem val_rep (n : Nat) : val (rep n) = n := by
  induction n using Nat.strongRecOn with
  | ind n ih =>
    by_cases h : n = 0
    · subst h; rw [rep_zero]; rfl
    · rw [rep_pos h, val, ih _ (by omega)]; omega
theorem Lim_rep (n : Nat) : Lim (rep n) := by
  induction n using Nat.strongRecOn with
  | ind n ih =>
    by_cases h : n = 0
    · subst h; rw [rep_zero]; exact Lim_nil
    · rw [rep_pos h]
      intro x hx
      rcases List.mem_cons.1 hx with rfl | hx
      · omega
      · exact ih _ (by omega) x hx
theorem rep_ne {n : Nat} (h : n ≠ 0) : rep n ≠ [] := by rw [rep_pos h]; simp
/-- Canonical: limbs, and no zero limb at the end. -/
def Can (L : List Int) : Prop := Lim L ∧ ∀ h : L ≠ [], L.getLast h ≠ 0
theorem Can_nil : Can [] := ⟨Lim_nil, fun h => absurd rfl h⟩
theorem Can_tail {x : Int} {L : List Int} (h : Can (x :: L)) : Can L := by
  refine ⟨(Lim_cons h.1).2, fun hn => ?_⟩
  have := h.2 (by simp)
  rwa [List.getLast_cons hn] at this
theorem Can_val : ∀ {L : List Int}, Can L → val L = 0 → L = []
  | [], _, _ => rfl
  | x :: L, h, h0 => by
    have h1 := Lim_cons h.1
    have h2 := val_nonneg h1.2
    simp only [val] at h0
    have h3 : L = [] := Can_val (Can_tail h) (by omega)
    subst h3
    have h4 := h.2 (by simp)
    simp [val] at h0 h4
    exact absurd h0 h4
theorem rep_val : ∀ {L : List Int}, Can L → rep (val L).toNat = L
  | [], _ => by simp [val, rep_zero]
  | x :: L, h => by
    have h1 := Lim_cons h.1
    have h2 := val_nonneg h1.2
    have hne : val (x :: L) ≠ 0 := fun h0 => by have := Can_val h h0; simp at this
    have e : val (x :: L) = x + 1000000000 * val L := rfl
    rw [rep_pos (by omega)]
    have e1 : (val (x :: L)).toNat / 1000000000 = (val L).toNat := by omega
    have e2 : (((val (x :: L)).toNat % 1000000000 : Nat) : Int) = x := by omega
    rw [e1, e2, rep_val (Can_tail h)]
theorem Can_rep (n : Nat) : Can (rep n) := by
  refine ⟨Lim_rep n, fun hne => ?_⟩
  induction n using Nat.strongRecOn with
  | ind n ih =>
    by_cases h : n = 0
    · subst h; exact absurd rep_zero hne
    · by_cases h2 : n / 1000000000 = 0
      · have e : rep n = [((n % 1000000000 : Nat) : Int)] := by rw [rep_pos h, h2, rep_zero]
        simp only [e, List.getLast_singleton]; omega
      · have e := rep_pos h
        simp only [e]
        rw [List.getLast_cons (rep_ne h2)]
        exact ih _ (by omega) (rep_ne h2)
theorem Can_ge {L : List Int} (h : Can L) (hne : L ≠ []) : pw (L.length - 1) ≤ val L := by
  have hl : 0 < L.length := List.length_pos_iff.mpr hne
  have h1 := h.2 hne
  rw [List.getLast_eq_getElem] at h1
  have h2 := val_split L (k := L.length - 1) (by omega)
  have h3 := val_nonneg (Lim_take h.1 (L.length - 1))
  rw [val_drop (by omega), val_drop_end (by omega)] at h2
  have h4 := Lim_at h.1 (i := L.length - 1) (by omega)
  have h5 := pw_pos (L.length - 1)
  have h6 : pw (L.length - 1) * 1 ≤ pw (L.length - 1) * (L[L.length - 1] + 1000000000 * 0) := Int.mul_le_mul_of_nonneg_left (by omega) (by omega)
  omega
theorem Can_len {L : List Int} (h : Can L) {k : Nat} : L.length ≤ k ↔ val L < pw k := by
  constructor
  · intro hk
    have := val_lt h.1
    have := pw_le hk
    omega
  · intro hk
    by_cases hne : L = []
    · subst hne; simp
    · have h1 := Can_ge h hne
      rcases Nat.lt_or_ge k L.length with hlt | hge
      · have := pw_le (m := k) (n := L.length - 1) (by omega)
        omega
      · exact hge
theorem Can_take {L : List Int} (h : Lim L) {n : Nat} (hn : n ≤ L.length) (h0 : ∀ k (hk : k < L.length), n = k + 1 → L[k] ≠ 0) : Can (L.take n) := by
  refine ⟨Lim_take h n, fun hne => ?_⟩
  have hl : 0 < (L.take n).length := List.length_pos_iff.mpr hne
  rw [List.length_take] at hl
  rw [List.getLast_eq_getElem]
  simp only [List.getElem_take, List.length_take]
  have := h0 (min n L.length - 1) (by omega) (by omega)
  exact this
theorem Can_drop {L : List Int} (h : Can L) (k : Nat) : Can (L.drop k) := by
  refine ⟨Lim_drop h.1 k, fun hne => ?_⟩
  have hl : 0 < (L.drop k).length := List.length_pos_iff.mpr hne
  rw [List.length_drop] at hl
  have h1 := h.2 (by intro e; subst e; simp at hl)
  rw [List.getLast_drop]
  exact h1
theorem trim_step {L : List Int} {k : Nat} (hk : k < L.length) (h0 : L[k] = 0) : val (L.take k) = val (L.take (k + 1)) := by
  rw [val_take_succ hk, h0]; simp
theorem trim_end {L : List Int} (h : Lim L) {n : Nat} (hn : n ≤ L.length) (hv : val (L.take n) = val L) (h0 : ∀ k (hk : k < L.length), n = k + 1 → L[k] ≠ 0) : L.take n = rep (val L).toNat := by
  rw [← hv, rep_val (Can_take h hn h0)]

/-- A list is a natural number of at most 60 limbs. -/
def nok (L : List Int) : Bool := decide (L.length ≤ 60) && (L.all fun x => decide (0 ≤ x) && decide (x < 1000000000)) && decide (∀ h : L ≠ [], L.getLast h ≠ 0)
theorem nok_iff {L : List Int} : nok L = true ↔ L.length ≤ 60 ∧ Can L := by
  simp only [nok, Can, Lim, Bool.and_eq_true, decide_eq_true_eq, List.all_eq_true]
  constructor
  · rintro ⟨⟨a, b⟩, c⟩; exact ⟨a, b, c⟩
  · rintro ⟨a, b, c⟩; exact ⟨⟨a, b⟩, c⟩
theorem nok_no_len {L : List Int} (h : 60 < L.length) : nok L = false := by
  cases e : nok L
  · rfl
  · have := nok_iff.1 e; omega
theorem nok_no_at {L : List Int} {i : Nat} (hi : i < L.length) (h : L[i] < 0 ∨ 1000000000 ≤ L[i]) : nok L = false := by
  cases e : nok L
  · rfl
  · have := Lim_at (nok_iff.1 e).2.1 hi; omega
theorem nok_no_last {L : List Int} {n : Nat} (hn : L.length = n + 1) (h : ∀ hi : n < L.length, L[n] = 0) : nok L = false := by
  cases e : nok L
  · rfl
  · have hne : L ≠ [] := by intro e; subst e; simp at hn
    have := (nok_iff.1 e).2.2 hne
    rw [List.getLast_eq_getElem] at this
    exact absurd (by simpa [hn] using h (by omega)) this
theorem nok_yes {L : List Int} (hl : L.length ≤ 60) (h : ∀ i (hi : i < L.length), 0 ≤ L[i] ∧ L[i] < 1000000000) (h0 : ∀ n (hi : n < L.length), L.length = n + 1 → L[n] ≠ 0) : nok L = true := by
  refine nok_iff.2 ⟨hl, fun x hx => ?_, fun hne => ?_⟩
  · obtain ⟨i, hi, rfl⟩ := List.getElem_of_mem hx
    exact h i hi
  · have := List.length_pos_iff.mpr hne
    rw [List.getLast_eq_getElem]
    exact h0 _ _ (by omega)

def sgn (x : Int) : Int := if x < 0 then -1 else if 0 < x then 1 else 0
/-- The comparison of two lists of limbs, as both programs compute it: of the first k limbs, from the top. -/
def cmpTo (A B : List Int) : Nat → Int
  | 0 => 0
  | k + 1 => if A.getD k 0 < B.getD k 0 then -1 else if B.getD k 0 < A.getD k 0 then 1 else cmpTo A B k
def cmpL (A B : List Int) : Int := if A.length < B.length then -1 else if B.length < A.length then 1 else cmpTo A B A.length
theorem cmpTo_val {A B : List Int} (hA : Lim A) (hB : Lim B) : ∀ k, k ≤ A.length → k ≤ B.length → cmpTo A B k = sgn (val (A.take k) - val (B.take k))
  | 0, _, _ => by simp [cmpTo, sgn, val]
  | k + 1, h1, h2 => by
    have hp := pw_pos k
    have ea : A.getD k 0 = A[k] := by simp [show k < A.length by omega]
    have eb : B.getD k 0 = B[k] := by simp [show k < B.length by omega]
    have la := val_lt (Lim_take hA k)
    have lb := val_lt (Lim_take hB k)
    have na := val_nonneg (Lim_take hA k)
    have nb := val_nonneg (Lim_take hB k)
    rw [List.length_take, Nat.min_eq_left (by omega)] at la lb
    rw [val_take_succ (show k < A.length by omega), val_take_succ (show k < B.length by omega)]
    simp only [cmpTo, ea, eb]
    split
    · next hlt =>
      have : pw k * (A[k] + 1) ≤ pw k * B[k] := Int.mul_le_mul_of_nonneg_left (by omega) (by omega)
      rw [Int.mul_add] at this
      unfold sgn
      rw [if_pos (by omega)]
    · split
      · next _ hlt =>
        have : pw k * (B[k] + 1) ≤ pw k * A[k] := Int.mul_le_mul_of_nonneg_left (by omega) (by omega)
        rw [Int.mul_add] at this
        unfold sgn
        rw [if_neg (by omega), if_pos (by omega)]
      · rw [cmpTo_val hA hB k (by omega) (by omega)]
        have e : A[k] = B[k] := by omega
        rw [e]
        congr 1
        omega
theorem cmpL_val {A B : List Int} (hA : Can A) (hB : Can B) : cmpL A B = sgn (val A - val B) := by
  unfold cmpL
  split
  · next h =>
    have h1 := val_lt hA.1
    have h2 := Can_ge hB (by intro e; subst e; simp at h)
    have h3 := pw_le (m := A.length) (n := B.length - 1) (by omega)
    unfold sgn; rw [if_pos (by omega)]
  · split
    · next h =>
      have h1 := val_lt hB.1
      have h2 := Can_ge hA (by intro e; subst e; simp at h)
      have h3 := pw_le (m := B.length) (n := A.length - 1) (by omega)
      unfold sgn; rw [if_neg (by omega), if_pos (by omega)]
    · have e : A.length = B.length := by omega
      rw [cmpTo_val hA.1 hB.1 _ (Nat.le_refl _) (by omega), List.take_length, e, List.take_length]
theorem cmpTo_lt {A B : List Int} {k : Nat} (ha : k < A.length) (hb : k < B.length) (h : A[k] < B[k]) : cmpTo A B (k + 1) = -1 := by
  simp [cmpTo, ha, hb, h]
theorem cmpTo_gt {A B : List Int} {k : Nat} (ha : k < A.length) (hb : k < B.length) (h : B[k] < A[k]) : cmpTo A B (k + 1) = 1 := by
  have : ¬ A[k] < B[k] := by omega
  simp [cmpTo, ha, hb, h, this]
theorem cmpTo_eq {A B : List Int} {k : Nat} (ha : k < A.length) (hb : k < B.length) (h : A[k] = B[k]) : cmpTo A B (k + 1) = cmpTo A B k := by
  simp [cmpTo, ha, hb, h]
theorem cmpL_lt {A B : List Int} (h : A.length < B.length) : cmpL A B = -1 := by simp [cmpL, h]
theorem cmpL_gt {A B : List Int} (h : B.length < A.length) : cmpL A B = 1 := by
  have : ¬ A.length < B.length := by omega
  simp [cmpL, h, this]
theorem cmpL_same {A B : List Int} (h : A.length = B.length) : cmpL A B = cmpTo A B A.length := by simp [cmpL, h]
theorem sgn_cases (x : Int) : (x < 0 ∧ sgn x = -1) ∨ (x = 0 ∧ sgn x = 0) ∨ (0 < x ∧ sgn x = 1) := by
  unfold sgn
  by_cases h : x < 0
  · exact .inl ⟨h, by simp [h]⟩
  · by_cases h2 : 0 < x
    · exact .inr (.inr ⟨h2, by simp [h, h2]⟩)
    · exact .inr (.inl ⟨by omega, by simp [h, h2]⟩)
/-- What has more than 60 limbs is no result. -/
def capped (n : Int) : List Int := if n < pw 60 then rep n.toNat else []
theorem capped_yes {n : Int} (h : (rep n.toNat).length ≤ 60) (h0 : 0 ≤ n) : capped n = rep n.toNat := by
  have h1 := (Can_len (Can_rep n.toNat) (k := 60)).1 h
  rw [val_rep] at h1
  unfold capped
  rw [if_pos (by omega)]
theorem capped_no {n : Int} (h : 60 < (rep n.toNat).length) (h0 : 0 ≤ n) : capped n = [] := by
  unfold capped
  rw [if_neg]
  intro hlt
  have h1 := (Can_len (Can_rep n.toNat) (k := 60)).2 (by rw [val_rep]; omega)
  omega
end Go.Proofs.Yteanocjkdehhgaa

/- Slices of ints: a slice that reads as a list; a row of the call's own; what a call leaves as it was. -/
namespace Go.Proofs.Yteanocjkdehhgaa
open Go.RowKit
open Go.Lib (hid)

theorem Try.info3 : (Try.prog.info? 3).map (fun i => (i.zero, i.size, i.bytes)) = some (some (.int .i64 0), 1, 8) := by kernel_rfl

/-- A slice value that reads as the ints L, from place o of block g on. -/
def RowI (w : World) (a : Option Addr) (n : Nat) (L : List Int) : Prop :=
  n = L.length ∧ (0 < L.length → ∃ g o, a = some ⟨g, o, none⟩ ∧ g < w.heap.size ∧ ∀ i (h : i < L.length), w.cell? ⟨g, o + i, none⟩ = some (.int .i64 L[i]))
/-- The slice does not lie in the blocks S. -/
def Apart (S : Nat → Prop) (a : Option Addr) : Prop := ∀ x, a = some x → ¬ S x.block
/-- Nothing has changed but the blocks S. -/
structure Only (S : Nat → Prop) (w w' : World) : Prop where
  os : w'.os = w.os
  tape : w'.tape = w.tape
  output : w'.output = w.output
  size : w.heap.size ≤ w'.heap.size
  block : ∀ k, ¬ S k → w'.heap[k]? = w.heap[k]?
theorem Only.refl (S : Nat → Prop) (w : World) : Only S w w := ⟨rfl, rfl, rfl, Nat.le_refl _, fun _ _ => rfl⟩
theorem Only.trans {S : Nat → Prop} {a b c : World} (h : Only S a b) (k : Only S b c) : Only S a c :=
  ⟨k.os.trans h.os, k.tape.trans h.tape, k.output.trans h.output, Nat.le_trans h.size k.size, fun i hi => (k.block i hi).trans (h.block i hi)⟩
theorem Only.drewN {S : Nat → Prop} {a w : World} (h : Only S a w) (n : Nat) : Only S a (w.drewN n) := ⟨h.os, h.tape, h.output, h.size, h.block⟩
theorem Only.below {S : Nat → Prop} {w w' : World} {B : Nat} (h : Only S w w') (hB : ∀ k, k < B → ¬ S k) : Below B w w' := ⟨h.os, h.tape, h.output, h.size, fun k hk => h.block k (hB k hk)⟩
theorem Only.of_below {S : Nat → Prop} {w w' : World} {B : Nat} (h : Below B w w') (hB : ∀ k, B ≤ k → S k) : Only S w w' :=
  ⟨h.os, h.tape, h.output, h.size, fun k hk => h.block k (Nat.lt_of_not_le fun hb => hk (hB k hb))⟩
theorem Only.alloc {S : Nat → Prop} {a w : World} (h : Only S a w) (hS : S w.heap.size) (o : Obj) : Only S a (w.alloc o) :=
  h.trans ⟨rfl, rfl, rfl, by simp, fun k hk => by
    have hne : k ≠ w.heap.size := fun e => hk (by rw [e]; exact hS)
    show (w.heap.push o)[k]? = _
    rw [Array.getElem?_push, if_neg hne]⟩
theorem Only.setCell {S : Nat → Prop} {a w : World} (h : Only S a w) {p : Addr} (hp : S p.block) (u : Value) : Only S a (w.setCell p u) :=
  h.trans ⟨rfl, rfl, rfl, by simp [World.setCell], fun k hk => Below.heap_setCell _ _ _ _ (fun e => hk (by rw [e]; exact hp))⟩
theorem Only.grown {S : Nat → Prop} {a w w' : World} {row : Option Nat} (h : Only S a w) (hg : w.grownBy w' row) (hS : ∀ k, w.heap.size ≤ k → S k) (hr : ∀ k, row = some k → S k) : Only S a w' :=
  h.trans ⟨hg.os, hg.tape, hg.output, hg.size, fun k hk => hg.block k (Nat.lt_of_not_le fun hb => hk (hS k hb)) (fun e => hk (hr k e.symm))⟩
theorem Only.mono {S S' : Nat → Prop} {w w' : World} (h : Only S w w') (hS : ∀ k, S k → S' k) : Only S' w w' :=
  ⟨h.os, h.tape, h.output, h.size, fun k hk => h.block k (fun hs => hk (hS k hs))⟩
theorem Only.cell {S : Nat → Prop} {w w' : World} (h : Only S w w') {p : Addr} (hp : ¬ S p.block) : w'.cell? p = w.cell? p := World.cell?_of_block (w := w) (h.block p.block hp)

theorem RowI_nil (w : World) (a : Option Addr) : RowI w a 0 [] := ⟨rfl, fun h => by cases h⟩
theorem RowI_only {S : Nat → Prop} {w w' : World} {a : Option Addr} {n : Nat} {L : List Int} (h : RowI w a n L) (ho : Only S w w') (ha : Apart S a) : RowI w' a n L := by
  refine ⟨h.1, fun h0 => ?_⟩
  obtain ⟨g, o, rfl, hg, hc⟩ := h.2 h0
  exact ⟨g, o, rfl, Nat.lt_of_lt_of_le hg ho.size, fun i hi => (ho.cell (p := ⟨g, o + i, none⟩) (ha ⟨g, o, none⟩ rfl)).trans (hc i hi)⟩
theorem RowI_below {B : Nat} {w w' : World} {a : Option Addr} {n : Nat} {L : List Int} (h : RowI w a n L) (ho : Below B w w') (ha : ∀ x, a = some x → x.block < B) : RowI w' a n L := by
  refine ⟨h.1, fun h0 => ?_⟩
  obtain ⟨g, o, rfl, hg, hc⟩ := h.2 h0
  exact ⟨g, o, rfl, Nat.lt_of_lt_of_le hg ho.size, fun i hi => (ho.cell (p := ⟨g, o + i, none⟩) (ha ⟨g, o, none⟩ rfl)).trans (hc i hi)⟩
theorem RowI_drewN {w : World} {a : Option Addr} {n : Nat} {L : List Int} (h : RowI w a n L) (d : Nat) : RowI (w.drewN d) a n L := h
/-- What came in stays as it was. -/
theorem RowI_old {w w' : World} {a : Option Addr} {n : Nat} {L : List Int} (h : RowI w a n L) (ho : Below w.heap.size w w') : RowI w' a n L := by
  refine ⟨h.1, fun h0 => ?_⟩
  obtain ⟨g, o, rfl, hg, hc⟩ := h.2 h0
  exact ⟨g, o, rfl, Nat.lt_of_lt_of_le hg ho.size, fun i hi => (ho.cell (p := ⟨g, o + i, none⟩) hg).trans (hc i hi)⟩

/-- The slice v is a row of the call's own, from block B on, and holds the ints L. -/
def Ints (w : World) (B : Nat) (v : Value) (L : List Int) : Prop := w.ownsRow B 3 1 v L.length (L.map (Value.int .i64))
theorem Ints_nil (w : World) (B : Nat) : Ints w B (.slice none 0 0) [] := World.ownsRow_nil _ _ _ _
theorem Ints_base {w : World} {B B' : Nat} {v : Value} {L : List Int} (h : Ints w B v L) (hB : B' ≤ B) : Ints w B' v L := by
  refine ⟨h.1, ?_⟩
  rcases h.2 with g | ⟨b, cap, cur, h1, h2, h3⟩
  · exact .inl g
  · exact .inr ⟨b, cap, cur, h1, Nat.le_trans hB h2, h3⟩
theorem Ints_cases {w : World} {B : Nat} {v : Value} {L : List Int} (h : Ints w B v L) :
    (v = .slice none 0 0 ∧ L = []) ∨ ∃ g cap, v = .slice (some ⟨g, 0, none⟩) L.length cap ∧ B ≤ g ∧ g < w.heap.size ∧ L.length ≤ cap := by
  rcases h.2 with ⟨h1, h2⟩ | ⟨g, cap, cur, h1, h2, h3, h4, _⟩
  · exact .inl ⟨h1, List.length_eq_zero_iff.mp h2⟩
  · exact .inr ⟨g, cap, h1, h2, (Array.getElem?_eq_some_iff.1 h3).1, h4⟩
theorem Ints_num {w : World} {B g n cap : Nat} {L : List Int} (h : Ints w B (.slice (some ⟨g, 0, none⟩) n cap) L) : n = L.length := by
  rcases h.2 with ⟨h1, _⟩ | ⟨g', cap', cur, h1, _⟩
  · simp at h1
  · simp at h1; exact h1.2.1
theorem Ints_cell {w : World} {B g n cap : Nat} {L : List Int} (h : Ints w B (.slice (some ⟨g, 0, none⟩) n cap) L) {i : Nat} (hi : i < L.length) : w.cell? ⟨g, i, none⟩ = some (.int .i64 L[i]) := by
  have hn := Ints_num h
  subst hn
  rw [World.ownsRow.cellAt h i (by omega)]
  simp [hi]
theorem Ints_free {w : World} {B g n cap : Nat} {L : List Int} (h : Ints w B (.slice (some ⟨g, 0, none⟩) n cap) L) (i : Nat) : w.frozen? ⟨g, i, none⟩ = false := by
  have hn := Ints_num h
  subst hn
  exact World.ownsRow.frozenAt h i
theorem Ints_store {w : World} {B g n cap : Nat} {L : List Int} (h : Ints w B (.slice (some ⟨g, 0, none⟩) n cap) L) {i : Nat} (x : Int) :
    Ints (w.setCell ⟨g, i, none⟩ (.int .i64 x)) B (.slice (some ⟨g, 0, none⟩) n cap) (L.set i x) := by
  have hn := Ints_num h
  subst hn
  have := World.ownsRow.stored h i (.int .i64 x)
  unfold Ints
  rw [List.length_set, List.map_set]
  exact this.1
theorem Ints_block {w w' : World} {B : Nat} {v : Value} {L : List Int} (h : Ints w B v L) (hb : ∀ k, v.ownBlock = some k → w'.heap[k]? = w.heap[k]?) : Ints w' B v L := by
  refine ⟨h.1, ?_⟩
  rcases h.2 with g | ⟨b, cap, cur, h1, h2, h3, h4⟩
  · exact .inl g
  · exact .inr ⟨b, cap, cur, h1, h2, (hb b (by rw [h1]; rfl)).trans h3, h4⟩
theorem Ints_below {w w' : World} {B B' : Nat} {v : Value} {L : List Int} (h : Ints w B v L) (hb : Below B' w w') (hg : ∀ k, v.ownBlock = some k → k < B') : Ints w' B v L := Ints_block h fun k hk => hb.block k (hg k hk)
theorem Ints_only {S : Nat → Prop} {w w' : World} {B : Nat} {v : Value} {L : List Int} (h : Ints w B v L) (hb : Only S w w') (hg : ∀ k, v.ownBlock = some k → ¬ S k) : Ints w' B v L := Ints_block h fun k hk => hb.block k (hg k hk)
theorem Ints_lt {w : World} {B : Nat} {v : Value} {L : List Int} (h : Ints w B v L) : ∀ k, v.ownBlock = some k → B ≤ k ∧ k < w.heap.size := by
  intro k hk
  rcases Ints_cases h with ⟨rfl, _⟩ | ⟨g, cap, rfl, h1, h2, _⟩
  · simp [Value.ownBlock] at hk
  · simp [Value.ownBlock] at hk; omega
theorem Ints_len {w : World} {B : Nat} {v : Value} {L : List Int} (h : Ints w B v L) : L.length ≤ maxLen := by
  rcases h.2 with ⟨_, h2⟩ | ⟨b, cap, cur, h1, h2, h3, h4, h5, _⟩ <;> omega
/-- A row of one's own is a slice that reads as its list. -/
theorem Ints_form {w : World} {B : Nat} {v : Value} {L : List Int} (h : Ints w B v L) : ∃ a c, v = .slice a L.length c ∧ L.length ≤ c ∧ RowI w a L.length L ∧ (∀ x, a = some x → B ≤ x.block ∧ x.block < w.heap.size) := by
  rcases Ints_cases h with ⟨rfl, rfl⟩ | ⟨g, cap, rfl, h1, h2, h3⟩
  · exact ⟨none, 0, rfl, Nat.le_refl _, RowI_nil _ _, fun x hx => by cases hx⟩
  · exact ⟨_, cap, rfl, h3, ⟨rfl, fun _ => ⟨g, 0, rfl, h2, fun i hi => by rw [Nat.zero_add]; exact Ints_cell h hi⟩⟩, fun x hx => by cases hx; exact ⟨h1, h2⟩⟩
theorem Ints_made {w : World} {B : Nat} (h : B ≤ w.heap.size) (n : Nat) (hn : n ≤ maxLen) : Ints (w.alloc (.cells (madeCells #[.int .i64 0] n) 3)) B (.slice (some ⟨w.heap.size, 0, none⟩) n n) (List.replicate n 0) := by
  refine ⟨by simp, .inr ⟨w.heap.size, n, _, by simp, h, heap_alloc_new w _, by simp, hn, by simp [madeCells], ?_⟩⟩
  rw [toList_madeCells_one]
  simp
theorem Ints_snoc {w : World} {B : Nat} {v : Value} {L : List Int} {x : Int} (h : w.ownsRow B 3 1 v (L.length + 1) (L.map (Value.int .i64) ++ [.int .i64 x])) : Ints w B v (L ++ [x]) := by
  unfold Ints
  simpa using h
/-- What the function returns: a slice of its own that reads as L, nothing old has changed. -/
def OwnP (L : List Int) (w : World) (e : Ending) (w' : World) : Prop := ∃ v, e = .returned v ∧ Ints w' w.heap.size v L ∧ Below w.heap.size w w'
theorem OwnP_mk {L : List Int} {w w' : World} {e : Ending} {v : Value} {B : Nat} (hB : B = w.heap.size) (he : e = .returned v) (h : Ints w' B v L) (hb : Below B w w') : OwnP L w e w' := by
  subst hB; exact ⟨v, he, h, hb⟩
end Go.Proofs.Yteanocjkdehhgaa

/- The helpers of the exact laws over slices of ints: a copy, two that hold the same are equal, what was marked is held. -/
namespace Go.Proofs.Yteanocjkdehhgaa
open Go.RowKit
open Go.Lib (hid)

def Drawn (r : Value) (w : World) (e : Ending) (w' : World) : Prop := e = .returned r ∧ ∃ d, w' = w.drewN d

set_option maxRecDepth 100000 in
set_option maxHeartbeats 800000 in
theorem eqIntS_same (a1 a2 : Option Addr) (n1 n2 c1 c2 : Nat) (L : List Int) (hL : L.length ≤ 1073741824) (w : World) (h1 : RowI w a1 n1 L) (h2 : RowI w a2 n2 L) :
    Calls Try.prog 97 #[.slice a1 n1 c1, .slice a2 n2 c2] w (Drawn (.bool true) w) := by
  obtain ⟨rfl, H1⟩ := h1
  obtain ⟨rfl, H2⟩ := h2
  have G1 := hid H1
  have G2 := hid H2
  clear H1 H2
  go_enter Try.func97, Try.ntmps97
  go_wp2
  go_loopw [5] (fun i wr => ∃ (k d : Nat), k ≤ L.length ∧ i = .int .i64 k ∧ wr = w.drewN d) (fun i _ => L.length - (intOf i).toNat)
  case atStart => exact ⟨0, 0, Nat.zero_le _, rfl, rfl⟩
  case round =>
    obtain ⟨k, d, hk, rfl, rfl⟩ := hrel
    by_cases hlt : k < L.length
    · obtain ⟨g1, o1, rfl, _, hc1⟩ := G1.out (by omega)
      obtain ⟨g2, o2, rfl, _, hc2⟩ := G2.out (by omega)
      clear G1 G2
      have q1 := hc1 k hlt
      have q2 := hc2 k hlt
      clear hc1 hc2
      have a1 : (0 : Int) ≤ k := by omega
      have a2 : (k : Int) < L.length := by omega
      go_wp2
      go_quiet (fail)
      go_wp2
      go_roundw
      case rel => exact ⟨k + 1, d + nq, by omega, by go_num, by first | rfl | exact World.drewN_drewN _ _ _⟩
      case measure => simp [intOf]; omega
    · go_wp2
      go_ret
      exact ⟨rfl, d, rfl⟩

def marks (n : Nat) (m : Int) : List Int := (List.range n).map fun i : Nat => m + (i : Int)
theorem marks_len (n : Nat) (m : Int) : (marks n m).length = n := by simp [marks]
theorem marks_at {n i : Nat} {m : Int} (h : i < (marks n m).length) : (marks n m)[i] = m + (i : Int) := by simp [marks]
/-- The list L with its first k places marked. -/
def marked (L : List Int) (m : Int) (k : Nat) : List Int := marks k m ++ L.drop k
theorem marked_zero (L : List Int) (m : Int) : marked L m 0 = L := by simp [marked, marks]
theorem marked_len {L : List Int} {m : Int} {k : Nat} (h : k ≤ L.length) : (marked L m k).length = L.length := by simp [marked, marks_len]; omega
theorem marked_all (L : List Int) (m : Int) : marked L m L.length = marks L.length m := by simp [marked]
theorem marked_set {L : List Int} {m : Int} {k : Nat} (h : k < L.length) : (marked L m k).set k (m + (k : Int)) = marked L m (k + 1) := by
  apply List.ext_getElem
  · simp [marked, marks_len]; omega
  · intro i h1 h2
    by_cases e : i = k
    · subst e
      simp [marked, marks]
    · rw [List.getElem_set_ne (Ne.symm e)]
      simp only [marked, List.getElem_append, marks_len]
      by_cases h3 : i < k
      · have h4 : i < k + 1 := by omega
        simp [marks, h3, h4]
      · have h4 : ¬ i < k + 1 := by omega
        simp only [h3, h4, dif_neg, not_false_eq_true, List.getElem_drop]
        congr 1; omega

def MarkP (B : Nat) (v : Value) (n : Nat) (m : Int) (S : Nat → Prop) (w : World) (e : Ending) (w' : World) : Prop := e = .returned (.int .i64 (m + n)) ∧ Ints w' B v (marks n m) ∧ Only S w w'

set_option maxRecDepth 100000 in
set_option maxHeartbeats 800000 in
theorem markIntS_any (B : Nat) (v : Value) (L : List Int) (m : Int) (hL : L.length ≤ 1073741000) (m0 : 0 ≤ m) (m1 : m ≤ 1073741000) (S : Nat → Prop) (w : World) (hw : Ints w B v L) (hS : ∀ k, v.ownBlock = some k → S k) :
    Calls Try.prog 60 #[v, .int .i64 m] w (MarkP B v L.length m S w) := by
  have HW := hid hw
  have HS := hid hS
  obtain ⟨a, c, rfl, hc, -, -⟩ := Ints_form hw
  clear hw hS
  go_enter Try.func60, Try.ntmps60
  go_wp2
  go_loopw [1, 5] (fun x i wr => ∃ (k : Nat), k ≤ L.length ∧ i = .int .i64 k ∧ x = .int .i64 (m + k) ∧ Ints wr B (.slice a L.length c) (marked L m k) ∧ Only S w wr) (fun _ i _ => L.length - (intOf i).toNat)
  case atStart => exact ⟨0, Nat.zero_le _, rfl, by simp, by rw [marked_zero]; exact HW.out, Only.refl _ _⟩
  case round =>
    obtain ⟨k, hk, rfl, rfl, hown, hbel⟩ := hrel
    by_cases hlt : k < L.length
    · have a1 : (0 : Int) ≤ k := by omega
      have a2 : (k : Int) < L.length := by omega
      have hl := marked_len (L := L) (m := m) (k := k) (by omega)
      rcases Ints_cases hown with ⟨-, h0⟩ | ⟨g, c', he, -⟩
      · rw [h0] at hl; simp at hl; omega
      obtain ⟨rfl, -, rfl⟩ : a = some ⟨g, 0, none⟩ ∧ L.length = (marked L m k).length ∧ c = c' := by simpa using he
      clear he
      have hSg := HS.out g rfl
      have hcell := Ints_cell hown (i := k) (by omega)
      have hfree := Ints_free hown k
      have hst := hid (Ints_store hown (i := k) (m + (k : Int)))
      have hbel := hid (hbel.setCell (p := ⟨g, k, none⟩) hSg (.int .i64 (m + (k : Int))))
      clear hown
      go_wp2
      go_roundw
      case rel =>
        have hs := hst.out
        rw [marked_set hlt] at hs
        exact ⟨k + 1, by omega, by go_num, by rw [show ((k + 1 : Nat) : Int) = (k : Int) + 1 by omega, Int.add_assoc], hs, hbel.out⟩
      case measure => simp [intOf]; omega
    · obtain rfl : k = L.length := by omega
      go_wp2
      go_ret
      rw [marked_all] at hown
      exact ⟨rfl, hown, hbel⟩

set_option maxRecDepth 100000 in
set_option maxHeartbeats 800000 in
theorem heldIntS_any (a : Option Addr) (c n : Nat) (m : Int) (hn : n ≤ 1073741000) (m0 : 0 ≤ m) (m1 : m ≤ 1073741000) (w : World) (hw : RowI w a n (marks n m)) :
    Calls Try.prog 62 #[.slice a n c, .int .i64 m] w (Drawn (.int .i64 (m + n)) w) := by
  have HW := hid hw.2
  clear hw
  go_enter Try.func62, Try.ntmps62
  go_wp2
  go_loopw [1, 5] (fun x i wr => ∃ (k d : Nat), k ≤ n ∧ i = .int .i64 k ∧ x = .int .i64 (m + k) ∧ wr = w.drewN d) (fun _ i _ => n - (intOf i).toNat)
  case atStart => exact ⟨0, 0, Nat.zero_le _, rfl, by simp, rfl⟩
  case round =>
    obtain ⟨k, d, hk, rfl, rfl, rfl⟩ := hrel
    by_cases hlt : k < n
    · obtain ⟨g, o, rfl, -, hc⟩ := HW.out (by rw [marks_len]; omega)
      have a1 : (0 : Int) ≤ k := by omega
      have a2 : (k : Int) < n := by omega
      have q1 := hc k (by rw [marks_len]; omega)
      rw [marks_at] at q1
      clear hc
      go_wp2
      first
        | go_quiet (fail)
          go_wp2
        | skip
      go_roundw
      case rel =>
        exact ⟨k + 1, d, by omega, by go_num, by rw [show ((k + 1 : Nat) : Int) = (k : Int) + 1 by omega, Int.add_assoc], rfl⟩
      case measure => simp [intOf]; omega
    · obtain rfl : k = n := by omega
      go_wp2
      go_ret
      exact ⟨rfl, d, rfl⟩

set_option maxRecDepth 100000 in
set_option maxHeartbeats 800000 in
theorem toIntS_any (a : Option Addr) (n c : Nat) (L : List Int) (hL : L.length ≤ 1073741824) (w : World) (h1 : RowI w a n L) :
    Calls Try.prog 94 #[.slice a n c] w (OwnP L w) := by
  obtain ⟨rfl, H1⟩ := h1
  have G1 := hid H1
  clear H1
  go_enter Try.func94, Try.ntmps94
  have hmk := fun W => run_make_row' (P := Try.prog) 22 3 (.int .i64 0) 8 Try.underlying22 Try.info3 rfl .i64 .i64 L.length (by omega) (by omega) W
  have ha : Below w.heap.size w (w.alloc (.cells (madeCells #[.int .i64 0] L.length) 3)) := (Below.refl _ _).alloc (Nat.le_refl _) _
  have HM := hid (Ints_made (w := w) (Nat.le_refl _) L.length (by unfold maxLen; omega))
  have HA := hid ha
  clear ha
  go_wp2
  clear hmk
  generalize w.alloc (.cells (madeCells #[.int .i64 0] L.length) 3) = w1 at HM HA ⊢
  obtain ⟨g, hg⟩ : ∃ g, g = w.heap.size := ⟨_, rfl⟩
  have HG := hid hg
  rw [← hg] at HM HA
  rw [← hg]
  clear hg
  go_loopw [4] (fun i wr => ∃ (k : Nat), k ≤ L.length ∧ i = .int .i64 k ∧ Ints wr g (.slice (some ⟨g, 0, none⟩) L.length L.length) (L.take k ++ List.replicate (L.length - k) 0) ∧ Below g w wr) (fun i _ => L.length - (intOf i).toNat)
  case atStart => exact ⟨0, Nat.zero_le _, rfl, by simpa using HM.out, HA.out⟩
  case round =>
    obtain ⟨k, hk, rfl, hown, hbel⟩ := hrel
    by_cases hlt : k < L.length
    · obtain ⟨g1, o1, rfl, hg1, hc1⟩ := G1.out (by omega)
      have q1 : wr.cell? ⟨g1, o1 + k, none⟩ = some (.int .i64 L[k]) := (hbel.cell (p := ⟨g1, o1 + k, none⟩) (by have := HG.out; simp; omega)).trans (hc1 k hlt)
      clear hc1
      have a1 : (0 : Int) ≤ k := by omega
      have a2 : (k : Int) < L.length := by omega
      have hl : (L.take k ++ List.replicate (L.length - k) 0).length = L.length := by simp; omega
      have hcell := Ints_cell hown (i := k) (by omega)
      have hfree := Ints_free hown k
      have hst := hid (Ints_store hown (i := k) L[k])
      have hbel := hid (hbel.setCell (p := ⟨g, k, none⟩) (Nat.le_refl _) (.int .i64 L[k]))
      clear hown
      go_wp2
      go_roundw
      case rel =>
        have hs := hst.out
        have e : (L.take k ++ List.replicate (L.length - k) 0).set k L[k] = L.take (k + 1) ++ List.replicate (L.length - (k + 1)) 0 := by
          apply List.ext_getElem
          · simp; omega
          · intro i h1 h2
            simp only [List.getElem_set, List.getElem_append, List.length_take, List.getElem_take, List.getElem_replicate]
            split
            · next e => subst e; rw [dif_pos (by omega)]
            · by_cases h3 : i < k
              · rw [dif_pos (by omega), dif_pos (by omega)]
              · rw [dif_neg (by omega), dif_neg (by omega)]
        rw [e] at hs
        exact ⟨k + 1, by omega, by go_num, hs, hbel.out⟩
      case measure => simp [intOf]; omega
    · obtain rfl : k = L.length := by omega
      go_wp2
      go_ret
      have hs := hown
      rw [List.take_length, Nat.sub_self, List.replicate_zero, List.append_nil] at hs
      exact OwnP_mk HG.out rfl hs hbel
end Go.Proofs.Yteanocjkdehhgaa

/- What the programs read of numbers in limbs: whether a list is one, how two compare, the int that it is. -/
namespace Go.Proofs.Yteanocjkdehhgaa
open Go.RowKit
open Go.Lib (hid)
set_option linter.unusedVariables false

theorem ret_bool {a b : Bool} (h : a = b) : Ending.returned (.bool a) = .returned (.bool b) := by rw [h]
theorem ret_int {a b : Int} (h : a = b) : Ending.returned (.int .i64 a) = .returned (.int .i64 b) := by rw [h]

set_option maxRecDepth 100000 in
set_option maxHeartbeats 800000 in
theorem impl_NatOk (a : Option Addr) (n c : Nat) (L : List Int) (hL : L.length ≤ 1073741824) (w : World) (h1 : RowI w a n L) :
    Calls Try.prog 137 #[.slice a n c] w fun e w' => e = .returned (.bool (nok L)) ∧ w = w' := by
  obtain ⟨rfl, H1⟩ := h1
  have G1 := hid H1
  clear H1
  obtain ⟨b, hb⟩ : ∃ b, b = nok L := ⟨_, rfl⟩
  have HB := hid hb
  rw [← hb]
  clear hb
  by_cases hl : 60 < L.length
  · have hF := hid (HB.out.trans (nok_no_len hl))
    have hl' : (60 : Int) < L.length := by omega
    go_enter Try.func137, Try.ntmps137
    go_wp2
    go_ret
    exact ⟨ret_bool hF.out.symm, rfl⟩
  have hl' : (L.length : Int) ≤ 60 := by omega
  go_enter Try.func137, Try.ntmps137
  go_wp2
  go_loop [10] (fun i => ∃ (k : Nat), k ≤ L.length ∧ i = .int .i64 k ∧ Hid (∀ j (hj : j < L.length), j < k → 0 ≤ L[j] ∧ L[j] < 1000000000)) (fun i => L.length - (intOf i).toNat)
  case atStart => exact ⟨0, Nat.zero_le _, rfl, hid fun j _ h => by omega⟩
  case round =>
    obtain ⟨k, hk, rfl, hin⟩ := hrel
    by_cases hlt : k < L.length
    · obtain ⟨g1, o1, rfl, _, hc1⟩ := G1.out (by omega)
      have q1 := hc1 k hlt
      clear hc1
      have a1 : (0 : Int) ≤ k := by omega
      have a2 : (k : Int) < L.length := by omega
      by_cases hr : L[k] < 0 ∨ 1000000000 ≤ L[k]
      · have hF := hid (HB.out.trans (nok_no_at hlt hr))
        rcases hr with hr | hr
        · go_wp2
          go_ret
          exact ⟨ret_bool hF.out.symm, rfl⟩
        · have hr2 : ¬ L[k] < 0 := by omega
          go_wp2
          go_ret
          exact ⟨ret_bool hF.out.symm, rfl⟩
      · have hr2 : 0 ≤ L[k] := by omega
        have hr3 : L[k] < 1000000000 := by omega
        go_wp2
        go_round
        case rel => exact ⟨k + 1, by omega, by go_num, hid fun j hj h => if e : j = k then by subst e; exact ⟨hr2, hr3⟩ else hin.out j hj (by omega)⟩
        case measure => simp [intOf]; omega
    · obtain rfl : k = L.length := by omega
      by_cases h0 : L.length = 0
      · have hT := hid (HB.out.trans (nok_yes (by omega) (fun i hi => by omega) (fun n hi => by omega)))
        have h0' : (L.length : Int) = 0 := by omega
        go_wp2
        go_ret
        exact ⟨ret_bool hT.out.symm, rfl⟩
      · obtain ⟨g1, o1, rfl, _, hc1⟩ := G1.out (by omega)
        obtain ⟨m, hlm, hm⟩ : ∃ m, m < L.length ∧ L.length = m + 1 := ⟨L.length - 1, by omega, by omega⟩
        have q1 := hc1 m hlm
        clear hc1
        have hmm : ((L.length : Int) - 1).toNat = m := by omega
        have HMM := hid hm
        clear hm
        have hm0 : (1 : Int) ≤ L.length := by omega
        by_cases hz : L[m] = 0
        · have hF := hid (HB.out.trans (nok_no_last HMM.out (fun _ => hz)))
          go_wp2
          go_ret
          exact ⟨ret_bool (by rw [hF.out]; exact beq_eq_false_iff_ne.2 (by omega)), rfl⟩
        · have hz' : ∀ n (hi : n < L.length), L.length = n + 1 → L[n] ≠ 0 := by
            intro n hi e
            obtain rfl : n = m := by have := HMM.out; omega
            exact hz
          have hT := hid (HB.out.trans (nok_yes (by omega) (fun i hi => hin.out i hi hi) hz'))
          clear hz'
          go_wp2
          go_ret
          exact ⟨ret_bool (by rw [hT.out]; simp [hz]), rfl⟩

theorem l01In_yes (x : Int) (h0 : 0 ≤ x) (h1 : x < 1000000000) (w : World) : Calls Try.prog 76 #[.int .i64 x, .int .i64 0, .int .i64 999999999] w fun e w' => e = .returned (.bool true) ∧ w = w' := by
  have h2 : x ≤ 999999999 := by omega
  go_enter Try.func76, Try.ntmps76
  go_wp2
  go_ret
  exact ⟨rfl, rfl⟩
theorem l01In_no (x : Int) (h : x < 0 ∨ 1000000000 ≤ x) (w : World) : Calls Try.prog 76 #[.int .i64 x, .int .i64 0, .int .i64 999999999] w fun e w' => e = .returned (.bool false) ∧ w = w' := by
  rcases h with h | h
  · have h2 : ¬ 0 ≤ x := by omega
    go_enter Try.func76, Try.ntmps76
    go_wp2
    go_ret
    exact ⟨rfl, rfl⟩
  · have h2 : 0 ≤ x := by omega
    have h3 : ¬ x ≤ 999999999 := by omega
    go_enter Try.func76, Try.ntmps76
    go_wp2
    go_ret
    exact ⟨rfl, rfl⟩

set_option maxRecDepth 100000 in
set_option maxHeartbeats 800000 in
theorem spec_NatOk (a : Option Addr) (n c : Nat) (L : List Int) (hL : L.length ≤ 1073741824) (w : World) (h1 : RowI w a n L) :
    Calls Try.prog 125 #[.slice a n c] w fun e w' => e = .returned (.bool (nok L)) ∧ w = w' := by
  obtain ⟨rfl, H1⟩ := h1
  have G1 := hid H1
  clear H1
  obtain ⟨b, hb⟩ : ∃ b, b = nok L := ⟨_, rfl⟩
  have HB := hid hb
  rw [← hb]
  clear hb
  go_enter Try.func125, Try.ntmps125
  go_wp2
  go_loop [7] (fun i => ∃ (k : Nat), k ≤ L.length ∧ i = .int .i64 k ∧ Hid (∀ j (hj : j < L.length), j < k → 0 ≤ L[j] ∧ L[j] < 1000000000)) (fun i => L.length - (intOf i).toNat)
  case atStart => exact ⟨0, Nat.zero_le _, rfl, hid fun j _ h => by omega⟩
  case round =>
    obtain ⟨k, hk, rfl, hin⟩ := hrel
    by_cases hlt : k < L.length
    · obtain ⟨g1, o1, rfl, _, hc1⟩ := G1.out (by omega)
      have q1 := hc1 k hlt
      clear hc1
      have a1 : (0 : Int) ≤ k := by omega
      have a2 : (k : Int) < L.length := by omega
      by_cases hr : L[k] < 0 ∨ 1000000000 ≤ L[k]
      · have hF := hid (HB.out.trans (nok_no_at hlt hr))
        have K := hid (l01In_no L[k] hr)
        clear hr
        go_wp2_with fail
        refine (K.out _).mono ?_
        rintro e w1 ⟨rfl, rfl⟩
        go_wp2
        go_ret
        exact ⟨ret_bool hF.out.symm, rfl⟩
      · have hr2 : 0 ≤ L[k] := by omega
        have hr3 : L[k] < 1000000000 := by omega
        have K := hid (l01In_yes L[k] hr2 hr3)
        clear hr
        go_wp2_with fail
        refine (K.out _).mono ?_
        rintro e w1 ⟨rfl, rfl⟩
        go_wp2
        go_round
        case rel => exact ⟨k + 1, by omega, by go_num, hid fun j hj h => if e : j = k then by subst e; exact ⟨hr2, hr3⟩ else hin.out j hj (by omega)⟩
        case measure => simp [intOf]; omega
    · obtain rfl : k = L.length := by omega
      by_cases hl : 60 < L.length
      · have hF := hid (HB.out.trans (nok_no_len hl))
        have hl' : ¬ (L.length : Int) ≤ 60 := by omega
        go_wp2
        go_ret
        exact ⟨ret_bool hF.out.symm, rfl⟩
      have hl' : (L.length : Int) ≤ 60 := by omega
      by_cases h0 : L.length = 0
      · have hT := hid (HB.out.trans (nok_yes (by omega) (fun i hi => by omega) (fun n hi => by omega)))
        have h0' : (L.length : Int) = 0 := by omega
        go_wp2
        go_ret
        exact ⟨ret_bool hT.out.symm, rfl⟩
      · obtain ⟨g1, o1, rfl, _, hc1⟩ := G1.out (by omega)
        obtain ⟨m, hlm, hm⟩ : ∃ m, m < L.length ∧ L.length = m + 1 := ⟨L.length - 1, by omega, by omega⟩
        have q1 := hc1 m hlm
        clear hc1
        have hmm : ((L.length : Int) - 1).toNat = m := by omega
        have HMM := hid hm
        clear hm
        have hm0 : (1 : Int) ≤ L.length := by omega
        by_cases hz : L[m] = 0
        · have hF := hid (HB.out.trans (nok_no_last HMM.out (fun _ => hz)))
          go_wp2
          go_ret
          exact ⟨ret_bool (by rw [hF.out]; exact beq_eq_false_iff_ne.2 (by omega)), rfl⟩
        · have hz' : ∀ n (hi : n < L.length), L.length = n + 1 → L[n] ≠ 0 := by
            intro n hi e
            obtain rfl : n = m := by have := HMM.out; omega
            exact hz
          have hT := hid (HB.out.trans (nok_yes (by omega) (fun i hi => hin.out i hi hi) hz'))
          clear hz'
          go_wp2
          go_ret
          exact ⟨ret_bool (by rw [hT.out]; simp [hz]), rfl⟩

theorem isNaN_any (x : Int) (w : World) : Calls Try.prog 158 #[.int .i64 x] w fun e w' => e = .returned (.bool false) ∧ w = w' := by
  go_enter Try.func158, Try.ntmps158
  go_wp2
  go_ret
  exact ⟨rfl, rfl⟩
def cmpI (x y : Int) : Int := if x < y then -1 else if y < x then 1 else 0
theorem Compare_any (x y : Int) (w : World) : Calls Try.prog 150 #[.int .i64 x, .int .i64 y] w fun e w' => e = .returned (.int .i64 (cmpI x y)) ∧ w = w' := by
  have K := hid (isNaN_any x)
  have K2 := hid (isNaN_any y)
  obtain ⟨b, hb⟩ : ∃ b, b = cmpI x y := ⟨_, rfl⟩
  have HB := hid hb
  rw [← hb]
  clear hb
  by_cases h1 : x < y
  · have hE := hid (HB.out.trans (by simp [cmpI, h1] : cmpI x y = -1))
    go_enter Try.func150, Try.ntmps150
    go_wp2_with fail
    refine (K.out _).mono ?_
    rintro e w1 ⟨rfl, rfl⟩
    go_wp2_with fail
    refine (K2.out _).mono ?_
    rintro e w1 ⟨rfl, rfl⟩
    go_wp2
    go_ret
    exact ⟨ret_int hE.out.symm, rfl⟩
  · by_cases h2 : y < x
    · have hE := hid (HB.out.trans (by simp [cmpI, h1, h2] : cmpI x y = 1))
      go_enter Try.func150, Try.ntmps150
      go_wp2_with fail
      refine (K.out _).mono ?_
      rintro e w1 ⟨rfl, rfl⟩
      go_wp2_with fail
      refine (K2.out _).mono ?_
      rintro e w1 ⟨rfl, rfl⟩
      go_wp2
      go_ret
      exact ⟨ret_int hE.out.symm, rfl⟩
    · have hE := hid (HB.out.trans (by simp [cmpI, h1, h2] : cmpI x y = 0))
      go_enter Try.func150, Try.ntmps150
      go_wp2_with fail
      refine (K.out _).mono ?_
      rintro e w1 ⟨rfl, rfl⟩
      go_wp2_with fail
      refine (K2.out _).mono ?_
      rintro e w1 ⟨rfl, rfl⟩
      go_wp2
      go_ret
      exact ⟨ret_int hE.out.symm, rfl⟩

theorem quiet_add_left {P : Program} {f : FuncId} {args : Array Value} {w : World} {a n : Nat} {v : Value}
    (h : Calls P f args (w.drewN (a + n)) fun e w' => e = .returned v ∧ w.drewN (a + n) = w') :
    Calls P f args (w.drewN (a + n)) fun e w'' => e = .returned v ∧ ∃ m, w'' = w.drewN (a + m) :=
  h.mono fun _ _ ⟨he, hm⟩ => ⟨he, n, hm.symm⟩
/-- A call that only reads, and returns r. -/
def Drew (r : Value) (w : World) (e : Ending) (w' : World) : Prop := e = .returned r ∧ ∃ d, w' = w.drewN d

set_option maxRecDepth 100000 in
set_option maxHeartbeats 800000 in
theorem compareLimbs_any (a1 a2 : Option Addr) (n1 n2 c1 c2 : Nat) (A B : List Int) (hA : A.length ≤ 1073741824) (hB : B.length ≤ 1073741824) (w : World) (h1 : RowI w a1 n1 A) (h2 : RowI w a2 n2 B) :
    Calls Try.prog 140 #[.slice a1 n1 c1, .slice a2 n2 c2] w (Drew (.int .i64 (cmpL A B)) w) := by
  obtain ⟨rfl, H1⟩ := h1
  obtain ⟨rfl, H2⟩ := h2
  have G1 := hid H1
  have G2 := hid H2
  clear H1 H2
  obtain ⟨b, hb⟩ : ∃ b, b = cmpL A B := ⟨_, rfl⟩
  have HB := hid hb
  rw [← hb]
  clear hb
  have K := hid Compare_any
  by_cases hl : ¬ A.length = B.length
  · have hE := hid (HB.out.trans (show cmpL A B = cmpI A.length B.length by
      unfold cmpI
      rcases Nat.lt_or_ge A.length B.length with h | h
      · rw [cmpL_lt h, if_pos (by omega)]
      · rw [cmpL_gt (by omega), if_neg (by omega), if_pos (by omega)]))
    have hl' : ¬ (A.length : Int) = B.length := by omega
    clear hl
    go_enter Try.func140, Try.ntmps140
    go_wp2_with fail
    refine (K.out _ _ _).mono ?_
    rintro e w1 ⟨rfl, rfl⟩
    go_wp2
    go_ret
    exact ⟨ret_int hE.out.symm, 0, rfl⟩
  have hl : A.length = B.length := by omega
  have hl' : (A.length : Int) = B.length := by omega
  have HE := hid (HB.out.trans (cmpL_same hl))
  have HL := hid hl
  clear hl
  go_enter Try.func140, Try.ntmps140
  go_wp2
  clear hl'
  go_loopw [5] (fun i wr => ∃ (k d : Nat), k ≤ A.length ∧ i = .int .i64 ((k : Int) - 1) ∧ Hid (cmpTo A B k = b) ∧ wr = w.drewN d) (fun i _ => (intOf i + 1).toNat)
  case atStart => exact ⟨A.length, 0, Nat.le_refl _, by rw [HL.out], hid HE.out.symm, rfl⟩
  case round =>
    obtain ⟨k, d, hk, rfl, hc, rfl⟩ := hrel
    cases k with
    | zero =>
      have hE := hid (show b = 0 from hc.out.symm)
      go_wp2
      go_ret
      exact ⟨ret_int hE.out.symm, d, rfl⟩
    | succ k =>
      have hlt : k < A.length := by omega
      have hlt2 : k < B.length := by have := HL.out; omega
      obtain ⟨g1, o1, rfl, -, hc1⟩ := G1.out (by omega)
      obtain ⟨g2, o2, rfl, -, hc2⟩ := G2.out (by omega)
      clear G1 G2
      have q1 := hc1 k hlt
      have q2 := hc2 k hlt2
      clear hc1 hc2
      have e1 : ((k + 1 : Nat) : Int) - 1 = k := by omega
      rw [e1]
      clear e1
      have a1 : (0 : Int) ≤ k := by omega
      have a2 : (k : Int) < A.length := by omega
      have a3 : (k : Int) < B.length := by omega
      by_cases he : A[k] = B[k]
      · have hn := hid ((cmpTo_eq hlt hlt2 he).symm.trans hc.out)
        clear hc
        obtain ⟨x, hx⟩ : ∃ x, x = B[k] := ⟨_, rfl⟩
        rw [he, ← hx] at q1
        rw [← hx] at q2
        clear he hx
        go_wp2
        go_quiet (fail)
        go_wp2
        go_roundw
        case rel => exact ⟨k, d + nq, by omega, rfl, hn, by first | rfl | exact World.drewN_drewN _ _ _⟩
        case measure => simp [intOf]
      · have hE := hid (show b = cmpI A[k] B[k] by
          rw [← hc.out]; unfold cmpI
          by_cases h : A[k] < B[k]
          · rw [cmpTo_lt hlt hlt2 h, if_pos h]
          · rw [cmpTo_gt hlt hlt2 (by omega), if_neg h, if_pos (by omega)])
        clear hc
        obtain ⟨x, hx⟩ : ∃ x, x = A[k] := ⟨_, rfl⟩
        obtain ⟨y, hy⟩ : ∃ y, y = B[k] := ⟨_, rfl⟩
        rw [← hx] at q1 he hE
        rw [← hy] at q2 he hE
        clear hx hy
        go_wp2
        go_quiet (fail)
        go_wp2
        go_quiet ((go_at_call 150; exact quiet_add_left (K.out _ _ _)))
        go_wp2
        go_ret
        exact ⟨ret_int hE.out.symm, _, by rw [World.drewN_drewN, World.drewN_drewN]⟩

set_option maxRecDepth 100000 in
set_option maxHeartbeats 800000 in
theorem l02Cmp_any (a1 a2 : Option Addr) (n1 n2 c1 c2 : Nat) (A B : List Int) (hA : A.length ≤ 1073741824) (hB : B.length ≤ 1073741824) (w : World) (h1 : RowI w a1 n1 A) (h2 : RowI w a2 n2 B) :
    Calls Try.prog 142 #[.slice a1 n1 c1, .slice a2 n2 c2] w (Drew (.int .i64 (cmpL A B)) w) := by
  obtain ⟨rfl, H1⟩ := h1
  obtain ⟨rfl, H2⟩ := h2
  have G1 := hid H1
  have G2 := hid H2
  clear H1 H2
  obtain ⟨b, hb⟩ : ∃ b, b = cmpL A B := ⟨_, rfl⟩
  have HB := hid hb
  rw [← hb]
  clear hb
  by_cases hl : A.length < B.length
  · have hE := hid (HB.out.trans (cmpL_lt hl))
    have hl' : (A.length : Int) < B.length := by omega
    have hl2 : ¬ (A.length : Int) = B.length := by omega
    go_enter Try.func142, Try.ntmps142
    go_wp2
    go_ret
    exact ⟨ret_int hE.out.symm, 0, rfl⟩
  by_cases hl : B.length < A.length
  · have hE := hid (HB.out.trans (cmpL_gt hl))
    have hl' : ¬ (A.length : Int) < B.length := by omega
    have hl2 : ¬ (A.length : Int) = B.length := by omega
    go_enter Try.func142, Try.ntmps142
    go_wp2
    go_ret
    exact ⟨ret_int hE.out.symm, 0, rfl⟩
  have hl : A.length = B.length := by omega
  have hl' : (A.length : Int) = B.length := by omega
  have HE := hid (HB.out.trans (cmpL_same hl))
  have HL := hid hl
  clear hl
  go_enter Try.func142, Try.ntmps142
  go_wp2
  clear hl'
  go_loopw [5] (fun i wr => ∃ (k d : Nat), k ≤ A.length ∧ i = .int .i64 ((k : Int) - 1) ∧ Hid (cmpTo A B k = b) ∧ wr = w.drewN d) (fun i _ => (intOf i + 1).toNat)
  case atStart => exact ⟨A.length, 0, Nat.le_refl _, by rw [HL.out], hid HE.out.symm, rfl⟩
  case round =>
    obtain ⟨k, d, hk, rfl, hc, rfl⟩ := hrel
    cases k with
    | zero =>
      have hE := hid (show b = 0 from hc.out.symm)
      go_wp2
      go_ret
      exact ⟨ret_int hE.out.symm, d, rfl⟩
    | succ k =>
      have hlt : k < A.length := by omega
      have hlt2 : k < B.length := by have := HL.out; omega
      obtain ⟨g1, o1, rfl, -, hc1⟩ := G1.out (by omega)
      obtain ⟨g2, o2, rfl, -, hc2⟩ := G2.out (by omega)
      clear G1 G2
      have q1 := hc1 k hlt
      have q2 := hc2 k hlt2
      clear hc1 hc2
      have e1 : ((k + 1 : Nat) : Int) - 1 = k := by omega
      rw [e1]
      clear e1
      have a1 : (0 : Int) ≤ k := by omega
      have a2 : (k : Int) < A.length := by omega
      have a3 : (k : Int) < B.length := by omega
      have hcc : (A[k] < B[k] → b = -1) ∧ (B[k] < A[k] → b = 1) ∧ (A[k] = B[k] → cmpTo A B k = b) :=
        ⟨fun h => hc.out.symm.trans (cmpTo_lt hlt hlt2 h), fun h => hc.out.symm.trans (cmpTo_gt hlt hlt2 h), fun h => (cmpTo_eq hlt hlt2 h).symm.trans hc.out⟩
      have HC := hid hcc
      clear hcc hc
      obtain ⟨x, hx⟩ : ∃ x, x = A[k] := ⟨_, rfl⟩
      obtain ⟨y, hy⟩ : ∃ y, y = B[k] := ⟨_, rfl⟩
      rw [← hx] at q1 HC
      rw [← hy] at q2 HC
      clear hx hy
      by_cases h1 : x < y
      · have hE := hid (HC.out.1 h1)
        go_wp2
        go_quiet (fail)
        go_wp2
        go_ret
        exact ⟨ret_int hE.out.symm, _, by first | rfl | rw [World.drewN_drewN]⟩
      · by_cases h2 : y < x
        · have hE := hid (HC.out.2.1 h2)
          go_wp2
          go_quiet (fail)
          go_wp2
          go_quiet (fail)
          go_wp2
          go_ret
          exact ⟨ret_int hE.out.symm, _, by rw [World.drewN_drewN, World.drewN_drewN]⟩
        · have hn := hid (HC.out.2.2 (by omega))
          go_wp2
          go_quiet (fail)
          go_wp2
          go_quiet (fail)
          go_wp2
          go_roundw
          case rel => exact ⟨k, _, by omega, rfl, hn, by first | rfl | (rw [World.drewN_drewN]; done) | rw [World.drewN_drewN, World.drewN_drewN]⟩
          case measure => simp [intOf]

set_option maxRecDepth 100000 in
set_option maxHeartbeats 800000 in
theorem limbsToInt_any (a : Option Addr) (n c : Nat) (L : List Int) (hL : L.length ≤ 1073741824) (w : World) (h1 : RowI w a n L) (hl : Lim L) (hv : val L ≤ 9223372036854775807) :
    Calls Try.prog 157 #[.slice a n c] w fun e w' => e = .returned (.int .i64 (val L)) ∧ w = w' := by
  obtain ⟨rfl, H1⟩ := h1
  have G1 := hid H1
  have HLim := hid hl
  have HV := hid hv
  clear H1 hl hv
  go_enter Try.func157, Try.ntmps157
  go_wp2
  go_loop [3, 4] (fun x i => ∃ (k : Nat) (z : Int), k ≤ L.length ∧ i = .int .i64 ((k : Int) - 1) ∧ x = .int .i64 z ∧ Hid (z = val (L.drop k))) (fun _ i => (intOf i + 1).toNat)
  case atStart => exact ⟨L.length, 0, Nat.le_refl _, rfl, rfl, hid (val_drop_end (Nat.le_refl _)).symm⟩
  case round =>
    obtain ⟨k, z, hk, rfl, rfl, hz⟩ := hrel
    cases k with
    | zero =>
      have hE := hid (show z = val L from hz.out)
      go_wp2
      go_ret
      exact ⟨ret_int hE.out, rfl⟩
    | succ k =>
      have hlt : k < L.length := by omega
      obtain ⟨g1, o1, rfl, -, hc1⟩ := G1.out (by omega)
      clear G1
      have q1 := hc1 k hlt
      clear hc1
      have e1 : ((k + 1 : Nat) : Int) - 1 = k := by omega
      rw [e1]
      clear e1
      have a1 : (0 : Int) ≤ k := by omega
      have a2 : (k : Int) < L.length := by omega
      have hd := val_drop hlt
      have hle := val_drop_le HLim.out k
      have h0 := val_nonneg (Lim_drop HLim.out (k + 1))
      have hx := Lim_at HLim.out hlt
      have hv := HV.out
      rw [← hz.out] at hd h0
      obtain ⟨x, hxe⟩ : ∃ x, x = L[k] := ⟨_, rfl⟩
      rw [← hxe] at q1 hd hx
      clear hxe
      have hb : z * 1000000000 + x ≤ 9223372036854775807 := by omega
      have hb2 : z ≤ 9223372036 := by omega
      have HN := hid (show z * 1000000000 + x = val (L.drop k) by omega)
      clear hd hle hz hv
      go_wp2
      go_round
      case rel => exact ⟨k, _, by omega, rfl, rfl, HN⟩
      case measure => simp [intOf]
end Go.Proofs.Yteanocjkdehhgaa

/- Numbers out of ints, trimming, the cap of 60 limbs, comparison, numbers into ints. -/
namespace Go.Proofs.Yteanocjkdehhgaa
open Go.RowKit
open Go.Lib (hid)
set_option linter.unusedVariables false

theorem Ints_app {w0 w w1 : World} {B : Nat} {v v' : Value} {L : List Int} {x : Int} {o : Obj} (h : Ints w B v L) (hbel : Below B w0 w) (hB : B ≤ w.heap.size)
    (h' : w1.ownsRow B 3 1 v' (L.length + 1) (L.map (Value.int .i64) ++ [.int .i64 x])) (hg : (w.alloc o).grownBy w1 v.ownBlock) : Ints w1 B v' (L ++ [x]) ∧ Below B w0 w1 :=
  ⟨Ints_snoc h', (hbel.alloc hB o).grown hg (by simp; omega) (fun k hk => (Ints_lt h k hk).1)⟩
theorem Ints_take {w : World} {B n c : Nat} {a : Option Addr} {L : List Int} (h : Ints w B (.slice a n c) L) {k : Nat} (hk : k ≤ L.length) : Ints w B (.slice a k c) (L.take k) := by
  refine ⟨by simp, ?_⟩
  have hl : (L.take k).length = k := by simp; omega
  rcases h.2 with ⟨h1, h2⟩ | ⟨g, cap, cur, h1, h2, h3, h4, h5, h6, h7⟩
  · left
    have hk0 : k = 0 := by omega
    subst hk0
    simp at h1
    obtain ⟨rfl, _, rfl⟩ := h1
    exact ⟨rfl, by simp⟩
  · simp at h1
    obtain ⟨rfl, _, rfl⟩ := h1
    refine .inr ⟨g, c, cur, by rw [hl], h2, h3, by omega, h5, h6, ?_⟩
    rw [List.map_take, ← h7, List.take_take, hl]
    congr 1; omega
theorem rep_short {n : Int} (h : n ≤ 9223372036854775807) : (rep n.toNat).length ≤ 3 := by
  refine (Can_len (Can_rep n.toNat)).2 ?_
  rw [val_rep]
  simp only [pw]; omega
theorem rep_step {n m : Int} {L : List Int} (h : L ++ rep m.toNat = rep n.toNat) (hm : 0 < m) : (L ++ [m % 1000000000]) ++ rep (m / 1000000000).toNat = rep n.toNat := by
  rw [← h, List.append_assoc, List.singleton_append, rep_pos (n := m.toNat) (by omega)]
  congr 2
  · omega
  · congr 1; omega
theorem rep_done {n m : Int} {L : List Int} (h : L ++ rep m.toNat = rep n.toNat) (hm : m ≤ 0) : L = rep n.toNat := by
  rw [← h, show m.toNat = 0 by omega, rep_zero, List.append_nil]
theorem rep_part {n m : Int} {L : List Int} (h : L ++ rep m.toNat = rep n.toNat) (hn : (rep n.toNat).length ≤ 3) : L.length ≤ 3 := by
  rw [← h, List.length_append] at hn; omega

set_option maxRecDepth 100000 in
set_option maxHeartbeats 800000 in
theorem impl_NatOf (n : Int) (hn : n ≤ 9223372036854775807) (w : World) : Calls Try.prog 155 #[.int .i64 n] w (OwnP (rep n.toNat) w) := by
  obtain ⟨i3, hi, hz0, hz1, hz2⟩ := info_parts Try.info3
  have H3 := hid (rep_short hn)
  obtain ⟨B, hB⟩ : ∃ B, B = w.heap.size := ⟨_, rfl⟩
  have HB := hid hB
  clear hB
  have HN := hid hn
  clear hn
  go_enter Try.func155, Try.ntmps155
  go_wp2
  go_loopw [0, 3] (fun x out wr => ∃ (m : Int) (L : List Int), x = .int .i64 m ∧ Hid (m ≤ n) ∧ Ints wr B out L ∧ Below B w wr ∧ Hid (L ++ rep m.toNat = rep n.toNat)) (fun x _ _ => (intOf x).toNat)
  case atStart => exact ⟨n, [], rfl, hid (Int.le_refl _), Ints_nil _ _, Below.refl _ _, hid rfl⟩
  case round =>
    obtain ⟨m, L, rfl, hmn, hown, hbel, hrep⟩ := hrel
    by_cases hm : 0 < m
    · have hmb : m ≤ 9223372036854775807 := by have := hmn.out; have := HN.out; omega
      have hl := rep_part hrep.out H3.out
      have hb0 : B ≤ wr.heap.size := by have := hbel.size; have := HB.out; omega
      have HS := hid (rep_step hrep.out hm)
      go_wp2_with (at_builtin; refine wpList_append_own _ rfl _ _ 22 rfl B 3 i3 (.int .i64 0) 1 8 Try.underlying22 hi hz0 hz1 hz2 rfl (by decide) _ _ _ rfl (World.ownsRow.alloc (show wr.ownsRow B 3 1 u3 _ _ from hown) _) ⟨wr.heap.size, 0, none⟩ 1 1 [.int .i64 (m % 1000000000)] rfl rfl ?c1 ?c2 ?c3 ?c4 ?c5 ?_)
      case c1 => exact cell_one_new _ _ _
      case c2 => intro u hu; simp at hu; subst hu; rfl
      case c3 => unfold maxLen; omega
      case c4 => omega
      case c5 => simp; omega
      intro v' w1 hown' hgrow _
      have R := Ints_app hown hbel hb0 hown' hgrow
      clear hown' hgrow hown hbel
      go_wp2
      go_roundw
      case rel => exact ⟨m / 1000000000, _, rfl, hid (by have := hmn.out; omega), R.1, R.2, HS⟩
      case measure => simp [intOf]; omega
    · have hd := rep_done hrep.out (by omega)
      have HD := hid hd
      clear hd
      go_wp2
      go_ret
      exact OwnP_mk HB.out rfl (by rw [← HD.out]; exact hown) hbel

theorem Ints_lit0 {w : World} {B : Nat} (h : B = w.heap.size) : Ints (w.alloc (.cells #[] 3)) B (.slice (some ⟨w.heap.size, 0, none⟩) 0 0) [] :=
  World.ownsRow_made w #[] 0 (by omega) (by decide) rfl

set_option maxRecDepth 100000 in
set_option maxHeartbeats 800000 in
theorem spec_NatOf (n : Int) (hn : n ≤ 9223372036854775807) (w : World) : Calls Try.prog 132 #[.int .i64 n] w (OwnP (rep n.toNat) w) := by
  obtain ⟨i3, hi, hz0, hz1, hz2⟩ := info_parts Try.info3
  have H3 := hid (rep_short hn)
  obtain ⟨B, hB⟩ : ∃ B, B = w.heap.size := ⟨_, rfl⟩
  have HB := hid hB
  clear hB
  have HN := hid hn
  clear hn
  go_enter Try.func132, Try.ntmps132
  go_wp2
  go_loopw [0, 3] (fun x out wr => ∃ (m : Int) (L : List Int), x = .int .i64 m ∧ Hid (m ≤ n) ∧ Ints wr B out L ∧ Below B w wr ∧ Hid (L ++ rep m.toNat = rep n.toNat)) (fun x _ _ => (intOf x).toNat)
  case atStart => exact ⟨n, [], rfl, hid (Int.le_refl _), Ints_lit0 HB.out, by rw [HB.out]; exact (Below.refl _ _).alloc (Nat.le_refl _) _, hid rfl⟩
  case round =>
    obtain ⟨m, L, rfl, hmn, hown, hbel, hrep⟩ := hrel
    by_cases hm : 0 < m
    · have hmb : m ≤ 9223372036854775807 := by have := hmn.out; have := HN.out; omega
      have hl := rep_part hrep.out H3.out
      have hb0 : B ≤ wr.heap.size := by have := hbel.size; have := HB.out; omega
      have HS := hid (rep_step hrep.out hm)
      go_wp2_with (at_builtin; refine wpList_append_own _ rfl _ _ 22 rfl B 3 i3 (.int .i64 0) 1 8 Try.underlying22 hi hz0 hz1 hz2 rfl (by decide) _ _ _ rfl (World.ownsRow.alloc (show wr.ownsRow B 3 1 u3 _ _ from hown) _) ⟨wr.heap.size, 0, none⟩ 1 1 [.int .i64 (m % 1000000000)] rfl rfl ?c1 ?c2 ?c3 ?c4 ?c5 ?_)
      case c1 => exact cell_one_new _ _ _
      case c2 => intro u hu; simp at hu; subst hu; rfl
      case c3 => unfold maxLen; omega
      case c4 => omega
      case c5 => simp; omega
      intro v' w1 hown' hgrow _
      have R := Ints_app hown hbel hb0 hown' hgrow
      clear hown' hgrow hown hbel
      go_wp2
      go_roundw
      case rel => exact ⟨m / 1000000000, _, rfl, hid (by have := hmn.out; omega), R.1, R.2, HS⟩
      case measure => simp [intOf]; omega
    · have hd := rep_done hrep.out (by omega)
      have HD := hid hd
      clear hd
      go_wp2
      go_ret
      exact OwnP_mk HB.out rfl (by rw [← HD.out]; exact hown) hbel

theorem ownBlock_any (a : Option Addr) (n m c d : Nat) : (Value.slice a n c).ownBlock = (Value.slice a m d).ownBlock := by cases a <;> rfl
def TrimP (M : List Int) (B : Nat) (b : Option Nat) (w : World) (e : Ending) (w' : World) : Prop := (∃ v, e = .returned v ∧ Ints w B v M ∧ (v.ownBlock = b ∨ v.ownBlock = none)) ∧ w = w'
theorem TrimP_mk {M M' : List Int} {B : Nat} {b : Option Nat} {w : World} {e : Ending} {v : Value} (he : e = .returned v) (h : Ints w B v M') (hM : M' = M) (hb : v.ownBlock = b ∨ v.ownBlock = none) : TrimP M B b w e w := by
  subst hM; exact ⟨⟨v, he, h, hb⟩, rfl⟩

set_option maxRecDepth 100000 in
set_option maxHeartbeats 800000 in
theorem l02Trim_own (B : Nat) (v : Value) (L : List Int) (hL : L.length ≤ 1073741824) (hl : Lim L) (w : World) (hw : Ints w B v L) :
    Calls Try.prog 144 #[v] w (TrimP (rep (val L).toNat) B v.ownBlock w) := by
  have HW := hid hw
  obtain ⟨a, c, rfl, hc, hrow, -⟩ := Ints_form hw
  have G1 := hid hrow.2
  have HL := hid hl
  clear hw hrow hl
  obtain ⟨b, hb⟩ : ∃ b, b = (Value.slice a L.length c).ownBlock := ⟨_, rfl⟩
  have HB := hid hb
  rw [← hb]
  clear hb
  go_enter Try.func144, Try.ntmps144
  go_wp2
  go_loop [3] (fun x => ∃ (k : Nat), k ≤ L.length ∧ x = .int .i64 k ∧ Hid (val (L.take k) = val L)) (fun x => (intOf x).toNat)
  case atStart => exact ⟨L.length, Nat.le_refl _, rfl, hid (by rw [List.take_length])⟩
  case round =>
    obtain ⟨k, hk, rfl, hv⟩ := hrel
    cases k with
    | zero =>
      have hT := hid (trim_end HL.out hk hv.out (fun k hk e => by cases e))
      have HW2 := hid (Ints_take HW.out hk)
      have h0c : 0 ≤ c := by omega
      go_wp2
      go_ret
      exact TrimP_mk rfl HW2.out hT.out (by rw [HB.out]; exact .inl (ownBlock_any _ _ _ _ _))
    | succ k =>
      obtain ⟨g1, o1, rfl, -, hc1⟩ := G1.out (by omega)
      clear G1
      have hlt : k < L.length := by omega
      have q1 := hc1 k hlt
      clear hc1
      have a1 : (0 : Int) < (k + 1 : Nat) := by omega
      have e1 : ((k + 1 : Nat) : Int) - 1 = k := by omega
      have e2 : ((k : Int) + 1).toNat = k + 1 := by omega
      have a2 : (0 : Int) ≤ k := by omega
      have a3 : (k : Int) < L.length := by omega
      have a4 : (k : Int) + 1 ≤ c := by omega
      by_cases hz : L[k] = 0
      · have hn := hid ((trim_step hlt hz).trans hv.out)
        go_wp2
        go_round
        case rel => exact ⟨k, by omega, by go_num, hn⟩
        case measure => simp [intOf]
      · have hT := hid (trim_end HL.out hk hv.out (fun j hj e => by obtain rfl : k = j := by omega
                                                                    exact hz))
        have HW2 := hid (Ints_take HW.out hk)
        go_wp2
        go_ret
        exact TrimP_mk rfl HW2.out hT.out (by rw [HB.out]; exact .inl (ownBlock_any _ _ _ _ _))

set_option maxRecDepth 100000 in
set_option maxHeartbeats 800000 in
theorem l02Cap_own (B : Nat) (v : Value) (L : List Int) (hL : L.length ≤ 1073741824) (hl : Lim L) (w : World) (hw : Ints w B v L) :
    Calls Try.prog 141 #[v] w (TrimP (capped (val L)) B v.ownBlock w) := by
  have K := hid (l02Trim_own B v L hL hl w hw)
  have H0 := hid (val_nonneg hl)
  obtain ⟨a, c, rfl, hc, hrow, -⟩ := Ints_form hw
  clear hw hrow hl
  obtain ⟨b, hb⟩ : ∃ b, b = (Value.slice a L.length c).ownBlock := ⟨_, rfl⟩
  have HB := hid hb
  rw [← hb] at K
  rw [← hb]
  clear hb
  go_enter Try.func141, Try.ntmps141
  go_wp2_with fail
  refine K.out.mono ?_
  rintro e w1 ⟨⟨v', rfl, hi, hbl⟩, rfl⟩
  have HI := hid hi
  have HBL := hid hbl
  obtain ⟨a', c', rfl, hc', -, -⟩ := Ints_form hi
  clear hi hbl
  by_cases h6 : 60 < (rep (val L).toNat).length
  · have hC := hid (capped_no h6 H0.out)
    have h6' : (60 : Int) < (rep (val L).toNat).length := by omega
    go_wp2
    go_ret
    exact TrimP_mk rfl (Ints_nil _ _) hC.out.symm (.inr rfl)
  · have hC := hid (capped_yes (by omega) H0.out)
    have h6' : ¬ (60 : Int) < (rep (val L).toNat).length := by omega
    go_wp2
    go_ret
    exact TrimP_mk rfl HI.out hC.out.symm HBL.out

def cmpC (A B : List Int) : Int := if nok A && nok B then cmpL A B else 0
theorem cmpC_no {A B : List Int} (h : nok A = false ∨ nok B = false) : cmpC A B = 0 := by
  unfold cmpC
  rcases h with h | h <;> simp [h]
theorem cmpC_yes {A B : List Int} (h : nok A = true) (h' : nok B = true) : cmpC A B = cmpL A B := by simp [cmpC, h, h']

end Go.Proofs.Yteanocjkdehhgaa

/- What the laws hold while they call: slices of their own, each between two heights of the heap; the helpers' contracts in these words. -/
namespace Go.Proofs.Yteanocjkdehhgaa
open Go.RowKit
open Go.Lib (hid)
set_option linter.unusedVariables false

/-- A call that changes nothing old, and returns r. -/
def RetB (r : Value) (w : World) (e : Ending) (w' : World) : Prop := e = .returned r ∧ Below w.heap.size w w'
theorem RetB_of_drew {P : Program} {f : FuncId} {args : Array Value} {w : World} {r : Value} (h : Calls P f args w (Drew r w)) : Calls P f args w (RetB r w) :=
  h.mono fun e w' ⟨he, d, hw⟩ => ⟨he, by subst hw; exact ⟨rfl, rfl, rfl, Nat.le_refl _, fun _ _ => rfl⟩⟩
theorem RetB_of_drawn {P : Program} {f : FuncId} {args : Array Value} {w : World} {r : Value} (h : Calls P f args w (Drawn r w)) : Calls P f args w (RetB r w) :=
  h.mono fun e w' ⟨he, d, hw⟩ => ⟨he, by subst hw; exact ⟨rfl, rfl, rfl, Nat.le_refl _, fun _ _ => rfl⟩⟩
theorem RetB_of_same {P : Program} {f : FuncId} {args : Array Value} {w : World} {r : Value} (h : Calls P f args w fun e w' => e = .returned r ∧ w = w') : Calls P f args w (RetB r w) :=
  h.mono fun e w' ⟨he, hw⟩ => ⟨he, by subst hw; exact Below.refl _ _⟩

/-- A slice of ints of the law's own: it holds L and lies from lo on, below hi. -/
structure Obj (w : World) (v : Value) (L : List Int) (lo hi : Nat) : Prop where
  ints : Ints w lo v L
  high : ∀ k, v.ownBlock = some k → k < hi
theorem Obj.old {w w' : World} {v : Value} {L : List Int} {lo hi : Nat} (h : Obj w v L lo hi) (hb : Below w.heap.size w w') : Obj w' v L lo hi :=
  ⟨Ints_below h.ints hb fun k hk => (Ints_lt h.ints k hk).2, h.high⟩
def InS (lo hi : Nat) (k : Nat) : Prop := lo ≤ k ∧ k < hi
theorem Obj.only {w w' : World} {v : Value} {L : List Int} {lo hi a b : Nat} (h : Obj w v L lo hi) (hb : Only (InS a b) w w') (hd : hi ≤ a ∨ b ≤ lo) : Obj w' v L lo hi :=
  ⟨Ints_only h.ints hb fun k hk hs => by
    have := h.high k hk
    have := (Ints_lt h.ints k hk).1
    have := hs.1
    have := hs.2
    omega, h.high⟩
theorem Obj.of {w w' : World} {v : Value} {L : List Int} (h : Ints w' w.heap.size v L) : Obj w' v L w.heap.size w'.heap.size := ⟨h, fun k hk => (Ints_lt h k hk).2⟩
theorem RowI_in_only {w w' : World} {a : Option Addr} {n lo hi : Nat} {L : List Int} (h : RowI w a n L) (hb : Only (InS lo hi) w w') (hlo : w.heap.size ≤ lo) : RowI w' a n L := by
  refine ⟨h.1, fun h0 => ?_⟩
  obtain ⟨g, o, rfl, hg, hc⟩ := h.2 h0
  exact ⟨g, o, rfl, Nat.lt_of_lt_of_le hg hb.size, fun i hi' => (hb.cell (p := ⟨g, o + i, none⟩) (fun hs => by have := hs.1; simp at this; omega)).trans (hc i hi')⟩
/-- What came in: it reads as L and lies below the height h. -/
def Came (w : World) (h : Nat) (a : Option Addr) (n : Nat) (L : List Int) : Prop :=
  n = L.length ∧ (0 < L.length → ∃ g o, a = some ⟨g, o, none⟩ ∧ g < h ∧ g < w.heap.size ∧ ∀ i (hi : i < L.length), w.cell? ⟨g, o + i, none⟩ = some (.int .i64 L[i]))
theorem Came.row {w : World} {h n : Nat} {a : Option Addr} {L : List Int} (c : Came w h a n L) : RowI w a n L :=
  ⟨c.1, fun h0 => by obtain ⟨g, o, e, _, hg, hc⟩ := c.2 h0; exact ⟨g, o, e, hg, hc⟩⟩
theorem Came.of {w : World} {n : Nat} {a : Option Addr} {L : List Int} (c : RowI w a n L) : Came w w.heap.size a n L :=
  ⟨c.1, fun h0 => by obtain ⟨g, o, e, hg, hc⟩ := c.2 h0; exact ⟨g, o, e, hg, hg, hc⟩⟩
theorem Came.old {w w' : World} {h n : Nat} {a : Option Addr} {L : List Int} (c : Came w h a n L) (hb : Below w.heap.size w w') : Came w' h a n L :=
  ⟨c.1, fun h0 => by
    obtain ⟨g, o, e, hh, hg, hc⟩ := c.2 h0
    exact ⟨g, o, e, hh, Nat.lt_of_lt_of_le hg hb.size, fun i hi => (hb.cell (p := ⟨g, o + i, none⟩) hg).trans (hc i hi)⟩⟩
theorem Came.only {w w' : World} {h n lo hi : Nat} {a : Option Addr} {L : List Int} (c : Came w h a n L) (hb : Only (InS lo hi) w w') (hlo : h ≤ lo) : Came w' h a n L :=
  ⟨c.1, fun h0 => by
    obtain ⟨g, o, e, hh, hg, hc⟩ := c.2 h0
    exact ⟨g, o, e, hh, Nat.lt_of_lt_of_le hg hb.size, fun i hi' => (hb.cell (p := ⟨g, o + i, none⟩) (fun hs => by have := hs.1; simp at this; omega)).trans (hc i hi')⟩⟩
theorem in_only {w w' w0 : World} {lo hi : Nat} (h : Below w0.heap.size w0 w) (hb : Only (InS lo hi) w w') (hlo : w0.heap.size ≤ lo) : Below w0.heap.size w0 w' :=
  h.trans (hb.below fun k hk hs => by have := hs.1; omega)

theorem toIntS_came (a : Option Addr) (n c h : Nat) (L : List Int) (hL : L.length ≤ 1073741824) (w : World) (h1 : Came w h a n L) :
    Calls Try.prog 94 #[.slice a n c] w (OwnP L w) := toIntS_any a n c L hL w h1.row
theorem eqIntS_obj (v1 v2 : Value) (L : List Int) (l1 u1 l2 u2 : Nat) (hL : L.length ≤ 1073741824) (w : World) (h1 : Obj w v1 L l1 u1) (h2 : Obj w v2 L l2 u2) :
    Calls Try.prog 97 #[v1, v2] w (RetB (.bool true) w) := by
  obtain ⟨a1, c1, rfl, -, r1, -⟩ := Ints_form h1.ints
  obtain ⟨a2, c2, rfl, -, r2, -⟩ := Ints_form h2.ints
  exact RetB_of_drawn (eqIntS_same a1 a2 _ _ c1 c2 L hL w r1 r2)
def MarkO (v : Value) (n : Nat) (m : Int) (lo hi : Nat) (w : World) (e : Ending) (w' : World) : Prop := e = .returned (.int .i64 (m + n)) ∧ Obj w' v (marks n m) lo hi ∧ Only (InS lo hi) w w'
theorem markIntS_obj (v : Value) (L : List Int) (m : Int) (lo hi : Nat) (hL : L.length ≤ 1073741000) (m0 : 0 ≤ m) (m1 : m ≤ 1073741000) (w : World) (h : Obj w v L lo hi) :
    Calls Try.prog 60 #[v, .int .i64 m] w (MarkO v L.length m lo hi w) :=
  (markIntS_any lo v L m hL m0 m1 (InS lo hi) w h.ints (fun k hk => ⟨(Ints_lt h.ints k hk).1, h.high k hk⟩)).mono fun _ _ ⟨he, hi, ho⟩ => ⟨he, ⟨hi, h.high⟩, ho⟩
theorem heldIntS_obj (v : Value) (n : Nat) (m : Int) (lo hi : Nat) (hn : n ≤ 1073741000) (m0 : 0 ≤ m) (m1 : m ≤ 1073741000) (w : World) (h : Obj w v (marks n m) lo hi) :
    Calls Try.prog 62 #[v, .int .i64 m] w (RetB (.int .i64 (m + n)) w) := by
  obtain ⟨a1, c1, rfl, -, r1, -⟩ := Ints_form h.ints
  rw [marks_len] at r1 ⊢
  exact RetB_of_drawn (heldIntS_any a1 c1 n m hn m0 m1 w r1)
/-- A function of a slice that reads it only. -/
theorem obj1 {P : Program} {f : FuncId} {R : World → Ending → World → Prop} {w : World} {v : Value} {A : List Int} {lo hi : Nat}
    (C : ∀ (a : Option Addr) (n c : Nat), RowI w a n A → Calls P f #[.slice a n c] w (R w)) (h : Obj w v A lo hi) : Calls P f #[v] w (R w) := by
  obtain ⟨a1, c1, rfl, -, r1, -⟩ := Ints_form h.ints
  exact C _ _ _ r1
theorem obj2 {P : Program} {f : FuncId} {R : World → Ending → World → Prop} {w : World} {v u : Value} {A B : List Int} {lo hi lo' hi' : Nat}
    (C : ∀ (a b : Option Addr) (n m c d : Nat), RowI w a n A → RowI w b m B → Calls P f #[.slice a n c, .slice b m d] w (R w)) (h : Obj w v A lo hi) (h' : Obj w u B lo' hi') : Calls P f #[v, u] w (R w) := by
  obtain ⟨a1, c1, rfl, -, r1, -⟩ := Ints_form h.ints
  obtain ⟨a2, c2, rfl, -, r2, -⟩ := Ints_form h'.ints
  exact C _ _ _ _ _ _ r1 r2
theorem RowI_came {w : World} {a : Option Addr} {len cap : Nat} {zs : List Int}
    (h : (a = none ∧ len = 0 ∧ cap = 0 ∧ zs = []) ∨ ∃ x, a = some x ∧ len ≤ cap ∧ cap ≤ maxLen ∧ zs.length = cap ∧ (∀ i, i < zs.length → w.cell? (x.add i) = some (.int .i64 (zs.getD i 0))) ∧ ∀ n ∈ zs, (Lit.int .i64 n).wf = true) :
    ∃ L, RowI w a len L ∧ len ≤ maxLen ∧ ∀ n ∈ L, (Lit.int .i64 n).wf = true := by
  rcases h with ⟨rfl, rfl, rfl, rfl⟩ | ⟨x, rfl, hl, hm, hz, hc, hw⟩
  · exact ⟨[], RowI_nil _ _, by unfold maxLen; omega, fun n h => by cases h⟩
  · have hlen : (zs.take len).length = len := by simp; omega
    refine ⟨zs.take len, ⟨hlen.symm, fun h0 => ?_⟩, by omega, fun n hn => hw n (List.mem_of_mem_take hn)⟩
    obtain ⟨g, o, spot⟩ := x
    have hs : spot = none := by
      have := hc 0 (by omega)
      simpa [Addr.add] using World.cell?_spot this
    subst hs
    have hat : ∀ i, i < zs.length → w.cell? ⟨g, o + i, none⟩ = some (.int .i64 (zs.getD i 0)) := fun i hi => by rw [← Go.WideShapes.add_plain]; exact hc i hi
    refine ⟨g, o, rfl, World.block_lt_of_cell? w ⟨g, o + 0, none⟩ (hat 0 (by omega)), fun i hi => ?_⟩
    have hi' : i < zs.length := by omega
    rw [hat i hi', List.getElem_take]
    simp [hi']
end Go.Proofs.Yteanocjkdehhgaa
