/- ParseNat: the limbs that a text's digits spell; no walk. -/
import Derived.Test.YtmghoedjcokhpaaGreatDoorPnm
import Derived.Test.YtmghoedjcokhpaaGreatDoorBas
namespace Go.Proofs.YtmghoedjcokhpaaGreatDoor
open Go.RowKit
open Go.Lib (hid)
set_option linter.unusedVariables false

/-- What the digits from place f up to place e spell. -/
def seg (s : ByteArray) (f e : Nat) : Nat := valL ((s.data.toList.drop f).take (e - f))
theorem seg_zero (s : ByteArray) (f : Nat) : seg s f f = 0 := by simp [seg, valL, valFrom]
theorem seg_step {s : ByteArray} {f i : Nat} (hf : f ≤ i) (hi : i < s.size) : seg s f (i + 1) = seg s f i * 10 + (s[i].toNat - 48) := by
  have hl : s.data.toList.length = s.size := size_len s
  unfold seg
  rw [show i + 1 - f = (i - f) + 1 by omega, List.take_succ_eq_append_getElem (by rw [List.length_drop]; omega), valL_snoc, List.getElem_drop]
  have : s.data.toList[f + (i - f)]'(by omega) = s[i] := by
    have e : f + (i - f) = i := by omega
    simp [e]; rfl
  rw [this]
theorem isD_of {s : ByteArray} (h : digs s = true) {i : Nat} (hi : i < s.size) : 48 ≤ s[i].toNat ∧ s[i].toNat ≤ 57 := by
  have := digs_at h hi
  omega
theorem seg_lt {s : ByteArray} (h : digs s = true) (f : Nat) : ∀ k, f + k ≤ s.size → seg s f (f + k) < 10 ^ k
  | 0, _ => by rw [Nat.add_zero, seg_zero]; decide
  | k + 1, hk => by
    have ih := seg_lt h f k (by omega)
    have hd := isD_of h (show f + k < s.size by omega)
    rw [← Nat.add_assoc, seg_step (by omega) (by omega), Nat.pow_succ]
    omega
theorem seg_small {s : ByteArray} (h : digs s = true) {f e : Nat} (he : e ≤ s.size) (hf : f ≤ e) (h9 : e - f ≤ 9) : seg s f e < 1000000000 := by
  obtain ⟨k, rfl⟩ : ∃ k, e = f + k := ⟨e - f, by omega⟩
  have h1 := seg_lt h f k he
  have h2 : 10 ^ k ≤ 10 ^ 9 := Nat.pow_le_pow_right (by decide) (by omega)
  omega
/-- The limbs from place e downwards. -/
def rest (s : ByteArray) (e : Nat) : List Int := if h : e = 0 then [] else ((seg s (e - 9) e : Nat) : Int) :: rest s (e - 9)
termination_by e
decreasing_by omega
theorem rest_zero (s : ByteArray) : rest s 0 = [] := by rw [rest]; simp
theorem rest_pos (s : ByteArray) {e : Nat} (h : e ≠ 0) : rest s e = ((seg s (e - 9) e : Nat) : Int) :: rest s (e - 9) := by rw [rest]; simp [h]
theorem rest_ne (s : ByteArray) {e : Nat} (h : e ≠ 0) : rest s e ≠ [] := by rw [rest_pos s h]; simp
theorem rest_lim {s : ByteArray} (h : digs s = true) (e : Nat) (he : e ≤ s.size) : Lim (rest s e) := by
  induction e using Nat.strongRecOn with
  | ind e ih =>
    by_cases h0 : e = 0
    · subst h0; rw [rest_zero]; exact Lim_nil
    · rw [rest_pos s h0]
      intro x hx
      rcases List.mem_cons.1 hx with rfl | hx
      · have := seg_small h he (show e - 9 ≤ e by omega) (by omega)
        omega
      · exact ih (e - 9) (by omega) (by omega) x hx
theorem rest_len (s : ByteArray) (e : Nat) : (rest s e).length ≤ e := by
  induction e using Nat.strongRecOn with
  | ind e ih =>
    by_cases h0 : e = 0
    · subst h0; rw [rest_zero]; simp
    · rw [rest_pos s h0, List.length_cons]
      have := ih (e - 9) (by omega)
      omega
theorem seg_head {s : ByteArray} (h : digs s = true) (h0 : 0 < s.size) (hne : s[0].toNat ≠ 48) {e : Nat} (he0 : 0 < e) (he : e ≤ s.size) : 0 < seg s 0 e := by
  obtain ⟨k, rfl⟩ : ∃ k, e = k + 1 := ⟨e - 1, by omega⟩
  have hd := isD_of h h0
  clear he0
  induction k with
  | zero => rw [seg_step (by omega) h0]; omega
  | succ k ih =>
    rw [seg_step (by omega) (by omega)]
    have := ih (by omega)
    omega
theorem Can_cons {x : Int} {L : List Int} (h0 : 0 ≤ x) (h1 : x < 1000000000) (h : Can L) (hne : L ≠ []) : Can (x :: L) :=
  ⟨fun y hy => by
    rcases List.mem_cons.1 hy with rfl | hy
    · exact ⟨h0, h1⟩
    · exact h.1 y hy, fun _ => by rw [List.getLast_cons hne]; exact h.2 hne⟩
theorem rest_can {s : ByteArray} (h : digs s = true) (h0 : 0 < s.size) (hne : s[0].toNat ≠ 48) (e : Nat) (he : e ≤ s.size) : Can (rest s e) := by
  induction e using Nat.strongRecOn with
  | ind e ih =>
    by_cases hz : e = 0
    · subst hz; rw [rest_zero]; exact Can_nil
    · have hs := seg_small h he (show e - 9 ≤ e by omega) (by omega)
      rw [rest_pos s hz]
      by_cases h9 : e - 9 = 0
      · have hp := seg_head h h0 hne (show 0 < e by omega) he
        rw [h9, rest_zero]
        rw [h9] at hs
        refine ⟨Lim_one (by omega) (by omega), fun _ => ?_⟩
        simp only [List.getLast_singleton]; omega
      · exact Can_cons (by omega) (by omega) (ih (e - 9) (by omega) (by omega)) (rest_ne s h9)
theorem dec_val (m : List UInt8) : ∀ acc, (∀ c ∈ m, isD c) → Lib.decFrom acc m = some (valFrom acc m) := by
  induction m with
  | nil => intro acc _; rfl
  | cons c r ih =>
    intro acc h
    have hc := h c (by simp)
    unfold isD at hc
    have e : Lib.digitVal c = some (c.toNat - 48) := by simp [Lib.digitVal, hc]
    simp only [Lib.decFrom, e]
    rw [ih _ (fun x hx => h x (by simp [hx]))]
    rfl
theorem atoi_digits {m : List UInt8} (hne : m ≠ []) (h : ∀ c ∈ m, isD c) : Lib.atoi m = some (valL m : Int) := by
  cases m with
  | nil => exact absurd rfl hne
  | cons c r =>
    have hc := h c (by simp)
    unfold isD at hc
    have e1 : (c == 45) = false := by
      apply beq_eq_false_iff_ne.2
      rintro rfl
      simp at hc
    have e2 : (c == 43) = false := by
      apply beq_eq_false_iff_ne.2
      rintro rfl
      simp at hc
    simp only [Lib.atoi, e1, e2, Bool.false_eq_true, if_false, Lib.decNat, List.isEmpty_cons]
    rw [dec_val _ 0 h]
    rfl
theorem part_list (s : ByteArray) (f e : Nat) : (s.extract f e).data.toList = (s.data.toList.drop f).take (e - f) := by simp
theorem part_atoi {s : ByteArray} (h : digs s = true) {f e : Nat} (hf : f < e) (he : e ≤ s.size) : Lib.atoi (s.extract f e).data.toList = some (seg s f e : Int) := by
  rw [part_list]
  have hl : s.data.toList.length = s.size := size_len s
  refine atoi_digits ?_ ?_
  · intro hn
    have := congrArg List.length hn
    simp only [List.length_take, List.length_drop, List.length_nil] at this
    omega
  · intro c hc
    have hm := List.mem_of_mem_drop (List.mem_of_mem_take hc)
    obtain ⟨i, hi, rfl⟩ := List.getElem_of_mem hm
    have := isD_of h (show i < s.size by omega)
    unfold isD
    exact this
/-- Whether a text is a number's, and which. -/
def parseB (s : ByteArray) : Bool := digs s && decide (s.size ≤ 540) && !(decide (1 < s.size) && decide (s.data.toList.head? = some 48))
def parseR (s : ByteArray) : List Int := if parseB s then rep (val (rest s s.size)).toNat else []
theorem head_at {s : ByteArray} (h : 0 < s.size) : s.data.toList.head? = some s[0] := by
  have hl : s.data.toList.length = s.size := size_len s
  rw [List.head?_eq_getElem?, List.getElem?_eq_getElem (by omega)]
  simp; rfl
theorem parse_no {s : ByteArray} (h : parseB s = false) : parseR s = [] := by simp [parseR, h]
theorem parseB_digs {s : ByteArray} (h : digs s = false) : parseB s = false := by simp [parseB, h]
theorem parseB_long {s : ByteArray} (h : 540 < s.size) : parseB s = false := by
  have : ¬ s.size ≤ 540 := by omega
  simp [parseB, this]
theorem parseB_zero {s : ByteArray} (h : 1 < s.size) (h0 : s[0].toNat = 48) : parseB s = false := by
  have e : s[0] = 48 := UInt8.toNat_inj.mp (by simpa using h0)
  simp [parseB, h, head_at (show 0 < s.size by omega), e]
theorem parseB_yes {s : ByteArray} (h : digs s = true) (hl : s.size ≤ 540) (h1 : s.size ≤ 1 ∨ ∀ h0 : 0 < s.size, s[0].toNat ≠ 48) : parseB s = true := by
  unfold parseB
  rw [h, decide_eq_true hl]
  rcases h1 with h1 | h1
  · have : ¬ 1 < s.size := by omega
    simp [this]
  · by_cases h0 : 0 < s.size
    · have : s[0] ≠ 48 := by
        intro e
        exact h1 h0 (by rw [e]; rfl)
      simp [head_at h0, this]
    · have : ¬ 1 < s.size := by omega
      simp [this]
theorem parseR_yes {s : ByteArray} (h : parseB s = true) : parseR s = rep (val (rest s s.size)).toNat := by simp [parseR, h]
theorem digs_pos {s : ByteArray} (h : digs s = true) : 0 < s.size := by
  unfold digs at h
  simp only [Bool.and_eq_true, decide_eq_true_eq] at h
  exact h.1
theorem parseR_plain {s : ByteArray} (h : digs s = true) (hb : parseB s = true) (hne : s[0]'(digs_pos h) ≠ 48) : parseR s = rest s s.size := by
  rw [parseR_yes hb]
  refine rep_val (rest_can h (digs_pos h) ?_ _ (Nat.le_refl _))
  intro e
  exact hne (UInt8.toNat_inj.mp (by simpa using e))
theorem parse_zero : parseB (ByteArray.mk #[48]) = true ∧ parseR (ByteArray.mk #[48]) = [] := by
  have hb : parseB (ByteArray.mk #[48]) = true := by decide
  refine ⟨hb, ?_⟩
  have hs : (ByteArray.mk #[48]).size = 1 := rfl
  rw [parseR_yes hb, hs, rest_pos _ (by decide), show 1 - 9 = 0 from rfl, rest_zero]
  have : seg (ByteArray.mk #[48]) 0 1 = 0 := by decide
  rw [this]
  simp [val, rep_zero]
theorem rest_step {s : ByteArray} {P : List Int} {e : Nat} (h : P ++ rest s e = rest s s.size) (he : e ≠ 0) : (P ++ [((seg s (e - 9) e : Nat) : Int)]) ++ rest s (e - 9) = rest s s.size := by
  rw [← h, List.append_assoc, List.singleton_append, ← rest_pos s he]
theorem rest_part {s : ByteArray} {P : List Int} {e : Nat} (h : P ++ rest s e = rest s s.size) : P.length ≤ s.size := by
  have h1 := rest_len s s.size
  rw [← h, List.length_append] at h1
  omega
end Go.Proofs.YtmghoedjcokhpaaGreatDoor
