/- Numbers in limbs of base 10^9: the value of a list of limbs, its one canonical list, order. No program text. -/
namespace Go.Proofs.Ytdffmeinofgdgaa

def val : List Int → Int
  | [] => 0
  | x :: xs => x + 1000000000 * val xs
def Lim (L : List Int) : Prop := ∀ x ∈ L, 0 ≤ x ∧ x < 1000000000
def pw : Nat → Int
  | 0 => 1
  | n + 1 => 1000000000 * pw n
theorem pw_pos : ∀ n, 0 < pw n
  | 0 => by decide
  | n + 1 => by have := pw_pos n; simp only [pw]; omega
theorem pw_add (m : Nat) : ∀ n, pw (m + n) = pw m * pw n
  | 0 => by simp [pw]
  | n + 1 => by
    show 1000000000 * pw (m + n) = pw m * (1000000000 * pw n)
    rw [pw_add m n]; grind
theorem pw_le {m n : Nat} (h : m ≤ n) : pw m ≤ pw n := by
  obtain ⟨k, rfl⟩ : ∃ k, n = m + k := ⟨n - m, by omega⟩
  clear h
  induction k with
  | zero => exact Int.le_refl _
  | succ k ih =>
    have := pw_pos (m + k)
    show pw m ≤ 1000000000 * pw (m + k)
    omega
theorem pw_succ_lt (n : Nat) : 1000000000 ≤ pw (n + 1) := by have := pw_pos n; simp only [pw]; omega

theorem val_append : ∀ (L M : List Int), val (L ++ M) = val L + pw L.length * val M
  | [], M => by simp [val, pw]
  | x :: L, M => by
    simp only [List.cons_append, val, val_append L M, List.length_cons, pw]; grind
theorem Lim_nil : Lim [] := by intro x h; cases h
theorem Lim_cons {x : Int} {L : List Int} (h : Lim (x :: L)) : (0 ≤ x ∧ x < 1000000000) ∧ Lim L := ⟨h x (by simp), fun y hy => h y (by simp [hy])⟩
theorem Lim_append {L M : List Int} (h : Lim L) (h' : Lim M) : Lim (L ++ M) := by
  intro x hx
  rcases List.mem_append.1 hx with hx | hx
  · exact h x hx
  · exact h' x hx
theorem Lim_one {x : Int} (h : 0 ≤ x) (h' : x < 1000000000) : Lim [x] := by intro y hy; simp at hy; subst hy; exact ⟨h, h'⟩
theorem Lim_take {L : List Int} (h : Lim L) (k : Nat) : Lim (L.take k) := fun x hx => h x (List.mem_of_mem_take hx)
theorem Lim_drop {L : List Int} (h : Lim L) (k : Nat) : Lim (L.drop k) := fun x hx => h x (List.mem_of_mem_drop hx)
theorem Lim_at {L : List Int} (h : Lim L) {i : Nat} (hi : i < L.length) : 0 ≤ L[i] ∧ L[i] < 1000000000 := h _ (List.getElem_mem hi)
theorem Lim_set {L : List Int} (h : Lim L) (i : Nat) {x : Int} (h0 : 0 ≤ x) (h1 : x < 1000000000) : Lim (L.set i x) := by
  intro y hy
  rcases List.mem_or_eq_of_mem_set hy with hy | rfl
  · exact h y hy
  · exact ⟨h0, h1⟩
theorem Lim_zeros (k : Nat) : Lim (List.replicate k 0) := by
  intro x hx
  obtain ⟨-, rfl⟩ := List.mem_replicate.1 hx
  decide
theorem val_zeros : ∀ k, val (List.replicate k 0) = 0
  | 0 => rfl
  | k + 1 => by simp [List.replicate_succ, val, val_zeros k]
theorem val_pad (L : List Int) (k : Nat) : val (L ++ List.replicate k 0) = val L := by rw [val_append, val_zeros]; simp
theorem val_nonneg : ∀ {L : List Int}, Lim L → 0 ≤ val L
  | [], _ => by decide
  | x :: L, h => by
    have h1 := Lim_cons h
    have h2 := val_nonneg h1.2
    simp only [val]; omega
theorem val_lt : ∀ {L : List Int}, Lim L → val L < pw L.length
  | [], _ => by decide
  | x :: L, h => by
    have h1 := Lim_cons h
    have h2 := val_lt h1.2
    simp only [val, List.length_cons, pw]; omega
theorem val_split (L : List Int) {k : Nat} (hk : k ≤ L.length) : val L = val (L.take k) + pw k * val (L.drop k) := by
  have h := val_append (L.take k) (L.drop k)
  rw [List.take_append_drop, List.length_take, Nat.min_eq_left hk] at h
  exact h
theorem val_take_succ {L : List Int} {k : Nat} (hk : k < L.length) : val (L.take (k + 1)) = val (L.take k) + pw k * L[k] := by
  rw [List.take_succ_eq_append_getElem hk, val_append]
  simp [val, Nat.min_eq_left (Nat.le_of_lt hk)]
theorem val_drop {L : List Int} {k : Nat} (hk : k < L.length) : val (L.drop k) = L[k] + 1000000000 * val (L.drop (k + 1)) := by
  rw [List.drop_eq_getElem_cons hk]; rfl
theorem val_drop_end {L : List Int} {k : Nat} (hk : L.length ≤ k) : val (L.drop k) = 0 := by rw [List.drop_eq_nil_of_le hk]; rfl
theorem val_drop_le {L : List Int} (h : Lim L) (k : Nat) : val (L.drop k) ≤ val L := by
  induction k with
  | zero => simp
  | succ k ih =>
    by_cases hk : k < L.length
    · have h1 := val_drop hk
      have h2 := Lim_at h hk
      have h3 := val_nonneg (Lim_drop h (k + 1))
      omega
    · rw [val_drop_end (by omega)]; exact val_nonneg h
theorem val_set : ∀ {L : List Int} {k : Nat} (hk : k < L.length) (x : Int), val (L.set k x) = val L + (x - L[k]) * pw k
  | y :: L, 0, _, x => by simp [val, pw]; omega
  | y :: L, k + 1, hk, x => by
    simp only [List.set_cons_succ, val, List.getElem_cons_succ, pw, val_set (L := L) (k := k) (by simpa using hk) x]
    grind

/-- The limbs of a natural number. -/
def rep (n : Nat) : List Int := if h : n = 0 then [] else ((n % 1000000000 : Nat) : Int) :: rep (n / 1000000000)
termination_by n
decreasing_by omega
theorem rep_zero : rep 0 = [] := by rw [rep]; simp
theorem rep_pos {n : Nat} (h : n ≠ 0) : rep n = ((n % 1000000000 : Nat) : Int) :: rep (n / 1000000000) := by rw [rep]; simp [h]
theorem val_rep (n : Nat) : val (rep n) = n := by
  induction n using Nat.strongRecOn with
  | ind n ih =>
    by_cases h : n = 0
    · subst h; rw [rep_zero]; rfl
    · rw [rep_pos h, val, ih _ (by omega)]; omega
theorem Lim_rep (n : Nat) : Lim (rep n) := by
  induction n using Nat.strongRecOn with
  | ind n ih =>
    by_cases h : n = 0
    · subst h; rw [rep_zero]; exact Lim_nil
    · rw [rep_pos h]
      intro x hx
      rcases List.mem_cons.1 hx with rfl | hx
      · omega
      · exact ih _ (by omega) x hx
theorem rep_ne {n : Nat} (h : n ≠ 0) : rep n ≠ [] := by rw [rep_pos h]; simp
/-- Canonical: limbs, and no zero limb at the end. -/
def Can (L : List Int) : Prop := Lim L ∧ ∀ h : L ≠ [], L.getLast h ≠ 0
theorem Can_nil : Can [] := ⟨Lim_nil, fun h => absurd rfl h⟩
theorem Can_tail {x : Int} {L : List Int} (h : Can (x :: L)) : Can L := by
  refine ⟨(Lim_cons h.1).2, fun hn => ?_⟩
  have := h.2 (by simp)
  rwa [List.getLast_cons hn] at this
theorem Can_val : ∀ {L : List Int}, Can L → val L = 0 → L = []
  | [], _, _ => rfl
  | x :: L, h, h0 => by
    have h1 := Lim_cons h.1
    have h2 := val_nonneg h1.2
    simp only [val] at h0
    have h3 : L = [] := Can_val (Can_tail h) (by omega)
    subst h3
    have h4 := h.2 (by simp)
    simp [val] at h0 h4
    exact absurd h0 h4
theorem rep_val : ∀ {L : List Int}, Can L → rep (val L).toNat = L
  | [], _ => by simp [val, rep_zero]
  | x :: L, h => by
    have h1 := Lim_cons h.1
    have h2 := val_nonneg h1.2
    have hne : val (x :: L) ≠ 0 := fun h0 => by have := Can_val h h0; simp at this
    have e : val (x :: L) = x + 1000000000 * val L := rfl
    rw [rep_pos (by omega)]
    have e1 : (val (x :: L)).toNat / 1000000000 = (val L).toNat := by omega
    have e2 : (((val (x :: L)).toNat % 1000000000 : Nat) : Int) = x := by omega
    rw [e1, e2, rep_val (Can_tail h)]
theorem Can_rep (n : Nat) : Can (rep n) := by
  refine ⟨Lim_rep n, fun hne => ?_⟩
  induction n using Nat.strongRecOn with
  | ind n ih =>
    by_cases h : n = 0
    · subst h; exact absurd rep_zero hne
    · by_cases h2 : n / 1000000000 = 0
      · have e : rep n = [((n % 1000000000 : Nat) : Int)] := by rw [rep_pos h, h2, rep_zero]
        simp only [e, List.getLast_singleton]; omega
      · have e := rep_pos h
        simp only [e]
        rw [List.getLast_cons (rep_ne h2)]
        exact ih _ (by omega) (rep_ne h2)
theorem Can_ge {L : List Int} (h : Can L) (hne : L ≠ []) : pw (L.length - 1) ≤ val L := by
  have hl : 0 < L.length := List.length_pos_iff.mpr hne
  have h1 := h.2 hne
  rw [List.getLast_eq_getElem] at h1
  have h2 := val_split L (k := L.length - 1) (by omega)
  have h3 := val_nonneg (Lim_take h.1 (L.length - 1))
  rw [val_drop (by omega), val_drop_end (by omega)] at h2
  have h4 := Lim_at h.1 (i := L.length - 1) (by omega)
  have h5 := pw_pos (L.length - 1)
  have h6 : pw (L.length - 1) * 1 ≤ pw (L.length - 1) * (L[L.length - 1] + 1000000000 * 0) := Int.mul_le_mul_of_nonneg_left (by omega) (by omega)
  omega
theorem Can_len {L : List Int} (h : Can L) {k : Nat} : L.length ≤ k ↔ val L < pw k := by
  constructor
  · intro hk
    have := val_lt h.1
    have := pw_le hk
    omega
  · intro hk
    by_cases hne : L = []
    · subst hne; simp
    · have h1 := Can_ge h hne
      rcases Nat.lt_or_ge k L.length with hlt | hge
      · have := pw_le (m := k) (n := L.length - 1) (by omega)
        omega
      · exact hge
theorem Can_take {L : List Int} (h : Lim L) {n : Nat} (hn : n ≤ L.length) (h0 : ∀ k (hk : k < L.length), n = k + 1 → L[k] ≠ 0) : Can (L.take n) := by
  refine ⟨Lim_take h n, fun hne => ?_⟩
  have hl : 0 < (L.take n).length := List.length_pos_iff.mpr hne
  rw [List.length_take] at hl
  rw [List.getLast_eq_getElem]
  simp only [List.getElem_take, List.length_take]
  have := h0 (min n L.length - 1) (by omega) (by omega)
  exact this
theorem Can_drop {L : List Int} (h : Can L) (k : Nat) : Can (L.drop k) := by
  refine ⟨Lim_drop h.1 k, fun hne => ?_⟩
  have hl : 0 < (L.drop k).length := List.length_pos_iff.mpr hne
  rw [List.length_drop] at hl
  have h1 := h.2 (by intro e; subst e; simp at hl)
  rw [List.getLast_drop]
  exact h1
theorem trim_step {L : List Int} {k : Nat} (hk : k < L.length) (h0 : L[k] = 0) : val (L.take k) = val (L.take (k + 1)) := by
  rw [val_take_succ hk, h0]; simp
theorem trim_end {L : List Int} (h : Lim L) {n : Nat} (hn : n ≤ L.length) (hv : val (L.take n) = val L) (h0 : ∀ k (hk : k < L.length), n = k + 1 → L[k] ≠ 0) : L.take n = rep (val L).toNat := by
  rw [← hv, rep_val (Can_take h hn h0)]

/-- A list is a natural number of at most 60 limbs. -/
def nok (L : List Int) : Bool := decide (L.length ≤ 60) && (L.all fun x => decide (0 ≤ x) && decide (x < 1000000000)) && decide (∀ h : L ≠ [], L.getLast h ≠ 0)
theorem nok_iff {L : List Int} : nok L = true ↔ L.length ≤ 60 ∧ Can L := by
  simp only [nok, Can, Lim, Bool.and_eq_true, decide_eq_true_eq, List.all_eq_true]
  constructor
  · rintro ⟨⟨a, b⟩, c⟩; exact ⟨a, b, c⟩
  · rintro ⟨a, b, c⟩; exact ⟨⟨a, b⟩, c⟩
theorem nok_no_len {L : List Int} (h : 60 < L.length) : nok L = false := by
  cases e : nok L
  · rfl
  · have := nok_iff.1 e; omega
theorem nok_no_at {L : List Int} {i : Nat} (hi : i < L.length) (h : L[i] < 0 ∨ 1000000000 ≤ L[i]) : nok L = false := by
  cases e : nok L
  · rfl
  · have := Lim_at (nok_iff.1 e).2.1 hi; omega
theorem nok_no_last {L : List Int} {n : Nat} (hn : L.length = n + 1) (h : ∀ hi : n < L.length, L[n] = 0) : nok L = false := by
  cases e : nok L
  · rfl
  · have hne : L ≠ [] := by intro e; subst e; simp at hn
    have := (nok_iff.1 e).2.2 hne
    rw [List.getLast_eq_getElem] at this
    exact absurd (by simpa [hn] using h (by omega)) this
theorem nok_yes {L : List Int} (hl : L.length ≤ 60) (h : ∀ i (hi : i < L.length), 0 ≤ L[i] ∧ L[i] < 1000000000) (h0 : ∀ n (hi : n < L.length), L.length = n + 1 → L[n] ≠ 0) : nok L = true := by
  refine nok_iff.2 ⟨hl, fun x hx => ?_, fun hne => ?_⟩
  · obtain ⟨i, hi, rfl⟩ := List.getElem_of_mem hx
    exact h i hi
  · have := List.length_pos_iff.mpr hne
    rw [List.getLast_eq_getElem]
    exact h0 _ _ (by omega)

def sgn (x : Int) : Int := if x < 0 then -1 else if 0 < x then 1 else 0
/-- The comparison of two lists of limbs, as both programs compute it: of the first k limbs, from the top. -/
def cmpTo (A B : List Int) : Nat → Int
  | 0 => 0
  | k + 1 => if A.getD k 0 < B.getD k 0 then -1 else if B.getD k 0 < A.getD k 0 then 1 else cmpTo A B k
def cmpL (A B : List Int) : Int := if A.length < B.length then -1 else if B.length < A.length then 1 else cmpTo A B A.length
theorem cmpTo_val {A B : List Int} (hA : Lim A) (hB : Lim B) : ∀ k, k ≤ A.length → k ≤ B.length → cmpTo A B k = sgn (val (A.take k) - val (B.take k))
  | 0, _, _ => by simp [cmpTo, sgn, val]
  | k + 1, h1, h2 => by
    have hp := pw_pos k
    have ea : A.getD k 0 = A[k] := by simp [show k < A.length by omega]
    have eb : B.getD k 0 = B[k] := by simp [show k < B.length by omega]
    have la := val_lt (Lim_take hA k)
    have lb := val_lt (Lim_take hB k)
    have na := val_nonneg (Lim_take hA k)
    have nb := val_nonneg (Lim_take hB k)
    rw [List.length_take, Nat.min_eq_left (by omega)] at la lb
    rw [val_take_succ (show k < A.length by omega), val_take_succ (show k < B.length by omega)]
    simp only [cmpTo, ea, eb]
    split
    · next hlt =>
      have : pw k * (A[k] + 1) ≤ pw k * B[k] := Int.mul_le_mul_of_nonneg_left (by omega) (by omega)
      rw [Int.mul_add] at this
      unfold sgn
      rw [if_pos (by omega)]
    · split
      · next _ hlt =>
        have : pw k * (B[k] + 1) ≤ pw k * A[k] := Int.mul_le_mul_of_nonneg_left (by omega) (by omega)
        rw [Int.mul_add] at this
        unfold sgn
        rw [if_neg (by omega), if_pos (by omega)]
      · rw [cmpTo_val hA hB k (by omega) (by omega)]
        have e : A[k] = B[k] := by omega
        rw [e]
        congr 1
        omega
theorem cmpL_val {A B : List Int} (hA : Can A) (hB : Can B) : cmpL A B = sgn (val A - val B) := by
  unfold cmpL
  split
  · next h =>
    have h1 := val_lt hA.1
    have h2 := Can_ge hB (by intro e; subst e; simp at h)
    have h3 := pw_le (m := A.length) (n := B.length - 1) (by omega)
    unfold sgn; rw [if_pos (by omega)]
  · split
    · next h =>
      have h1 := val_lt hB.1
      have h2 := Can_ge hA (by intro e; subst e; simp at h)
      have h3 := pw_le (m := B.length) (n := A.length - 1) (by omega)
      unfold sgn; rw [if_neg (by omega), if_pos (by omega)]
    · have e : A.length = B.length := by omega
      rw [cmpTo_val hA.1 hB.1 _ (Nat.le_refl _) (by omega), List.take_length, e, List.take_length]
theorem cmpTo_lt {A B : List Int} {k : Nat} (ha : k < A.length) (hb : k < B.length) (h : A[k] < B[k]) : cmpTo A B (k + 1) = -1 := by
  simp [cmpTo, ha, hb, h]
theorem cmpTo_gt {A B : List Int} {k : Nat} (ha : k < A.length) (hb : k < B.length) (h : B[k] < A[k]) : cmpTo A B (k + 1) = 1 := by
  have : ¬ A[k] < B[k] := by omega
  simp [cmpTo, ha, hb, h, this]
theorem cmpTo_eq {A B : List Int} {k : Nat} (ha : k < A.length) (hb : k < B.length) (h : A[k] = B[k]) : cmpTo A B (k + 1) = cmpTo A B k := by
  simp [cmpTo, ha, hb, h]
theorem cmpL_lt {A B : List Int} (h : A.length < B.length) : cmpL A B = -1 := by simp [cmpL, h]
theorem cmpL_gt {A B : List Int} (h : B.length < A.length) : cmpL A B = 1 := by
  have : ¬ A.length < B.length := by omega
  simp [cmpL, h, this]
theorem cmpL_same {A B : List Int} (h : A.length = B.length) : cmpL A B = cmpTo A B A.length := by simp [cmpL, h]
theorem sgn_cases (x : Int) : (x < 0 ∧ sgn x = -1) ∨ (x = 0 ∧ sgn x = 0) ∨ (0 < x ∧ sgn x = 1) := by
  unfold sgn
  by_cases h : x < 0
  · exact .inl ⟨h, by simp [h]⟩
  · by_cases h2 : 0 < x
    · exact .inr (.inr ⟨h2, by simp [h, h2]⟩)
    · exact .inr (.inl ⟨by omega, by simp [h, h2]⟩)
/-- What has more than 60 limbs is no result. -/
def capped (n : Int) : List Int := if n < pw 60 then rep n.toNat else []
theorem capped_yes {n : Int} (h : (rep n.toNat).length ≤ 60) (h0 : 0 ≤ n) : capped n = rep n.toNat := by
  have h1 := (Can_len (Can_rep n.toNat) (k := 60)).1 h
  rw [val_rep] at h1
  unfold capped
  rw [if_pos (by omega)]
theorem capped_no {n : Int} (h : 60 < (rep n.toNat).length) (h0 : 0 ≤ n) : capped n = [] := by
  unfold capped
  rw [if_neg]
  intro hlt
  have h1 := (Can_len (Can_rep n.toNat) (k := 60)).2 (by rw [val_rep]; omega)
  omega
end Go.Proofs.Ytdffmeinofgdgaa
