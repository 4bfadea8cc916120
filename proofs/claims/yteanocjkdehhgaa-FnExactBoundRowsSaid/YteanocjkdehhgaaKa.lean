/- Merged: Gs Ka. -/
import Derived.Test.YteanocjkdehhgaaRwa
import Derived.Deep.RegionHeld3
/- Slices of structs of any kind: of one's own, and such as are only read. -/
namespace Go.Proofs.Yteanocjkdehhgaa
open Go.RowKit
open Go.Lib (hid)
set_option linter.unusedVariables false
section

/-- A kind of struct: its cells, where what it holds lies, what is said of it. -/
structure Kd (α : Type) where
  n : Nat
  cs : α → List Value
  len : ∀ e, (cs e).length = n
  inr : α → Nat → Prop
  P : World → α → Prop
  keep : ∀ {w w' : World} {e : α} {S : Nat → Prop}, P w e → Only S w w' → (∀ k, inr e k → ¬ S k) → P w' e
  lt : ∀ {w : World} {e : α}, P w e → ∀ k, inr e k → k < w.heap.size
variable {α : Type} {D : Kd α} {T : TypeId}
def flatG (D : Kd α) (E : List α) : List Value := E.flatMap D.cs
theorem flatG_cons (e : α) (E : List α) : flatG D (e :: E) = D.cs e ++ flatG D E := rfl
theorem flatG_append (E F : List α) : flatG D (E ++ F) = flatG D E ++ flatG D F := by simp [flatG]
theorem flatG_one (e : α) : flatG D [e] = D.cs e := by simp [flatG]
theorem flatG_len : ∀ E : List α, (flatG D E).length = E.length * D.n
  | [] => by simp [flatG]
  | e :: E => by
    rw [flatG_cons, List.length_append, flatG_len E, D.len, List.length_cons, Nat.succ_mul]
    omega
theorem flatG_get : ∀ (E : List α) (i j : Nat) (h : i < E.length), j < D.n → (flatG D E)[i * D.n + j]? = (D.cs E[i])[j]?
  | e :: E, 0, j, _, hj => by
    rw [flatG_cons, Nat.zero_mul, Nat.zero_add, List.getElem?_append_left (by rw [D.len]; exact hj)]
    rfl
  | e :: E, i + 1, j, h, hj => by
    have := flatG_get E i j (by simpa using h) hj
    rw [flatG_cons, List.getElem?_append_right (by rw [D.len, Nat.succ_mul]; omega), D.len, show (i + 1) * D.n + j - D.n = i * D.n + j by rw [Nat.succ_mul]; omega, this]
    rfl
theorem flatG_set : ∀ (E : List α) (i : Nat) (h : i < E.length) (e : α), D.cs e = D.cs E[i] → flatG D (E.set i e) = flatG D E
  | _ :: E, 0, _, e, he => by
    rw [List.set_cons_zero, flatG_cons, flatG_cons]
    rw [List.getElem_cons_zero] at he
    rw [he]
  | x :: E, i + 1, h, e, he => by
    rw [List.set_cons_succ, flatG_cons, flatG_cons, flatG_set E i (by simpa using h) e (by simpa using he)]
/-- A slice of structs of one's own: it and what its structs hold lie in the blocks S; no two structs share memory. -/
structure GO (D : Kd α) (T : TypeId) (w : World) (v : Value) (E : List α) (lo : Nat) (S : Nat → Prop) : Prop where
  row : w.ownsRow lo T D.n v E.length (flatG D E)
  high : ∀ k, v.ownBlock = some k → S k
  el : ∀ e ∈ E, D.P w e
  rg : ∀ e ∈ E, ∀ k, D.inr e k → S k
  out : ∀ e ∈ E, ∀ k, v.ownBlock = some k → ¬ D.inr e k
  ap : E.Pairwise fun e e' => ∀ k, D.inr e k → ¬ D.inr e' k
theorem GO.lt {w : World} {v : Value} {E : List α} {lo : Nat} {S : Nat → Prop} (h : GO D T w v E lo S) : ∀ k, v.ownBlock = some k → lo ≤ k ∧ k < w.heap.size := h.row.lt
theorem GO.only {w w' : World} {v : Value} {E : List α} {lo : Nat} {S S' : Nat → Prop} (h : GO D T w v E lo S) (hb : Only S' w w') (hd : ∀ k, S k → ¬ S' k) : GO D T w' v E lo S :=
  ⟨own_block h.row fun k hk => hb.block k (hd k (h.high k hk)), h.high, fun e he => D.keep (h.el e he) hb fun k hk => hd k (h.rg e he k hk), h.rg, h.out, h.ap⟩
theorem only_old {w w' : World} (hb : Below w.heap.size w w') : Only (fun k => w.heap.size ≤ k) w w' := Only.of_below hb fun k hk => hk
theorem GO.old {w w' : World} {v : Value} {E : List α} {lo : Nat} {S : Nat → Prop} (h : GO D T w v E lo S) (hb : Below w.heap.size w w') : GO D T w' v E lo S :=
  ⟨own_block h.row fun k hk => hb.block k (h.lt k hk).2, h.high, fun e he => D.keep (h.el e he) (only_old hb) fun k hk => by have := D.lt (h.el e he) k hk; omega, h.rg, h.out, h.ap⟩
theorem GO.mono {w : World} {v : Value} {E : List α} {lo lo' : Nat} {S S' : Nat → Prop} (h : GO D T w v E lo S) (hl : lo' ≤ lo) (hs : ∀ k, S k → S' k) : GO D T w v E lo' S' :=
  ⟨own_base h.row hl, fun k hk => hs k (h.high k hk), h.el, fun e he k hk => hs k (h.rg e he k hk), h.out, h.ap⟩
theorem GO_nil (w : World) (lo : Nat) (S : Nat → Prop) : GO D T w (.slice none 0 0) [] lo S :=
  ⟨World.ownsRow_nil _ _ _ _, fun k hk => by simp [Value.ownBlock] at hk, fun e he => (by cases he), fun e he => (by cases he), fun e he => (by cases he), List.Pairwise.nil⟩
theorem GO.cases {w : World} {v : Value} {E : List α} {lo : Nat} {S : Nat → Prop} (h : GO D T w v E lo S) :
    (v = .slice none 0 0 ∧ E = []) ∨ ∃ g cap, v = .slice (some ⟨g, 0, none⟩) E.length cap ∧ lo ≤ g ∧ S g ∧ g < w.heap.size ∧ E.length ≤ cap ∧ cap ≤ maxLen := by
  rcases h.row.2 with ⟨h1, h2⟩ | ⟨g, cap, cur, h1, h2, h3, h4, h5, -⟩
  · exact .inl ⟨h1, List.eq_nil_of_length_eq_zero h2⟩
  · exact .inr ⟨g, cap, h1, h2, h.high g (by rw [h1]; rfl), (Array.getElem?_eq_some_iff.1 h3).1, h4, h5⟩
theorem GO.form {w : World} {v : Value} {E : List α} {lo : Nat} {S : Nat → Prop} (h : GO D T w v E lo S) : ∃ a c, v = .slice a E.length c ∧ E.length ≤ c := by
  rcases h.cases with ⟨rfl, rfl⟩ | ⟨g, cap, rfl, -, -, -, h4, -⟩
  · exact ⟨none, 0, rfl, Nat.le_refl _⟩
  · exact ⟨_, cap, rfl, h4⟩
theorem GO.len {w : World} {v : Value} {E : List α} {lo : Nat} {S : Nat → Prop} (h : GO D T w v E lo S) : E.length ≤ maxLen := by
  rcases h.cases with ⟨rfl, rfl⟩ | ⟨g, cap, rfl, -, -, -, h4, h5⟩
  · exact Nat.zero_le _
  · omega
theorem GO.num {w : World} {a : Option Addr} {n c : Nat} {E : List α} {lo : Nat} {S : Nat → Prop} (h : GO D T w (.slice a n c) E lo S) : n = E.length := by
  rcases h.cases with ⟨h1, rfl⟩ | ⟨g, cap, h1, -⟩ <;> simp only [Value.slice.injEq] at h1
  · exact h1.2.1
  · exact h1.2.1
theorem GO.pos {w : World} {a : Option Addr} {n c : Nat} {E : List α} {lo : Nat} {S : Nat → Prop} (h : GO D T w (.slice a n c) E lo S) (h0 : 0 < E.length) : ∃ g, a = some ⟨g, 0, none⟩ ∧ n = E.length ∧ lo ≤ g ∧ S g ∧ g < w.heap.size := by
  rcases h.cases with ⟨-, rfl⟩ | ⟨g, cap, h1, h2, h3, h4, -⟩
  · simp at h0
  · simp only [Value.slice.injEq] at h1
    exact ⟨g, h1.1, h1.2.1, h2, h3, h4⟩
theorem GO.cell {w : World} {g n c : Nat} {E : List α} {lo : Nat} {S : Nat → Prop} (h : GO D T w (.slice (some ⟨g, 0, none⟩) n c) E lo S) {i : Nat} (hi : i < E.length) (j : Nat) {x : Value} (hx : (D.cs E[i])[j]? = some x) : w.cell? ⟨g, i * D.n + j, none⟩ = some x := by
  have hj : j < D.n := by have := (List.getElem?_eq_some_iff.1 hx).1; rwa [D.len] at this
  have hc := h.row.cells (g := g) rfl _ _ ((flatG_get E i j hi hj).trans hx)
  rwa [Go.WideShapes.add_plain, Nat.zero_add] at hc
theorem GO.free {w : World} {g n c : Nat} {E : List α} {lo : Nat} {S : Nat → Prop} (h : GO D T w (.slice (some ⟨g, 0, none⟩) n c) E lo S) (i : Nat) : w.frozen? ⟨g, i, none⟩ = false := by
  have hn := h.num
  subst hn
  exact World.ownsRow.frozenAt h.row i
/-- What a struct of a slice holds is written anew, in its own memory. -/
theorem GO.inel {w w' : World} {v : Value} {E : List α} {lo i : Nat} {S : Nat → Prop} (h : GO D T w v E lo S) (hi : i < E.length) {e : α} (hc : D.cs e = D.cs E[i]) (hr : ∀ k, D.inr e k → D.inr E[i] k) (hb : Only (fun k => D.inr E[i] k ∨ w.heap.size ≤ k) w w') (hp : D.P w' e) : GO D T w' v (E.set i e) lo S := by
  have hm := List.getElem_mem hi
  refine ⟨?_, h.high, fun x hx => ?_, fun x hx k hk => ?_, fun x hx k hk hin => ?_, ?_⟩
  · rw [List.length_set, flatG_set E i hi e hc]
    exact own_block h.row fun k hk => hb.block k fun hs => hs.elim (h.out _ hm k hk) fun e => by have := (h.lt k hk).2; omega
  · rcases List.mem_iff_getElem.1 hx with ⟨j, hj, rfl⟩
    simp only [List.length_set] at hj
    simp only [List.getElem_set]
    by_cases e0 : i = j
    · rw [if_pos e0]; exact hp
    · rw [if_neg e0]
      refine D.keep (h.el _ (List.getElem_mem hj)) hb fun k hk hs => ?_
      have hw := List.pairwise_iff_getElem.1 h.ap
      rcases hs with hs | hs
      case inr => have := D.lt (h.el _ (List.getElem_mem hj)) k hk; omega
      rcases Nat.lt_or_gt_of_ne e0 with hl | hl
      · exact hw i j hi hj hl k hs hk
      · exact hw j i hj hi hl k hk hs
  · rcases List.mem_or_eq_of_mem_set hx with hx | rfl
    · exact h.rg x hx k hk
    · exact h.rg _ hm k (hr k hk)
  · rcases List.mem_or_eq_of_mem_set hx with hx | rfl
    · exact h.out x hx k hk hin
    · exact h.out _ hm k hk (hr k hin)
  · rw [List.pairwise_iff_getElem]
    intro a b ha hb' hab k h1 h2
    have hw := List.pairwise_iff_getElem.1 h.ap
    simp only [List.length_set] at ha hb'
    simp only [List.getElem_set] at h1 h2
    by_cases ea : i = a
    · subst ea
      rw [if_pos rfl] at h1
      rw [if_neg (by omega)] at h2
      exact hw i b ha hb' hab k (hr k h1) h2
    · rw [if_neg ea] at h1
      by_cases eb : i = b
      · subst eb
        rw [if_pos rfl] at h2
        exact hw a i ha hb' hab k h1 (hr k h2)
      · rw [if_neg eb] at h2
        exact hw a b ha hb' hab k h1 h2
/-- A struct of a slice is written anew. -/
theorem GO.put {w w' : World} {g n c : Nat} {E : List α} {lo i : Nat} {S : Nat → Prop} (h : GO D T w (.slice (some ⟨g, 0, none⟩) n c) E lo S) (hi : i < E.length) {e : α} (hrow : w'.ownsRow lo T D.n (.slice (some ⟨g, 0, none⟩) n c) E.length (flatG D (E.set i e))) (hb : Only (fun k => k = g) w w') (hp : D.P w' e)
    (hs : ∀ k, D.inr e k → S k) (hg : ¬ D.inr e g) (ha : ∀ j (hj : j < E.length), j ≠ i → ∀ k, D.inr E[j] k → ¬ D.inr e k) : GO D T w' (.slice (some ⟨g, 0, none⟩) n c) (E.set i e) lo S := by
  have own : ∀ k, (Value.slice (some ⟨g, 0, none⟩) n c).ownBlock = some k → k = g := fun k hk => by simp [Value.ownBlock] at hk; omega
  refine ⟨by rw [List.length_set]; exact hrow, h.high, fun x hx => ?_, fun x hx k hk => ?_, fun x hx k hk hin => ?_, ?_⟩
  · rcases List.mem_or_eq_of_mem_set hx with hx | rfl
    · exact D.keep (h.el x hx) hb fun k hk e0 => h.out x hx g rfl (e0 ▸ hk)
    · exact hp
  · rcases List.mem_or_eq_of_mem_set hx with hx | rfl
    · exact h.rg x hx k hk
    · exact hs k hk
  · rcases List.mem_or_eq_of_mem_set hx with hx | rfl
    · exact h.out x hx k hk hin
    · exact hg (own k hk ▸ hin)
  · rw [List.pairwise_iff_getElem]
    intro a b ha' hb' hab k h1 h2
    have hw := List.pairwise_iff_getElem.1 h.ap
    simp only [List.length_set] at ha' hb'
    simp only [List.getElem_set] at h1 h2
    by_cases ea : i = a
    · subst ea
      rw [if_pos rfl] at h1
      rw [if_neg (by omega)] at h2
      exact ha b hb' (by omega) k h2 h1
    · rw [if_neg ea] at h1
      by_cases eb : i = b
      · subst eb
        rw [if_pos rfl] at h2
        exact ha a ha' (by omega) k h1 h2
      · rw [if_neg eb] at h2
        exact hw a b ha' hb' hab k h1 h2
def setAll : List Value → Nat → List Value → List Value
  | l, _, [] => l
  | l, o, x :: xs => setAll (l.set o x) (o + 1) xs
def setW : World → Nat → Nat → List Value → World
  | w, _, _, [] => w
  | w, g, o, x :: xs => setW (w.setCell ⟨g, o, none⟩ x) g (o + 1) xs
theorem setAll_mid : ∀ (xs a b r : List Value), xs.length = b.length → setAll (a ++ (b ++ r)) a.length xs = a ++ (xs ++ r)
  | [], a, b, r, h => by
    have hb : b = [] := List.eq_nil_of_length_eq_zero (by simpa using h.symm)
    subst hb
    rfl
  | x :: xs, a, b, r, h => by
    obtain ⟨y, b', rfl⟩ : ∃ y b', b = y :: b' := by
      cases b with
      | nil => simp at h
      | cons y b' => exact ⟨y, b', rfl⟩
    have := setAll_mid xs (a ++ [x]) b' r (by simpa using h)
    simp only [setAll]
    rw [List.set_append_right _ _ (Nat.le_refl _), Nat.sub_self]
    simpa using this
theorem setAll_app : ∀ (xs p l : List Value) (o : Nat), setAll (p ++ l) (p.length + o) xs = p ++ setAll l o xs
  | [], _, _, _ => rfl
  | x :: xs, p, l, o => by
    simp only [setAll]
    rw [List.set_append_right _ _ (Nat.le_add_right _ _), Nat.add_sub_cancel_left, Nat.add_assoc]
    exact setAll_app xs p _ (o + 1)
theorem flatG_sets : ∀ (E : List α) (i : Nat) (h : i < E.length) (e : α), flatG D (E.set i e) = setAll (flatG D E) (i * D.n) (D.cs e)
  | x :: E, 0, _, e => by
    have := setAll_mid (D.cs e) [] (D.cs x) (flatG D E) (by rw [D.len, D.len])
    rw [List.set_cons_zero, flatG_cons, flatG_cons, Nat.zero_mul]
    exact this.symm
  | x :: E, i + 1, h, e => by
    have h1 := flatG_sets E i (by simpa using h) e
    have h2 := setAll_app (D.cs e) (D.cs x) (flatG D E) (i * D.n)
    rw [D.len x] at h2
    rw [List.set_cons_succ, flatG_cons, flatG_cons, h1, Nat.succ_mul, Nat.add_comm (i * D.n)]
    exact h2.symm
theorem setW_size : ∀ (xs : List Value) (w : World) (g o : Nat), (setW w g o xs).heap.size = w.heap.size
  | [], _, _, _ => rfl
  | x :: xs, w, g, o => by simp only [setW]; rw [setW_size xs]; exact size_set _ _ _
theorem setW_only : ∀ (xs : List Value) (w : World) (g o : Nat), Only (fun k => k = g) w (setW w g o xs)
  | [], w, g, o => Only.refl _ w
  | x :: xs, w, g, o => ((Only.refl (fun k => k = g) w).setCell (p := ⟨g, o, none⟩) rfl x).trans (setW_only xs _ g (o + 1))
theorem setW_own : ∀ (xs : List Value) {w : World} {lo g n cap k o : Nat} {ys : List Value}, w.ownsRow lo T k (.slice (some ⟨g, 0, none⟩) n cap) n ys → (setW w g o xs).ownsRow lo T k (.slice (some ⟨g, 0, none⟩) n cap) n (setAll ys o xs)
  | [], _, _, _, _, _, _, _, _, h => h
  | x :: xs, _, _, _, _, _, _, o, _, h => setW_own xs (World.ownsRow.stored h o x).1
/-- All cells of a struct of a slice are written anew. -/
theorem GO.puts {w : World} {g n c : Nat} {E : List α} {lo i : Nat} {S : Nat → Prop} (h : GO D T w (.slice (some ⟨g, 0, none⟩) n c) E lo S) (hi : i < E.length) (e : α) (hp : D.P w e)
    (hs : ∀ k, D.inr e k → S k) (hg : ¬ D.inr e g) (ha : ∀ j (hj : j < E.length), j ≠ i → ∀ k, D.inr E[j] k → ¬ D.inr e k) : GO D T (setW w g (i * D.n) (D.cs e)) (.slice (some ⟨g, 0, none⟩) n c) (E.set i e) lo S := by
  have hn := h.num
  subst hn
  refine h.put hi ?_ (setW_only _ _ _ _) (D.keep hp (setW_only (D.cs e) w g (i * D.n)) fun k hk e0 => hg (e0 ▸ hk)) hs hg ha
  rw [flatG_sets E i hi e]
  exact setW_own _ h.row
theorem flatG_setj : ∀ (E : List α) (i j : Nat) (h : i < E.length) (hj : j < D.n) (e : α) (x : Value), D.cs e = (D.cs E[i]).set j x → flatG D (E.set i e) = (flatG D E).set (i * D.n + j) x
  | y :: E, 0, j, _, hj, e, x, hc => by
    rw [List.getElem_cons_zero] at hc
    rw [List.set_cons_zero, flatG_cons, flatG_cons, Nat.zero_mul, Nat.zero_add, List.set_append_left _ _ (by rw [D.len]; exact hj), hc]
  | y :: E, i + 1, j, h, hj, e, x, hc => by
    have h1 := flatG_setj E i j (by simpa using h) hj e x (by simpa using hc)
    rw [List.set_cons_succ, flatG_cons, flatG_cons, h1, List.set_append_right _ _ (by rw [D.len, Nat.succ_mul]; omega), D.len, show (i + 1) * D.n + j - D.n = i * D.n + j by rw [Nat.succ_mul]; omega]
/-- One cell of a struct of a slice is written anew. -/
theorem GO.putc {w : World} {g n c : Nat} {E : List α} {lo i : Nat} {S : Nat → Prop} (h : GO D T w (.slice (some ⟨g, 0, none⟩) n c) E lo S) (hi : i < E.length) (j : Nat) (hj : j < D.n) {x : Value} (e : α) (hc : D.cs e = (D.cs E[i]).set j x) (hr : ∀ k, D.inr e k → D.inr E[i] k) (hp : ∀ w, D.P w E[i] → D.P w e) :
    GO D T (w.setCell ⟨g, i * D.n + j, none⟩ x) (.slice (some ⟨g, 0, none⟩) n c) (E.set i e) lo S := by
  have hn := h.num
  subst hn
  have hm := List.getElem_mem hi
  have hb : Only (fun k => k = g) w (w.setCell ⟨g, i * D.n + j, none⟩ x) := (Only.refl (fun k => k = g) w).setCell (p := ⟨g, i * D.n + j, none⟩) rfl x
  have hw := List.pairwise_iff_getElem.1 h.ap
  refine h.put hi ?_ hb (hp _ (D.keep (h.el _ hm) hb fun k hk e0 => h.out _ hm g rfl (e0 ▸ hk))) (fun k hk => h.rg _ hm k (hr k hk)) (fun hg => h.out _ hm g rfl (hr g hg)) fun j hj hne k h1 h2 => ?_
  · rw [flatG_setj E i j hi hj e x hc]
    exact (World.ownsRow.stored h.row _ x).1
  · rcases Nat.lt_or_gt_of_ne hne with hl | hl
    · exact hw j i hj hi hl k h1 (hr k h2)
    · exact hw i j hi hj hl k (hr k h2) h1
/-- Structs are appended. -/
theorem GO.onto {w w1 : World} {v : Value} {E F : List α} {lo g n cap : Nat} {S S' : Nat → Prop} (h : GO D T w v E lo S) (hrow : w1.ownsRow lo T D.n (.slice (some ⟨g, 0, none⟩) n cap) n (flatG D E ++ flatG D F)) (hn : n = E.length + F.length) (hg : w.grownBy w1 v.ownBlock) (hat : v.ownBlock = some g ∨ g = w.heap.size)
    (hF : ∀ e ∈ F, D.P w e) (hS : ∀ k, S k → S' k) (hS1 : S' w.heap.size) (hFr : ∀ e ∈ F, ∀ k, D.inr e k → S' k) (hFo : ∀ e ∈ F, ∀ k, v.ownBlock = some k → ¬ D.inr e k) (hEF : ∀ e ∈ E, ∀ f ∈ F, ∀ k, D.inr e k → ¬ D.inr f k) (hFF : F.Pairwise fun e e' => ∀ k, D.inr e k → ¬ D.inr e' k) :
    GO D T w1 (.slice (some ⟨g, 0, none⟩) n cap) (E ++ F) lo S' := by
  subst hn
  have own : ∀ k, (Value.slice (some ⟨g, 0, none⟩) (E.length + F.length) cap).ownBlock = some k → k = g := fun k hk => by simp [Value.ownBlock] at hk; omega
  have ho : Only (fun k => some k = v.ownBlock ∨ w.heap.size ≤ k) w w1 := ⟨hg.os, hg.tape, hg.output, hg.size, fun k hk => hg.block k (Nat.lt_of_not_le fun e => hk (.inr e)) fun e => hk (.inl e)⟩
  have all : ∀ x ∈ E ++ F, D.P w x ∧ (∀ k, D.inr x k → S' k) ∧ ∀ k, v.ownBlock = some k → ¬ D.inr x k := fun x hx => by
    rcases List.mem_append.1 hx with hx | hx
    · exact ⟨h.el x hx, fun k hk => hS k (h.rg x hx k hk), h.out x hx⟩
    · exact ⟨hF x hx, hFr x hx, hFo x hx⟩
  refine ⟨by rw [List.length_append, flatG_append]; exact hrow, fun k hk => ?_, fun x hx => ?_, fun x hx => (all x hx).2.1, fun x hx k hk hin => ?_, ?_⟩
  · rw [own k hk]
    rcases hat with e | e
    · exact hS _ (h.high g e)
    · rw [e]; exact hS1
  · refine D.keep (all x hx).1 ho fun k hk hs => ?_
    rcases hs with e | e
    · exact (all x hx).2.2 k e.symm hk
    · have := D.lt (all x hx).1 k hk
      omega
  · rw [own k hk] at hin
    rcases hat with e | e
    · exact (all x hx).2.2 g e hin
    · have := D.lt (all x hx).1 g hin
      omega
  · exact List.pairwise_append.2 ⟨h.ap, hFF, hEF⟩
/-- A slice that is made: each struct is the zero value. -/
theorem GO_made {w : World} {z : Array Value} {e0 : α} {S : Nat → Prop} (n : Nat) (hn : n ≤ maxLen) (hN : 0 < D.n) (hz : (D.cs e0).toArray = z) (hS : S w.heap.size) (hP : ∀ w, D.P w e0) (hi : ∀ k, ¬ D.inr e0 k) :
    GO D T (w.alloc (.cells (madeCells z (n * D.n)) T)) (.slice (some ⟨w.heap.size, 0, none⟩) n n) (List.replicate n e0) w.heap.size S := by
  have hrep : ∀ e ∈ List.replicate n e0, e = e0 := fun e he => (List.mem_replicate.1 he).2
  have hflat : flatG D (List.replicate n e0) = (madeCells z (n * D.n)).toList := by
    subst hz
    apply List.ext_getElem?
    intro j
    by_cases hj : j < n * D.n
    · have hq : j / D.n < (List.replicate n e0).length := by
        rw [List.length_replicate]
        exact Nat.div_lt_of_lt_mul (by rw [Nat.mul_comm]; exact hj)
      have h1 := flatG_get (D := D) (List.replicate n e0) (j / D.n) (j % D.n) hq (Nat.mod_lt _ hN)
      rw [show j / D.n * D.n + j % D.n = j by rw [Nat.mul_comm]; exact Nat.div_add_mod j D.n] at h1
      rw [h1, List.getElem_replicate]
      have hlen := D.len e0
      have h2 : j % D.n < (D.cs e0).length := by rw [hlen]; exact Nat.mod_lt _ hN
      simp [madeCells, hj, hlen]
      rw [List.getElem?_eq_getElem h2]
      rfl
    · rw [List.getElem?_eq_none (by rw [flatG_len, List.length_replicate]; omega), List.getElem?_eq_none (by simp [size_madeCells]; omega)]
  refine ⟨⟨by rw [flatG_len], .inr ⟨w.heap.size, n, _, by rw [List.length_replicate], Nat.le_refl _, heap_alloc_new w _, by rw [List.length_replicate]; exact Nat.le_refl _, hn, by rw [size_madeCells], ?_⟩⟩, fun k hk => ?_, fun e he => ?_, fun e he k hk => ?_, fun e he k hk hin => ?_, ?_⟩
  · rw [List.length_replicate, hflat]
    exact List.take_of_length_le (by simp [size_madeCells])
  · simp [Value.ownBlock] at hk; subst hk; exact hS
  · rw [hrep e he]; exact hP _
  · rw [hrep e he] at hk; exact absurd hk (hi k)
  · rw [hrep e he] at hin; exact hi k hin
  · rw [List.pairwise_iff_getElem]
    intro a b ha hb hab k hk
    rw [List.getElem_replicate] at hk
    exact absurd hk (hi k)
/-- A slice of structs that is read: what its cells hold, and what is said of its structs. -/
structure GR (n : Nat) (cs : α → List Value) (P : World → α → Prop) (w : World) (v : Value) (E : List α) : Prop where
  ex : (E = [] ∧ ∃ a c, v = .slice a 0 c) ∨ ∃ g o c, v = .slice (some ⟨g, o, none⟩) E.length c ∧ g < w.heap.size ∧ ∀ i (hi : i < E.length) j x, (cs E[i])[j]? = some x → w.cell? ⟨g, o + i * n + j, none⟩ = some x
  el : ∀ e ∈ E, P w e
theorem GR.old {n : Nat} {cs : α → List Value} {P : World → α → Prop} {w w' : World} {v : Value} {E : List α} (hP : ∀ e, P w e → P w' e) (h : GR n cs P w v E) (hb : Below w.heap.size w w') : GR n cs P w' v E := by
  refine ⟨?_, fun e he => hP e (h.el e he)⟩
  rcases h.ex with h1 | ⟨g, o, c, h1, h2, h3⟩
  · exact .inl h1
  · exact .inr ⟨g, o, c, h1, Nat.lt_of_lt_of_le h2 hb.size, fun i hi j x hx => (hb.cell (p := ⟨g, o + i * n + j, none⟩) h2).trans (h3 i hi j x hx)⟩
theorem GO.r {P : World → α → Prop} {w : World} {v : Value} {E : List α} {lo : Nat} {S : Nat → Prop} (h : GO D T w v E lo S) (hP : ∀ e, D.P w e → P w e) : GR D.n D.cs P w v E := by
  refine ⟨?_, fun e he => hP e (h.el e he)⟩
  rcases h.cases with ⟨rfl, rfl⟩ | ⟨g, cap, rfl, -, -, h3, -⟩
  · exact .inl ⟨rfl, _, _, rfl⟩
  · exact .inr ⟨g, 0, cap, rfl, h3, fun i hi j x hx => by rw [Nat.zero_add]; exact h.cell hi j hx⟩
theorem GR.form {n : Nat} {cs : α → List Value} {P : World → α → Prop} {w : World} {v : Value} {E : List α} (h : GR n cs P w v E) : ∃ a c, v = .slice a E.length c := by
  rcases h.ex with ⟨rfl, a, c, h1⟩ | ⟨g, o, c, h1, -⟩
  · exact ⟨_, _, h1⟩
  · exact ⟨_, _, h1⟩
theorem GR.at {n : Nat} {cs : α → List Value} {P : World → α → Prop} {w : World} {a : Option Addr} {m c : Nat} {E : List α} (h : GR n cs P w (.slice a m c) E) {i : Nat} (hi : i < E.length) : ∃ g o, a = some ⟨g, o, none⟩ ∧ g < w.heap.size ∧ (∀ j x, (cs E[i])[j]? = some x → w.cell? ⟨g, o + i * n + j, none⟩ = some x) ∧ P w E[i] := by
  rcases h.ex with ⟨rfl, -⟩ | ⟨g, o, c', h1, h2, h3⟩
  · simp at hi
  · simp only [Value.slice.injEq] at h1
    exact ⟨g, o, h1.1, h2, h3 i hi, h.el _ (List.getElem_mem hi)⟩
theorem GR.num {n : Nat} {cs : α → List Value} {P : World → α → Prop} {w : World} {a : Option Addr} {m c : Nat} {E : List α} (h : GR n cs P w (.slice a m c) E) : m = E.length := by
  rcases h.ex with ⟨rfl, a', c', h1⟩ | ⟨g, o, c', h1, -⟩ <;> simp only [Value.slice.injEq] at h1
  · exact h1.2.1
  · exact h1.2.1
theorem bool_retK {a b : Bool} (h : a = b) : Ending.returned (.bool a) = .returned (.bool b) := by rw [h]
/-- Sums over a list. -/
def tot (f : α → Nat) : List α → Nat
  | [] => 0
  | e :: E => f e + tot f E
theorem tot_append (f : α → Nat) : ∀ K L : List α, tot f (K ++ L) = tot f K + tot f L
  | [], L => by simp [tot]
  | e :: K, L => by simp only [List.cons_append, tot, tot_append f K L]; omega
theorem tot_take (f : α → Nat) {K : List α} {k : Nat} (h : k < K.length) : tot f (K.take (k + 1)) = tot f (K.take k) + f K[k] := by
  rw [List.take_succ_eq_append_getElem h, tot_append]; simp [tot]
theorem tot_le (f : α → Nat) (K : List α) (k : Nat) : tot f (K.take k) ≤ tot f K := by
  have := tot_append f (K.take k) (K.drop k)
  rw [List.take_append_drop] at this
  omega
theorem tot_at (f : α → Nat) {K : List α} {k : Nat} (h : k < K.length) : tot f (K.take k) + f K[k] ≤ tot f K := by
  have := tot_take f h
  have := tot_le f K (k + 1)
  omega
theorem tot_len {f : α → Nat} (hf : ∀ e, 1 ≤ f e) : ∀ K : List α, K.length ≤ tot f K
  | [] => Nat.le_refl _
  | e :: K => by have := tot_len hf K; have := hf e; simp only [List.length_cons, tot]; omega
theorem tot_more {f : α → Nat} (hf : ∀ e, 1 ≤ f e) {K : List α} {k : Nat} (h : k < K.length) : tot f (K.take k) + f K[k] + (K.length - (k + 1)) ≤ tot f K := by
  have h1 := tot_append f (K.take (k + 1)) (K.drop (k + 1))
  rw [List.take_append_drop, tot_take f h] at h1
  have h2 := tot_len hf (K.drop (k + 1))
  rw [List.length_drop] at h2
  omega
theorem tot_two {f g : α → Nat} (hf : ∀ e, f e ≤ 2 * g e) : ∀ K : List α, tot f K ≤ 2 * tot g K
  | [] => Nat.le_refl _
  | e :: K => by have := tot_two hf K; have := hf e; simp only [tot]; omega
theorem tot_map {β : Type} (f : β → Nat) (q : α → β) : ∀ K : List α, tot f (K.map q) = tot (fun e => f (q e)) K
  | [] => rfl
  | e :: K => by simp only [List.map_cons, tot, tot_map f q K]
theorem tot_mem (f : α → Nat) {K : List α} {e : α} (h : e ∈ K) : f e ≤ tot f K := by
  obtain ⟨k, hk, rfl⟩ := List.getElem_of_mem h
  have := tot_at f hk
  omega
/-- Marks, one struct after another. -/
def mkG (f : α → Int → α) (n : α → Nat) : List α → Int → List α
  | [], _ => []
  | e :: E, m => f e m :: mkG f n E (m + (n e : Int))
theorem mkG_len (f : α → Int → α) (n : α → Nat) : ∀ (E : List α) (m : Int), (mkG f n E m).length = E.length
  | [], _ => rfl
  | e :: E, m => by simp [mkG, mkG_len f n E]
theorem mkG_append (f : α → Int → α) (n : α → Nat) : ∀ (E F : List α) (m : Int), mkG f n (E ++ F) m = mkG f n E m ++ mkG f n F (m + (tot n E : Int))
  | [], F, m => by simp [mkG, tot]
  | e :: E, F, m => by
    simp only [List.cons_append, mkG, mkG_append f n E F, tot]
    congr 3
    omega
theorem mkG_at (f : α → Int → α) (n : α → Nat) : ∀ (E : List α) (m : Int) (k : Nat) (h : k < E.length), (mkG f n E m)[k]'(by rw [mkG_len]; exact h) = f E[k] (m + (tot n (E.take k) : Int))
  | e :: E, m, 0, _ => by simp [mkG, tot]
  | e :: E, m, k + 1, h => by
    have := mkG_at f n E (m + (n e : Int)) k (by simpa using h)
    simp only [mkG, List.getElem_cons_succ, this, List.take_succ_cons, tot]
    congr 1
    omega
theorem mkG_map {β : Type} {f : α → Int → α} {n : α → Nat} {f' : β → Int → β} {n' : β → Nat} {q : α → β} (hq : ∀ e m, q (f e m) = f' (q e) m) (hn : ∀ e, n e = n' (q e)) : ∀ (E : List α) (m : Int), (mkG f n E m).map q = mkG f' n' (E.map q) m
  | [], _ => rfl
  | e :: E, m => by simp only [mkG, List.map_cons, hq, hn, mkG_map hq hn E]
/-- The first k structs are marked. -/
def mkdG (f : α → Int → α) (n : α → Nat) (E : List α) (m : Int) (k : Nat) : List α := mkG f n (E.take k) m ++ E.drop k
theorem mkdG_zero (f : α → Int → α) (n : α → Nat) (E : List α) (m : Int) : mkdG f n E m 0 = E := by simp [mkdG, mkG]
theorem mkdG_all (f : α → Int → α) (n : α → Nat) (E : List α) (m : Int) : mkdG f n E m E.length = mkG f n E m := by simp [mkdG]
theorem mkdG_len (f : α → Int → α) (n : α → Nat) {E : List α} {m : Int} {k : Nat} (h : k ≤ E.length) : (mkdG f n E m k).length = E.length := by simp [mkdG, mkG_len]; omega
theorem mkdG_at (f : α → Int → α) (n : α → Nat) {E : List α} {m : Int} {k : Nat} (h : k < E.length) : (mkdG f n E m k)[k]'(by rw [mkdG_len f n (by omega)]; exact h) = E[k] := by
  have hl : (mkG f n (E.take k) m).length = k := by rw [mkG_len, List.length_take]; omega
  simp only [mkdG]
  rw [List.getElem_append_right (by omega)]
  simp [hl]
theorem mkdG_set (f : α → Int → α) (n : α → Nat) {E : List α} {m : Int} {k : Nat} (h : k < E.length) : (mkdG f n E m k).set k (f E[k] (m + (tot n (E.take k) : Int))) = mkdG f n E m (k + 1) := by
  have hl : (mkG f n (E.take k) m).length = k := by rw [mkG_len, List.length_take]; omega
  simp only [mkdG]
  rw [List.set_append_right k _ (by omega), hl, Nat.sub_self, List.drop_eq_getElem_cons h, List.set_cons_zero, List.take_succ_eq_append_getElem h, mkG_append]
  simp [mkG]
end
end Go.Proofs.Yteanocjkdehhgaa

/- Slices of rows' structs: of one's own, read, and such as came in. -/
namespace Go.Proofs.Yteanocjkdehhgaa
open Go.RowKit
open Go.Lib (hid)
set_option linter.unusedVariables false

theorem Obj.onlyS {w w' : World} {v : Value} {L : List Int} {lo hi : Nat} {S : Nat → Prop} (h : Obj w v L lo hi) (hb : Only S w w') (hd : ∀ k, lo ≤ k → k < hi → ¬ S k) : Obj w' v L lo hi := ⟨Ints_only h.ints hb fun k hk => hd k (Ints_lt h.ints k hk).1 (h.high k hk), h.high⟩
theorem ROw.onlyS {w w' : World} {v u : Value} {A D : List Int} {lo hi : Nat} {S : Nat → Prop} (h : ROw w v u A D lo hi) (hb : Only S w w') (hd : ∀ k, lo ≤ k → k < hi → ¬ S k) : ROw w' v u A D lo hi := ⟨h.a.onlyS hb hd, h.d.onlyS hb hd⟩
theorem ROb.onlyS {w w' : World} {v u : Value} {A D : List Int} {lo hi : Nat} {S : Nat → Prop} (h : ROb w v u A D lo hi) (hb : Only S w w') (hd : ∀ k, lo ≤ k → k < hi → ¬ S k) : ROb w' v u A D lo hi := ⟨h.a.onlyS hb hd, h.d.onlyS hb hd, h.ne⟩
theorem ROb.inA {w w' : World} {v u : Value} {A D A' : List Int} {lo hi : Nat} (h : ROb w v u A D lo hi) (hb : Only (fun k => v.ownBlock = some k) w w') (ha : Ints w' lo v A') : ROb w' v u A' D lo hi := ⟨⟨ha, h.a.high⟩, ⟨Ints_only h.d.ints hb fun k hk hv => h.ne k hv hk, h.d.high⟩, h.ne⟩
theorem ROb.inD {w w' : World} {v u : Value} {A D D' : List Int} {lo hi : Nat} (h : ROb w v u A D lo hi) (hb : Only (fun k => u.ownBlock = some k) w w') (ha : Ints w' lo u D') : ROb w' v u A D' lo hi := ⟨⟨Ints_only h.a.ints hb fun k hk hv => h.ne k hk hv, h.a.high⟩, ⟨ha, h.d.high⟩, h.ne⟩
theorem TO.onlyS {p : Bool} {w w' : World} {v : Value} {E : List Et} {lo hi : Nat} {S : Nat → Prop} (h : TO p w v E lo hi) (hb : Only S w w') (hd : ∀ k, lo ≤ k → k < hi → ¬ S k) : TO p w' v E lo hi :=
  ⟨own_block h.row fun k hk => hb.block k (hd k (h.lt k hk).1 (h.high k hk)), h.high, fun e he => (h.el e he).onlyS hb hd, h.nd, h.ap⟩
theorem TK.onlyS {p : Bool} {w w' : World} {v : Value} {K : List Tq} {lo hi : Nat} {S : Nat → Prop} (h : TK p w v K lo hi) (hb : Only S w w') (hd : ∀ k, lo ≤ k → k < hi → ¬ S k) : TK p w' v K lo hi := by
  obtain ⟨E, h, e⟩ := h
  exact ⟨E, h.onlyS hb hd, e⟩
theorem RwM.onlyS {w w' : World} {t v u : Value} {K : List Tq} {A D : List Int} {lo mi hi : Nat} {S : Nat → Prop} (h : RwM w t v u K A D lo mi hi) (hb : Only S w w') (hd : ∀ k, lo ≤ k → k < hi → ¬ S k) : RwM w' t v u K A D lo mi hi :=
  ⟨h.t.onlyS hb fun k h1 h2 => hd k h1 (by have := h.h; omega), h.r.onlyS hb fun k h1 h2 => hd k (by have := h.l; omega) h2, h.l, h.h⟩
/-- A row's struct of a call's own: its terms and its fraction lie between two heights and share no memory. -/
structure RwG (w : World) (t v u : Value) (K : List Tq) (A D : List Int) (lo hi : Nat) : Prop where
  t : ∃ E, TO true w t E lo hi ∧ keysT E = K ∧ ∀ e ∈ E, ∀ k, (e.v.ownBlock = some k ∨ e.u.ownBlock = some k) → v.ownBlock ≠ some k ∧ u.ownBlock ≠ some k
  r : ROb w v u A D lo hi
theorem ROb.wide {w : World} {v u : Value} {A D : List Int} {lo hi lo' hi' : Nat} (h : ROb w v u A D lo hi) (h1 : lo' ≤ lo) (h2 : hi ≤ hi') : ROb w v u A D lo' hi' := ⟨h.a.wide h1 (.inr h2), h.d.wide h1 (.inr h2), h.ne⟩
theorem RwM.g {w : World} {t v u : Value} {K : List Tq} {A D : List Int} {lo mi hi : Nat} (h : RwM w t v u K A D lo mi hi) : RwG w t v u K A D lo hi := by
  obtain ⟨E, hE, e⟩ := h.t
  refine ⟨⟨E, hE.wide (Nat.le_refl _) h.h, e, fun x hx k hk => ?_⟩, h.r.wide h.l (Nat.le_refl _)⟩
  have r := hE.el x hx
  have k1 : k < mi := hk.elim (r.a.high k) (r.d.high k)
  exact ⟨fun e => by have := (Ints_lt h.r.a.ints k e).1; omega, fun e => by have := (Ints_lt h.r.d.ints k e).1; omega⟩
theorem RwG.onlyS {w w' : World} {t v u : Value} {K : List Tq} {A D : List Int} {lo hi : Nat} {S : Nat → Prop} (h : RwG w t v u K A D lo hi) (hb : Only S w w') (hd : ∀ k, lo ≤ k → k < hi → ¬ S k) : RwG w' t v u K A D lo hi := by
  obtain ⟨E, hE, e, ha⟩ := h.t
  exact ⟨⟨E, hE.onlyS hb hd, e, ha⟩, h.r.onlyS hb hd⟩
theorem RwG.w {w : World} {t v u : Value} {K : List Tq} {A D : List Int} {lo hi : Nat} (h : RwG w t v u K A D lo hi) : RwW w t v u K A D := by
  obtain ⟨E, hE, e, -⟩ := h.t
  exact ⟨⟨_, _, _, E, hE, e⟩, _, _, h.r.w⟩
theorem RwG.tk {w : World} {t v u : Value} {K : List Tq} {A D : List Int} {lo hi : Nat} (h : RwG w t v u K A D lo hi) : TK true w t K lo hi := by
  obtain ⟨E, hE, e, -⟩ := h.t
  exact ⟨E, hE, e⟩
theorem RwG.form {w : World} {t v u : Value} {K : List Tq} {A D : List Int} {lo hi : Nat} (h : RwG w t v u K A D lo hi) : ∃ (a : Option Addr) (c : Nat) (b : Option Addr) (d : Nat) (e : Option Addr) (f : Nat), t = .slice a K.length c ∧ v = .slice b A.length d ∧ u = .slice e D.length f := h.w.form
/-- What such a struct holds. -/
structure Wq where
  K : List Tq
  x : Int
  s : Bool
  A : List Int
  D : List Int
/-- A struct in a slice: what it holds, its slices, where they lie. -/
structure Er where
  q : Wq
  t : Value
  v : Value
  u : Value
  lo : Nat
  hi : Nat
def Er.cs (e : Er) : List Value := [e.t, .int .i64 e.q.x, .bool e.q.s, e.v, e.u]
def kdR : Kd Er where
  n := 5
  cs := Er.cs
  len := fun e => rfl
  inr := fun (e : Er) (k : Nat) => e.lo ≤ k ∧ k < e.hi
  P := fun (w : World) (e : Er) => RwG w e.t e.v e.u e.q.K e.q.A e.q.D e.lo e.hi ∧ e.hi ≤ w.heap.size
  keep := fun {w w' e S} h hb hS => ⟨h.1.onlyS hb fun k h1 h2 => hS k ⟨h1, h2⟩, Nat.le_trans h.2 hb.size⟩
  lt := fun {w e} h k hk => by have := h.2; omega
/-- How many places the law counts, how many it marks. -/
def Wq.m (q : Wq) : Nat := 1 + szU q.K + q.A.length + q.D.length
def Wq.n (q : Wq) : Nat := 2 + szT q.K + q.A.length + q.D.length
theorem Wq.m1 (q : Wq) : 1 ≤ q.m := by simp only [Wq.m]; omega
theorem Wq.n1 (q : Wq) : 1 ≤ q.n := by simp only [Wq.n]; omega
/-- A slice of a call's own that holds L, in the blocks S. -/
def RM (w : World) (v : Value) (L : List Wq) (lo : Nat) (S : Nat → Prop) : Prop := ∃ E : List Er, GO kdR 91 w v E lo S ∧ E.map Er.q = L
/-- A slice that reads as L. -/
def RS (w : World) (v : Value) (L : List Wq) : Prop := ∃ E : List Er, GR 5 Er.cs (fun (w : World) (e : Er) => RwW w e.t e.v e.u e.q.K e.q.A e.q.D) w v E ∧ E.map Er.q = L
theorem RM.old {w w' : World} {v : Value} {L : List Wq} {lo : Nat} {S : Nat → Prop} (h : RM w v L lo S) (hb : Below w.heap.size w w') : RM w' v L lo S := by
  obtain ⟨E, h, e⟩ := h
  exact ⟨E, h.old hb, e⟩
theorem RM.only {w w' : World} {v : Value} {L : List Wq} {lo : Nat} {S S' : Nat → Prop} (h : RM w v L lo S) (hb : Only S' w w') (hd : ∀ k, S k → ¬ S' k) : RM w' v L lo S := by
  obtain ⟨E, h, e⟩ := h
  exact ⟨E, h.only hb hd, e⟩
theorem RM.mono {w : World} {v : Value} {L : List Wq} {lo lo' : Nat} {S S' : Nat → Prop} (h : RM w v L lo S) (hl : lo' ≤ lo) (hs : ∀ k, S k → S' k) : RM w v L lo' S' := by
  obtain ⟨E, h, e⟩ := h
  exact ⟨E, h.mono hl hs, e⟩
theorem RS.old {w w' : World} {v : Value} {L : List Wq} (h : RS w v L) (hb : Below w.heap.size w w') : RS w' v L := by
  obtain ⟨E, h, e⟩ := h
  exact ⟨E, GR.old (P := fun (w : World) (e : Er) => RwW w e.t e.v e.u e.q.K e.q.A e.q.D) (fun x hx => hx.old hb) h hb, e⟩
theorem RM.r {w : World} {v : Value} {L : List Wq} {lo : Nat} {S : Nat → Prop} (h : RM w v L lo S) : RS w v L := by
  obtain ⟨E, h, e⟩ := h
  exact ⟨E, GO.r (P := fun (w : World) (e : Er) => RwW w e.t e.v e.u e.q.K e.q.A e.q.D) h fun x h => h.1.w, e⟩
theorem RS.form {w : World} {v : Value} {L : List Wq} (h : RS w v L) : ∃ a c, v = .slice a L.length c := by
  obtain ⟨E, h, rfl⟩ := h
  obtain ⟨a, c, rfl⟩ := h.form
  exact ⟨a, c, by rw [List.length_map]⟩
theorem RM.form {w : World} {v : Value} {L : List Wq} {lo : Nat} {S : Nat → Prop} (h : RM w v L lo S) : ∃ a c, v = .slice a L.length c := h.r.form
theorem RM.len {w : World} {v : Value} {L : List Wq} {lo : Nat} {S : Nat → Prop} (h : RM w v L lo S) : L.length ≤ maxLen := by
  obtain ⟨E, h, rfl⟩ := h
  rw [List.length_map]
  exact h.len
theorem RS.num {w : World} {a : Option Addr} {m c : Nat} {L : List Wq} (h : RS w (.slice a m c) L) : m = L.length := by
  obtain ⟨E, h, rfl⟩ := h
  rw [List.length_map]
  exact h.num
theorem RS.at {w : World} {a : Option Addr} {m c : Nat} {L : List Wq} (h : RS w (.slice a m c) L) {i : Nat} (hi : i < L.length) :
    ∃ g o t v u, a = some ⟨g, o, none⟩ ∧ g < w.heap.size ∧ w.cell? ⟨g, o + i * 5, none⟩ = some (t) ∧ w.cell? ⟨g, o + i * 5 + 1, none⟩ = some (.int .i64 L[i].x) ∧ w.cell? ⟨g, o + i * 5 + 2, none⟩ = some (.bool L[i].s) ∧ w.cell? ⟨g, o + i * 5 + 3, none⟩ = some (v) ∧ w.cell? ⟨g, o + i * 5 + 4, none⟩ = some (u) ∧ RwW w t v u L[i].K L[i].A L[i].D := by
  obtain ⟨E, h, rfl⟩ := h
  rw [List.length_map] at hi
  obtain ⟨g, o, h1, h2, h3, h4⟩ := h.at hi
  rw [List.getElem_map]
  exact ⟨g, o, E[i].t, E[i].v, E[i].u, h1, h2, h3 0 _ rfl, h3 1 _ rfl, h3 2 _ rfl, h3 3 _ rfl, h3 4 _ rfl, h4⟩
/-- A struct that came in. -/
structure CameW (w : World) (h : Nat) (g o : Nat) (f : Wq) : Prop where
  ex : ∃ a c b d e k, w.cell? ⟨g, o, none⟩ = some (.slice a f.K.length c) ∧ w.cell? ⟨g, o + 1, none⟩ = some (.int .i64 f.x) ∧ w.cell? ⟨g, o + 2, none⟩ = some (.bool f.s) ∧ w.cell? ⟨g, o + 3, none⟩ = some (.slice b f.A.length d) ∧ w.cell? ⟨g, o + 4, none⟩ = some (.slice e f.D.length k) ∧ WCame w h a f.K.length f.K b f.A.length f.A e f.D.length f.D
theorem CameW.old {w w' : World} {h g o : Nat} {f : Wq} (c : CameW w h g o f) (hb : Below w.heap.size w w') (hg : g < w.heap.size) : CameW w' h g o f := by
  obtain ⟨a, c, b, d, e, k, h0, h1, h2, h3, h4, r⟩ := c.ex
  exact ⟨⟨a, c, b, d, e, k, (hb.cell (p := ⟨g, o, none⟩) hg).trans h0, (hb.cell (p := ⟨g, o + 1, none⟩) hg).trans h1, (hb.cell (p := ⟨g, o + 2, none⟩) hg).trans h2, (hb.cell (p := ⟨g, o + 3, none⟩) hg).trans h3, (hb.cell (p := ⟨g, o + 4, none⟩) hg).trans h4, r.old hb⟩⟩
theorem CameW.onlyG {w w' : World} {h g o lo hi : Nat} {f : Wq} (c : CameW w h g o f) (hb : Only (InG lo hi w.heap.size) w w') (hlo : h ≤ lo) (hg : g < h) (hg' : g < w.heap.size) : CameW w' h g o f := by
  obtain ⟨a, c, b, d, e, k, h0, h1, h2, h3, h4, r⟩ := c.ex
  have hn : ¬ InG lo hi w.heap.size g := fun hs => by have := InG_cases hs; omega
  exact ⟨⟨a, c, b, d, e, k, (hb.cell (p := ⟨g, o, none⟩) hn).trans h0, (hb.cell (p := ⟨g, o + 1, none⟩) hn).trans h1, (hb.cell (p := ⟨g, o + 2, none⟩) hn).trans h2, (hb.cell (p := ⟨g, o + 3, none⟩) hn).trans h3, (hb.cell (p := ⟨g, o + 4, none⟩) hn).trans h4, r.onlyG hb hlo⟩⟩
def RCame (w : World) (h : Nat) (a : Option Addr) (n : Nat) (L : List Wq) : Prop :=
  n = L.length ∧ (0 < L.length → ∃ g o, a = some ⟨g, o, none⟩ ∧ g < h ∧ g < w.heap.size ∧ ∀ i (hi : i < L.length), CameW w h g (o + i * 5) L[i])
theorem RCame.old {w w' : World} {h n : Nat} {a : Option Addr} {L : List Wq} (c : RCame w h a n L) (hb : Below w.heap.size w w') : RCame w' h a n L :=
  ⟨c.1, fun h0 => by
    obtain ⟨g, o, e, hh, hg, hc⟩ := c.2 h0
    exact ⟨g, o, e, hh, Nat.lt_of_lt_of_le hg hb.size, fun i hi => (hc i hi).old hb hg⟩⟩
theorem RCame.onlyG {w w' : World} {h n lo hi : Nat} {a : Option Addr} {L : List Wq} (c : RCame w h a n L) (hb : Only (InG lo hi w.heap.size) w w') (hlo : h ≤ lo) : RCame w' h a n L :=
  ⟨c.1, fun h0 => by
    obtain ⟨g, o, e, hh, hg, hc⟩ := c.2 h0
    exact ⟨g, o, e, hh, Nat.lt_of_lt_of_le hg hb.size, fun i hi => (hc i hi).onlyG hb hlo hh hg⟩⟩
end Go.Proofs.Yteanocjkdehhgaa
