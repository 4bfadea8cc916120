/- Texts of vectors: the pieces joined are the text; a text of a fraction is written back. -/
import Derived.Test.YtmghoedjcokhpaaGreatDoorVfm
import Derived.Test.YtmghoedjcokhpaaGreatDoorDtx
import Derived.Test.YtmghoedjcokhpaaGreatDoorPrq
import Derived.Deep.RegionHeld3
import Derived.Deep.DeepCutAuto
namespace Go.Proofs.YtmghoedjcokhpaaGreatDoor
open Go.RowKit
open Go.Lib (hid)
set_option linter.unusedVariables false

def SP : ByteArray := ByteArray.mk #[32]
theorem gap_iff {s : ByteArray} {i : Nat} : hitAt s (ByteArray.mk #[32]) i = true ↔ ∃ h : i < s.size, s[i] = 32 := by
  unfold hitAt
  by_cases h : i < s.size
  · rw [dif_pos h]
    have : hitTo (ByteArray.mk #[32]) s[i] (ByteArray.mk #[32]).size = ((32 : UInt8) == s[i]) := by
      show (hitTo (ByteArray.mk #[32]) s[i] 0 || (if h : 0 < (ByteArray.mk #[32]).size then (ByteArray.mk #[32])[0] == s[i] else false)) = _
      rw [dif_pos (by decide)]
      rfl
    rw [this, beq_iff_eq]
    constructor
    · intro e; exact ⟨h, e.symm⟩
    · rintro ⟨_, e⟩; exact e.symm
  · rw [dif_neg h]
    constructor
    · intro e; cases e
    · rintro ⟨e, _⟩; exact absurd e h
/-- The pieces before the last one, each with a space behind it. -/
def pre (Q : List ByteArray) : List UInt8 := (Q.map fun x => x.data.toList ++ [32]).flatten
theorem pre_snoc (Q : List ByteArray) (x : ByteArray) : pre (Q ++ [x]) = pre Q ++ (x.data.toList ++ [32]) := by
  simp [pre]
theorem tail_snoc (y : ByteArray) : ∀ Q : List ByteArray, Lib.joinTail [32] ((Q ++ [y]).map (·.data.toList)) = [32] ++ (pre Q ++ y.data.toList)
  | [] => by simp [Lib.joinTail, pre]
  | x :: Q => by
    have h := tail_snoc y Q
    have e1 : Lib.joinTail [32] (((x :: Q) ++ [y]).map (·.data.toList)) = ([32] ++ x.data.toList) ++ Lib.joinTail [32] ((Q ++ [y]).map (·.data.toList)) := by
      simp [Lib.joinTail]
    have e2 : pre (x :: Q) = (x.data.toList ++ [32]) ++ pre Q := by simp [pre]
    rw [e1, h, e2]
    simp only [List.append_assoc]
theorem join_snoc (y : ByteArray) : ∀ Q : List ByteArray, Lib.join ((Q ++ [y]).map (·.data.toList)) [32] = pre Q ++ y.data.toList
  | [] => by simp [Lib.join_one, pre]
  | x :: Q => by
    have h := tail_snoc y Q
    have e2 : pre (x :: Q) = (x.data.toList ++ [32]) ++ pre Q := by simp [pre]
    rw [List.cons_append, List.map_cons, Lib.join_cons, h, e2]
    simp only [List.append_assoc]
theorem cut_text (s : ByteArray) : ∀ k, k ≤ s.size → pre (cutTo s (hitAt s (ByteArray.mk #[32])) k).1 ++ (s.extract (cutTo s (hitAt s (ByteArray.mk #[32])) k).2 k).data.toList = s.data.toList.take k
  | 0, _ => by
    rw [part_list]
    simp [cutTo, pre]
  | k + 1, hk => by
    have ih := cut_text s k (by omega)
    have hl : s.data.toList.length = s.size := by simp
    have hf := (cutTo_le s (hitAt s (ByteArray.mk #[32])) k).1
    cases hp : hitAt s (ByteArray.mk #[32]) k with
    | true =>
      obtain ⟨hs, e⟩ := gap_iff.1 hp
      have h2 : s.data.toList[k]'(by omega) = 32 := e
      rw [cutTo_yes hp]
      show pre ((cutTo s (hitAt s (ByteArray.mk #[32])) k).1 ++ [s.extract (cutTo s (hitAt s (ByteArray.mk #[32])) k).2 k]) ++ (s.extract (k + 1) (k + 1)).data.toList = _
      rw [pre_snoc, ← List.append_assoc, ih, part_list, Nat.sub_self, List.take_zero, List.append_nil, ← h2, List.take_succ_eq_append_getElem (by omega)]
    | false =>
      rw [cutTo_no hp, List.take_succ_eq_append_getElem (by omega), ← ih, List.append_assoc]
      congr 1
      rw [part_list, part_list, show k + 1 - (cutTo s (hitAt s (ByteArray.mk #[32])) k).2 = (k - (cutTo s (hitAt s (ByteArray.mk #[32])) k).2) + 1 by omega,
        List.take_succ_eq_append_getElem (by rw [List.length_drop]; omega)]
      congr 1
      rw [List.getElem_drop]
      congr 2
      omega
/-- The pieces joined are the text. -/
theorem pieces_text (s : ByteArray) : ∃ Q y, pieces s (ByteArray.mk #[32]) = Q ++ [y] ∧ pre Q ++ y.data.toList = s.data.toList := by
  have hl : s.data.toList.length = s.size := by simp
  refine ⟨_, _, rfl, ?_⟩
  have := cut_text s s.size (Nat.le_refl _)
  rw [List.take_of_length_le (by omega)] at this
  exact this
theorem pieces_join (s : ByteArray) : joinK (pieces s (ByteArray.mk #[32])) (ByteArray.mk #[32]) (pieces s (ByteArray.mk #[32])).length = s := by
  obtain ⟨Q, y, h, e⟩ := pieces_text s
  rw [joinK_all, h]
  refine list_inj ?_
  show Lib.join ((Q ++ [y]).map (·.data.toList)) [32] = s.data.toList
  rw [join_snoc, e]
theorem pre_len : ∀ {Q : List ByteArray}, (∀ x ∈ Q, 0 < x.size) → 2 * Q.length ≤ (pre Q).length
  | [], _ => by simp [pre]
  | x :: Q, h => by
    have h1 := h x (List.mem_cons_self ..)
    have h2 := pre_len (Q := Q) fun y hy => h y (List.mem_cons_of_mem _ hy)
    have hl : x.data.toList.length = x.size := by simp
    have e2 : pre (x :: Q) = (x.data.toList ++ [32]) ++ pre Q := by simp [pre]
    rw [e2]
    simp only [List.length_append, List.length_cons, List.length_nil]
    omega
theorem pieces_half {s : ByteArray} (h : ∀ x ∈ pieces s (ByteArray.mk #[32]), 0 < x.size) : 2 * (pieces s (ByteArray.mk #[32])).length ≤ s.size + 2 := by
  obtain ⟨Q, y, hq, e⟩ := pieces_text s
  rw [hq] at h ⊢
  have h1 := pre_len (Q := Q) fun x hx => h x (List.mem_append_left _ hx)
  have hl : s.data.toList.length = s.size := by simp
  have := congrArg List.length e
  simp only [List.length_append, List.length_cons, List.length_nil] at this ⊢
  omega
/-- The fraction of a text. -/
def pfq (t : ByteArray) : Fq := ⟨prS t, prA t, prE t⟩
theorem pr_facts {t : ByteArray} (h : prB t = true) : fmtR (prS t) (prA t) (prE t) = t ∧ rok (prS t) (prA t) (prE t) = true ∧ 0 < t.size := by
  have e1 : prS t = pbS (prL t) := by unfold prS; rw [h]; rfl
  have e2 : prA t = pbR (prL t) := by unfold prA; rw [h]; rfl
  have e3 : prE t = prD t := by unfold prE; rw [h]; rfl
  obtain ⟨-, P1, P2⟩ := pr_same t _ rfl
  have P2 := P2 h
  rw [h] at P1
  rw [e1, e2, e3]
  simp only [Bool.and_eq_true, decide_eq_true_eq] at P1
  have h1 := P1.2
  rw [P2] at h1
  have h2 := h
  unfold prB at h2
  simp only [Bool.and_eq_true] at h2
  have := pb_size h2.1.1
  have := (pr_size t).1
  exact ⟨h1, h2.2, by omega⟩
theorem pfq_fqo {t : ByteArray} (h : prB t = true) : fqo (rval (prS t) (prA t) (prE t)) = pfq t ∧ fitO (rval (prS t) (prA t) (prE t)) := by
  refine ⟨?_, fitO_rval _ _ _⟩
  obtain ⟨x, e, -⟩ := rval_yes (pr_facts h).2.1
  obtain ⟨h1, h2, h3⟩ := rval_lists e
  rw [e]
  have e1 := fqo_s (some x)
  have e2 := fqo_A (some x)
  have e3 := fqo_D (some x)
  rw [show qn (some x) = x.num from rfl] at e1 e2
  rw [show qd (some x) = (x.den : Int) from rfl] at e3
  rw [h1] at e1
  rw [h2] at e2
  rw [h3] at e3
  cases hq : fqo (some x)
  rw [hq] at e1 e2 e3
  simp only at e1 e2 e3
  unfold pfq
  rw [e1, e2, e3]
theorem pfq_lens (t : ByteArray) (h : prB t = true) : (pfq t).A.length ≤ 1048576 ∧ (pfq t).D.length ≤ 1048576 := by
  obtain ⟨-, -, -, l1, l2, -⟩ := rok_iff.1 (pr_facts h).2.1
  have l1' : (pfq t).A.length ≤ 24 := l1
  have l2' : (pfq t).D.length ≤ 24 := l2
  omega
/-- The vector of a text. -/
def pvP (s : ByteArray) : List ByteArray := pieces s (ByteArray.mk #[32])
def pvB (s : ByteArray) : Bool := if s = ByteArray.mk #[45] then true else ((pvP s).all prB && decide ((pvP s).length ≤ 40))
def pvK (s : ByteArray) : List Fq := if s = ByteArray.mk #[45] then [] else if pvB s = true then (pvP s).map pfq else []
theorem pv_dash {s : ByteArray} (h : s = ByteArray.mk #[45]) : pvB s = true ∧ pvK s = [] := by
  unfold pvB pvK
  rw [if_pos h, if_pos h]
  exact ⟨rfl, rfl⟩
theorem pv_no {s : ByteArray} (hn : ¬ s = ByteArray.mk #[45]) (h : ((pvP s).all prB && decide ((pvP s).length ≤ 40)) = false) : pvB s = false ∧ pvK s = [] := by
  have e : pvB s = false := by unfold pvB; rw [if_neg hn]; exact h
  exact ⟨e, by unfold pvK; rw [if_neg hn, e]; rfl⟩
theorem pv_bad {s : ByteArray} {k : Nat} (hn : ¬ s = ByteArray.mk #[45]) (hk : k < (pvP s).length) (hb : prB (pvP s)[k] = false) : pvB s = false ∧ pvK s = [] := by
  refine pv_no hn ?_
  have : (pvP s).all prB = false := List.all_eq_false.2 ⟨_, List.getElem_mem hk, by rw [hb]; decide⟩
  rw [this]; rfl
theorem pv_long {s : ByteArray} (hn : ¬ s = ByteArray.mk #[45]) (h : ¬ (pvP s).length ≤ 40) : pvB s = false ∧ pvK s = [] :=
  pv_no hn (by rw [decide_eq_false h, Bool.and_false])
theorem pv_good {s : ByteArray} (hn : ¬ s = ByteArray.mk #[45]) (h : (pvP s).length ≤ 40) (ha : ∀ j (hj : j < (pvP s).length), prB (pvP s)[j] = true) : pvB s = true ∧ pvK s = (pvP s).map pfq := by
  have e : pvB s = true := by
    unfold pvB
    rw [if_neg hn, decide_eq_true h, Bool.and_true]
    exact List.all_eq_true.2 fun x hx => by obtain ⟨j, hj, rfl⟩ := List.getElem_of_mem hx; exact ha j hj
  exact ⟨e, by unfold pvK; rw [if_neg hn, if_pos e]⟩
theorem pv_take {s : ByteArray} {k : Nat} (hk : k < (pvP s).length) (hb : prB (pvP s)[k] = true) : ((pvP s).take k).map pfq ++ [fqo (rval (prS (pvP s)[k]) (prA (pvP s)[k]) (prE (pvP s)[k]))] = ((pvP s).take (k + 1)).map pfq := by
  rw [(pfq_fqo hb).1, List.take_succ_eq_append_getElem hk, List.map_append]; rfl
theorem pv_size {s : ByteArray} : 1 ≤ (pvP s).length ∧ (pvP s).length ≤ s.size + 1 := pieces_len _ _
theorem pv_piece {s : ByteArray} {k : Nat} (hk : k < (pvP s).length) : (pvP s)[k].size ≤ s.size := piece_size (List.getElem_mem hk)
theorem pv_Sm {s : ByteArray} (hs : s.size ≤ 1048576) (ha : ∀ j (hj : j < (pvP s).length), prB (pvP s)[j] = true) : Sm ((pvP s).map pfq) := by
  have hall : ∀ x ∈ pvP s, prB x = true := fun x hx => by obtain ⟨j, hj, rfl⟩ := List.getElem_of_mem hx; exact ha j hj
  refine ⟨fun f hf => ?_, ?_⟩
  · obtain ⟨t, ht, rfl⟩ := List.mem_map.1 hf
    exact pfq_lens t (hall t ht)
  · have := pieces_half (s := s) fun x hx => (pr_facts (hall x hx)).2.2
    rw [List.length_map]
    unfold pvP
    omega
/-- The text of the pieces' vector is the text, if there are not too many. -/
theorem pv_text {s : ByteArray} (ha : ∀ j (hj : j < (pvP s).length), prB (pvP s)[j] = true) : fmtV ((pvP s).map pfq) = if (pvP s).length ≤ 40 then s else ByteArray.mk #[] := by
  have hall : ∀ x ∈ pvP s, prB x = true := fun x hx => by obtain ⟨j, hj, rfl⟩ := List.getElem_of_mem hx; exact ha j hj
  have hv : (vals ((pvP s).map pfq)).all Option.isSome = true := List.all_eq_true.2 fun o ho => by
    unfold vals at ho
    obtain ⟨f, hf, rfl⟩ := List.mem_map.1 ho
    obtain ⟨t, ht, rfl⟩ := List.mem_map.1 hf
    have := (pr_facts (hall t ht)).2.1
    rw [rok_isSome] at this
    exact this
  have hk : oks (vals ((pvP s).map pfq)) = decide ((pvP s).length ≤ 40) := by
    unfold oks
    rw [hv, Bool.and_true, vals_len, List.length_map]
  have ht : txs ((pvP s).map pfq) = pvP s := by
    unfold txs
    rw [List.map_map]
    have : (pvP s).map (Fq.t ∘ pfq) = (pvP s).map id := List.map_congr_left fun x hx => (pr_facts (hall x hx)).1
    rw [this, List.map_id]
  have h1 := (pv_size (s := s)).1
  have h0 : ¬ (pvP s).length = 0 := by omega
  by_cases h : (pvP s).length ≤ 40
  · unfold fmtV
    rw [hk, ht, List.length_map, decide_eq_true h, if_pos rfl, if_neg h0, if_pos h]
    exact pieces_join s
  · unfold fmtV
    rw [hk, decide_eq_false h, if_neg h]
    rfl
theorem pv_empty {s : ByteArray} (h : ¬ (pvP s).length ≤ 40) : ¬ ByteArray.mk #[] = s := by
  intro e
  subst e
  exact h (by decide)
end Go.Proofs.YtmghoedjcokhpaaGreatDoor
