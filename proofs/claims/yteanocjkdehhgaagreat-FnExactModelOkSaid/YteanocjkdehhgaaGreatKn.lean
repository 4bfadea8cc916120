import Derived.Test.YteanocjkdehhgaaGreatKk
import Derived.Test.YteanocjkdehhgaaGreatNmn
import Derived.Test.YteanocjkdehhgaaGreatKma
import Derived.Deep.RegionHeld3
set_option maxRecDepth 100000
set_option maxHeartbeats 6400000
set_option linter.unusedVariables false
set_option linter.unusedSimpArgs false
namespace Go.Proofs.YteanocjkdehhgaaGreat
open Go.RowKit
open Go.Lib (hid)
def inL (s : ByteArray) (P : List ByteArray) : Bool := P.any fun t => decide (t = s)
theorem inL_iff {s : ByteArray} {P : List ByteArray} : inL s P = true ↔ s ∈ P := by
 simp only [inL, List.any_eq_true, decide_eq_true_eq]
 constructor
 ·rintro ⟨t, h, rfl⟩; exact h
 ·intro h; exact ⟨s, h, rfl⟩
theorem inL_no {s : ByteArray} {P : List ByteArray} (h : s ∉ P) : inL s P = false := by
 cases e : inL s P with
 | false => rfl
 | true => exact absurd (inL_iff.1 e) h
def gdN : List ByteArray → List ByteArray → Bool
 | _, [] => true
 | P, s :: N => !(inL s P) && namB s && gdN (P ++ [s]) N
theorem gdN_append : ∀ (P N M : List ByteArray), gdN P (N ++ M) = (gdN P N && gdN (P ++ N) M)
 | P, [], M => by simp [gdN]
 |P, s :: N, M => by
  have := gdN_append (P ++ [s]) N M
  simp only [List.cons_append, gdN, this, List.append_assoc, List.nil_append, Bool.and_assoc]
theorem gdN_take {N : List ByteArray} {k : Nat} (h : k < N.length) : gdN [] N = (gdN [] (N.take k) && (!(inL N[k] (N.take k)) && namB N[k] && gdN (N.take k ++ [N[k]]) (N.drop (k + 1)))) := by
 have e : N = N.take k ++ (N[k] :: N.drop (k + 1)) := by rw [← List.drop_eq_getElem_cons h, List.take_append_drop]
 have h1 := gdN_append [] (N.take k) (N[k] :: N.drop (k + 1))
 rw [← e] at h1
 rw [h1]
 simp [gdN]
theorem gdN_next {N : List ByteArray} {k : Nat} (h : k < N.length) (h0 : gdN [] (N.take k) = true) (h1 : N[k] ∉ N.take k) (h2 : namB N[k] = true) : gdN [] (N.take (k + 1)) = true := by
 rw [List.take_succ_eq_append_getElem h, gdN_append, h0]
 simp only [gdN, List.nil_append]
 rw [inL_no h1, h2]
 rfl
theorem gdN_stop {N : List ByteArray} {k : Nat} (h : k < N.length) (h1 : N[k] ∈ N.take k ∨ namB N[k] = false) : gdN [] N = false := by
 rw [gdN_take h]
 rcases h1 with h1 | h1
 ·rw [inL_iff.2 h1]; simp
 ·rw [h1]; simp
theorem bytes_neN {x y : ByteArray} (h : ¬ x = y) : x.toList ≠ y.toList := by
 rw [ByteArray.toList_eq, ByteArray.toList_eq]
 intro e
 exact h (by cases x; cases y; simp only at e; congr 1; exact Array.toList_inj.1 e)
theorem StO.at {w : World} {a : Option Addr} {n c : Nat} {L : List ByteArray} {lo hi : Nat} (h : StO w (.slice a n c) L lo hi) {i : Nat} (hi' : i < L.length) : ∃ g, a = some ⟨g, 0, none⟩ ∧ n = L.length ∧ g < w.heap.size ∧ w.cell? ⟨g, i, none⟩ = some (.string L[i]) := by
 rcases h.form with ⟨-, rfl⟩ | ⟨g, c', h1, -, -, h3⟩
 ·simp at hi'
 ·simp only [Value.slice.injEq] at h1
  obtain ⟨rfl, rfl, rfl⟩ := h1
  exact ⟨g, rfl, rfl, h3, Strs_cell h.s hi'⟩
theorem StO.frm {w : World} {v : Value} {L : List ByteArray} {lo hi : Nat} (h : StO w v L lo hi) : ∃ a c, v = .slice a L.length c := by
 rcases h.form with ⟨rfl, rfl⟩ | ⟨g, c', rfl, -⟩
 ·exact ⟨_, _, rfl⟩
 ·exact ⟨_, _, rfl⟩
def NmsR (b : Bool) (w : World) (e : Ending) (w' : World) : Prop := ∃ m, e = .returned (.tuple #[m, .bool b]) ∧ Below w.heap.size w w'
theorem impl_columnsByName {v : Value} {N : List ByteArray} {lo hi : Nat} (hN : N.length ≤ 40) (hz : ∀ s ∈ N, s.size ≤ 1048576) (w : World) (h : StO w v N lo hi) :
  Calls Tryz.prog 85 #[v] w (NmsR (gdN [] N) w) := by
 obtain ⟨a, c, rfl⟩ := h.frm
 have H := hid h
 have HZ := hid hz
 clear h hz
 have hNi : ¬ (40 : Int) < N.length := by omega
 obtain ⟨RR, hRR⟩ : ∃ RR, RR = gdN [] N := ⟨_, rfl⟩
 rw [← hRR]
 have HRR := hid hRR
 clear hRR
 go_enter Tryz.func85, Tryz.ntmps85
 have hmm := @run_makeMap Tryz.prog
 have HM := hid (MS_made w)
 have HB := hid (show Below w.heap.size w (w.alloc (.map #[] 0)) from (Below.refl _ _).alloc (Nat.le_refl _) _)
 go_wp2
 clear hmm
 go_loopw [15] (fun i wr => ∃ (k : Nat) (E : ByteArray → Option Int), k ≤ N.length ∧ i = .int .i64 k ∧ Hid (MS wr w.heap.size k E ∧ (∀ s, (E s).isSome = inL s (N.take k)) ∧ gdN [] (N.take k) = true) ∧ Below w.heap.size w wr) (fun i _ => N.length - (Go.RowKit.intOf i).toNat)
 case atStart => exact ⟨0, _, Nat.zero_le _, rfl, hid ⟨HM.out, fun s => by simp [inL], by simp [gdN]⟩, HB.out⟩
 case round =>
  obtain ⟨k, E, hk, rfl, hI, hbel⟩ := hrel
  by_cases hlt : k < N.length
  ·obtain ⟨g, rfl, -, hg, q0⟩ := (H.out.old hbel).at hlt
   have hsz := HZ.out _ (List.getElem_mem hlt)
   have HM := hid hI.out.1
   have hE := hI.out.2.1 N[k]
   have HS := hid (fun e => gdN_stop hlt e)
   have HX := hid (fun e1 e2 => gdN_next hlt hI.out.2.2 e1 e2)
   have HT := hid (List.take_succ_eq_append_getElem hlt)
   have HE := hid hI.out.2.1
   generalize N[k] = s at q0 hsz hE HS HX HT
   have HB := hid hbel
   have hsm : s.size ≤ maxLen := by unfold maxLen; omega
   have HSM := hid hsm
   have KN := hid (fun (W : World) => impl_IsName s hsm W)
   have hk1 : k ≤ 1048576 := by omega
   have a1' : (0 : Int) ≤ k := by omega
   have a2' : (k : Int) < N.length := by omega
   clear hsm hbel hsz
   by_cases ht : s ∈ N.take k
   case pos =>
    rw [inL_iff.2 ht] at hE
    have hr : RR = false := by rw [HRR.out, HS.out (.inl ht)]
    subst hr
    clear ht
    go_wp2_with (at_lookup; refine wpList_lookS rfl _ _ rfl rfl HM.out s HSM.out rfl ?_; intro vv; rw [hE])
    (try simp only [Exit.inBlock, Exit.then])
    refine bodyPost_ret (results_tmp2 rfl _ _ _) rfl ?_
    exact ⟨_, rfl, HB.out⟩
   rw [inL_no ht] at hE
   have HNT := hid ht
   clear ht
   cases hn : namB s with
   |false =>
    have hr : RR = false := by rw [HRR.out, HS.out (.inr hn)]
    subst hr
    rw [hn] at KN
    clear hn
    go_wp2_with (first | (at_lookup; refine wpList_lookS rfl _ _ rfl rfl HM.out s HSM.out rfl ?_; intro vv; rw [hE]) | (go_at_call 155; (with_reducible refine (KN.out _).mono ?_); rintro e w2 ⟨rfl, pos, rfl⟩))
    (try simp only [Exit.inBlock, Exit.then])
    refine bodyPost_ret (results_tmp2 rfl _ _ _) rfl ?_
    exact ⟨_, rfl, HB.out.alloc HB.out.size _⟩
   |true =>
    rw [hn] at KN
    have hX := hid (HX.out HNT.out hn)
    clear hn
    go_wp2_with (first | (at_lookup; refine wpList_lookS rfl _ _ rfl rfl HM.out s HSM.out rfl ?_; intro vv; rw [hE]) | (go_at_call 155; (with_reducible refine (KN.out _).mono ?_); rintro e w2 ⟨rfl, w3, hw3⟩; have HBI := hid (show Below wr.heap.size wr w2 by subst hw3; exact (Below.refl _ _).alloc (Nat.le_refl _) _); have HM2 := hid (HM.out.old HBI.out); have HB2 := hid (HB.out.trans (HBI.out.mono HB.out.size)); clear hw3) | (at_mapUpdate; refine wpList_storeS rfl _ _ _ rfl rfl HM2.out hk1 s HSM.out rfl (k : Int) rfl ?_; intro w4 hm4 hg4; have HM4 := hid hm4; have HB4 := hid (HB2.out.grown hg4 HB2.out.size (fun j hj => by cases hj; exact Nat.le_refl _)); clear hm4 hg4))
    go_roundw
    case rel =>
     refine ⟨k + 1, _, by omega, by go_num, hid ⟨HM4.out, fun t => ?_, hX.out⟩, HB4.out⟩
     rw [HT.out]
     simp only [updS]
     by_cases e : t = s
     ·rw [if_pos e, e]; simp [inL]
     ·rw [if_neg e, HE.out]
      have e2 : ¬ s = t := fun h => e h.symm
      simp [inL, e2]
    case measure => simp [Go.RowKit.intOf]; omega
  ·obtain rfl : k = N.length := by omega
   have HB := hid hbel
   have hr : RR = true := by rw [HRR.out]; have := hI.out.2.2; rwa [List.take_length] at this
   subst hr
   clear hbel
   go_wp2
   (try simp only [Exit.inBlock, Exit.then])
   refine bodyPost_ret (results_tmp2 rfl _ _ _) rfl ?_
   exact ⟨_, rfl, HB.out⟩
theorem spec_l07Names {v : Value} {N : List ByteArray} {lo hi : Nat} (hN : N.length ≤ 40) (hz : ∀ s ∈ N, s.size ≤ 1048576) (w : World) (h : StO w v N lo hi) :
  Calls Tryz.prog 75 #[v] w (RetB (.bool (gdN [] N)) w) := by
 obtain ⟨a, c, rfl⟩ := h.frm
 have hcap : N.length ≤ c := by
  rcases Strs_cases h.s with ⟨h1, h2⟩ | ⟨g, cap, h1, -, -, h4⟩
  ·rw [h2]; exact Nat.zero_le _
  ·simp only [Value.slice.injEq] at h1
   omega
 have H := hid h
 have HZ := hid hz
 clear h hz
 have hNi : (N.length : Int) ≤ 40 := by omega
 obtain ⟨RR, hRR⟩ : ∃ RR, RR = gdN [] N := ⟨_, rfl⟩
 rw [← hRR]
 have HRR := hid hRR
 clear hRR
 go_enter Tryz.func75, Tryz.ntmps75
 go_wp2
 go_loopw [9] (fun i wr => ∃ (k : Nat), k ≤ N.length ∧ i = .int .i64 k ∧ Hid (gdN [] (N.take k) = true) ∧ Below w.heap.size w wr) (fun i _ => N.length - (Go.RowKit.intOf i).toNat)
 case atStart => exact ⟨0, Nat.zero_le _, rfl, hid (by simp [gdN]), Below.refl _ _⟩
 case round =>
  obtain ⟨k, hk, rfl, hI, hbel⟩ := hrel
  by_cases hlt : k < N.length
  ·have HH := hid (H.out.old hbel)
   obtain ⟨g, rfl, -, hg, q0⟩ := HH.out.at hlt
   have hsz := HZ.out _ (List.getElem_mem hlt)
   have HS := hid (fun e => gdN_stop hlt e)
   have HX := hid (fun e1 e2 => gdN_next hlt hI.out e1 e2)
   generalize hs : N[k] = s at q0 hsz HS HX
   clear hs
   have HB := hid hbel
   have hsm : s.size ≤ maxLen := by unfold maxLen; omega
   have KN := hid (fun (W : World) => spec_IsName s hsm W)
   have a1' : (0 : Int) ≤ k := by omega
   have a2' : (k : Int) < N.length := by omega
   have a3' : (k : Int) ≤ N.length := by omega
   have a4' : (k : Int) ≤ c := by omega
   clear hsm hbel hsz
   go_wp2
   clear q0
   obtain ⟨wo, rfl⟩ : ∃ wo, wo = wr := ⟨_, rfl⟩
   go_loopw [18] (fun i wr => ∃ (j : Nat), j ≤ k ∧ i = .int .i64 j ∧ Hid (s ∉ N.take j) ∧ Below wo.heap.size wo wr) (fun i _ => k - (Go.RowKit.intOf i).toNat)
   case atStart => exact ⟨0, Nat.zero_le _, rfl, hid (by simp), Below.refl _ _⟩
   case round =>
    obtain ⟨j, hj, rfl, hJ, hbj⟩ := hrel
    by_cases hjk : j < k
    ·have hjn : j < N.length := by omega
     obtain ⟨g', hg', -, -, q1⟩ := (HH.out.old hbj).at hjn
     cases hg'
     have HJT := hid (List.take_succ_eq_append_getElem hjn)
     have HJM := hid (show N[j] ∈ N.take k from List.mem_iff_getElem.2 ⟨j, by rw [List.length_take]; omega, by rw [List.getElem_take]⟩)
     generalize N[j] = t at q1 HJT HJM
     have HBJ := hid hbj
     have HBW := hid (HB.out.trans (hbj.mono HB.out.size))
     have b1' : (0 : Int) ≤ j := by omega
     have b2' : (j : Int) < k := by omega
     clear hbj
     by_cases e : s = t
     ·have e1 : (s.toList == t.toList) = true := by rw [e]; simp
      have hr : RR = false := by rw [HRR.out, HS.out (.inl (by rw [e]; exact HJM.out))]
      subst hr
      clear e
      go_wp2
      go_ret
      exact ⟨rfl, HBW.out⟩
     ·have e1 : (s.toList == t.toList) = false := beq_eq_false_iff_ne.2 (bytes_neN e)
      have HNE := hid e
      clear e
      go_wp2
      go_roundw
      case rel => exact ⟨j + 1, by omega, by go_num, hid (by rw [HJT.out]; simp only [List.mem_append, List.mem_singleton, not_or]; exact ⟨hJ.out, HNE.out⟩), HBJ.out⟩
      case measure => simp [Go.RowKit.intOf]; omega
    ·obtain rfl : j = k := by omega
     have HB2 := hid (HB.out.trans (hbj.mono HB.out.size))
     clear hbj
     cases hn : namB s with
     |false =>
      have hr : RR = false := by rw [HRR.out, HS.out (.inr hn)]
      subst hr
      rw [hn] at KN
      clear hn
      go_wp2_with (go_at_call 147; (with_reducible refine (KN.out _).mono ?_); rintro e w2 ⟨rfl, rfl⟩)
      go_ret
      exact ⟨rfl, HB2.out⟩
     |true =>
      rw [hn] at KN
      have hX := hid (HX.out hJ.out hn)
      clear hn
      go_wp2_with (go_at_call 147; (with_reducible refine (KN.out _).mono ?_); rintro e w2 ⟨rfl, rfl⟩)
      go_roundw
      case rel => exact ⟨j + 1, by omega, by go_num, hX, HB2.out⟩
      case measure => simp [Go.RowKit.intOf]; omega
  ·obtain rfl : k = N.length := by omega
   have HB := hid hbel
   have hr : RR = true := by rw [HRR.out]; have := hI.out; rwa [List.take_length] at this
   subst hr
   clear hbel
   go_wp2
   go_ret
   exact ⟨rfl, HB.out⟩
end Go.Proofs.YteanocjkdehhgaaGreat
