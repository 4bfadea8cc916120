import Derived.Test.YteanocjkdehhgaaGreatDig
import Derived.Lib.Hide
set_option maxRecDepth 100000
set_option maxHeartbeats 800000
set_option linter.unusedVariables false
set_option linter.unusedSimpArgs false
namespace Go.Proofs.YteanocjkdehhgaaGreat
open Go.RowKit
open Go.Lib (hid)
def isLowB (c : UInt8) : Bool := decide (97 ≤ c.toNat) && decide (c.toNat ≤ 122)
def namAt (s : ByteArray) (j : Nat) : Bool := if h : j < s.size then isLowB s[j] || (decide (j ≠ 0) && isDigB s[j]) else false
def namB (s : ByteArray) : Bool := decide (1 ≤ s.size) && decide (s.size ≤ 8) && decide (∀ j, j < s.size → namAt s j = true)
theorem namB_true {s : ByteArray} (h : ∀ j, j < s.size → namAt s j = true) : namB s = (decide (1 ≤ s.size) && decide (s.size ≤ 8)) := by
 have e : decide (∀ j, j < s.size → namAt s j = true) = true := decide_eq_true h
 simp only [namB, e, Bool.and_true]
theorem namB_false {s : ByteArray} {k : Nat} (hk : k < s.size) (h : namAt s k = false) : namB s = false := by
 have e : decide (∀ j, j < s.size → namAt s j = true) = false := decide_eq_false (fun g => by rw [g k hk] at h; cases h)
 simp [namB, e]
theorem namAt_low {s : ByteArray} {k : Nat} (hk : k < s.size) (h1 : 97 ≤ (s[k].toNat : Int)) (h2 : (s[k].toNat : Int) ≤ 122) : namAt s k = true := by
 have a : 97 ≤ s[k].toNat := by omega
 have b : s[k].toNat ≤ 122 := by omega
 simp [namAt, hk, isLowB, a, b]
theorem namAt_dig {s : ByteArray} {k : Nat} (hk : k < s.size) (h0 : 0 < k) (h1 : 48 ≤ (s[k].toNat : Int)) (h2 : (s[k].toNat : Int) ≤ 57) : namAt s k = true := by
 have a : 48 ≤ s[k].toNat := by omega
 have b : s[k].toNat ≤ 57 := by omega
 have c : k ≠ 0 := by omega
 simp [namAt, hk, isDigB, a, b, c]
theorem namAt_no {s : ByteArray} {k : Nat} (hk : k < s.size) (h : (s[k].toNat : Int) < 97 ∨ 122 < (s[k].toNat : Int)) (h' : k = 0 ∨ (s[k].toNat : Int) < 48 ∨ 57 < (s[k].toNat : Int)) : namAt s k = false := by
 have a : isLowB s[k] = false := by
  rcases h with h | h
  ·have : ¬ 97 ≤ s[k].toNat := by omega
   simp [isLowB, this]
  ·have : ¬ s[k].toNat ≤ 122 := by omega
   simp [isLowB, this]
 have b : (decide (k ≠ 0) && isDigB s[k]) = false := by
  rcases h' with h' | h' | h'
  ·simp [h']
  ·have : ¬ 48 ≤ s[k].toNat := by omega
   simp [isDigB, this]
  ·have : ¬ s[k].toNat ≤ 57 := by omega
   simp [isDigB, this]
 simp only [namAt, hk, dif_pos, a, b, Bool.or_false]
theorem namAt_more {s : ByteArray} {k : Nat} (hd : ∀ j, j < k → namAt s j = true) (h : namAt s k = true) : ∀ j, j < k + 1 → namAt s j = true := by
 intro j hj
 by_cases e : j = k
 ·rw [e]; exact h
 ·exact hd j (by omega)
theorem nam_end1 {s : ByteArray} (h : 1 ≤ (s.size : Int)) : decide ((s.size : Int) ≤ 8) = (decide (1 ≤ s.size) && decide (s.size ≤ 8)) := by
 rw [Bool.eq_iff_iff]; simp; omega
theorem nam_end0 {s : ByteArray} (h : (s.size : Int) < 1) : false = (decide (1 ≤ s.size) && decide (s.size ≤ 8)) := by
 rw [Bool.eq_iff_iff]; simp; omega
theorem size_list (s : ByteArray) : s.size = s.toList.length := by
 rw [ByteArray.toList_eq]; simp
theorem nam_fin0 {s : ByteArray} (h : s.toList = []) : false = (decide (1 ≤ s.size) && decide (s.size ≤ 8)) := by
 have : s.size = 0 := by rw [size_list, h]; rfl
 rw [this]; rfl
theorem nam_fin1 (s : ByteArray) : ((!s.toList.isEmpty) && decide ((s.size : Int) ≤ 8)) = (decide (1 ≤ s.size) && decide (s.size ≤ 8)) := by
 rw [nonempty_iff, Bool.eq_iff_iff]; simp; omega
theorem spec_IsName (s : ByteArray) (hs : s.size ≤ maxLen) (w : World) :
  Calls Tryz.prog 147 #[.string s] w fun e w' => e = .returned (.bool (namB s)) ∧ w = w' := by
 unfold maxLen at hs
 go_enter Tryz.func147, Tryz.ntmps147
 go_wp2
 go_loop [3] (fun i => ∃ k : Nat, k ≤ s.size ∧ i = .int .i64 k ∧ Hid (∀ j, j < k → namAt s j = true)) (fun i => s.size - (intOf i).toNat)
 case atStart => exact ⟨0, Nat.zero_le _, rfl, hid (fun _ h => by omega)⟩
 case round =>
  obtain ⟨k, hk, rfl, hd⟩ := hrel
  by_cases hlt : k < s.size
  ·by_cases h1 : (s[k].toNat : Int) < 97
   ·have h1b : decide (97 ≤ (s[k].toNat : Int)) = false := decide_eq_false (by omega)
    by_cases h0 : k = 0
    ·subst h0
     go_wp2
     go_ret
     exact ⟨ret_boolS (namB_false hlt (namAt_no hlt (.inl h1) (.inl rfl))).symm, rfl⟩
    ·have h0b : ((k : Int) == 0) = false := by simp; omega
     by_cases h2 : (s[k].toNat : Int) < 48
     ·go_wp2
      go_ret
      exact ⟨ret_boolS (namB_false hlt (namAt_no hlt (.inl h1) (.inr (.inl h2)))).symm, rfl⟩
     ·by_cases h3 : 57 < (s[k].toNat : Int)
      ·go_wp2
       go_ret
       exact ⟨ret_boolS (namB_false hlt (namAt_no hlt (.inl h1) (.inr (.inr h3)))).symm, rfl⟩
      ·go_wp2
       go_round
       case rel => exact ⟨k + 1, by omega, by go_num, hid (namAt_more hd.out (namAt_dig hlt (by omega) (by omega) (by omega)))⟩
       case measure => simp [intOf]; omega
   ·by_cases h2 : (s[k].toNat : Int) ≤ 122
    ·go_wp2
     go_round
     case rel => exact ⟨k + 1, by omega, by go_num, hid (namAt_more hd.out (namAt_low hlt (by omega) (by omega)))⟩
     case measure => simp [intOf]; omega
    ·have h2b : decide ((s[k].toNat : Int) ≤ 122) = false := decide_eq_false (by omega)
     have h3 : 57 < (s[k].toNat : Int) := by omega
     have h4 : ¬ (s[k].toNat : Int) < 48 := by omega
     by_cases h0 : k = 0
     ·subst h0
      go_wp2
      go_ret
      exact ⟨ret_boolS (namB_false hlt (namAt_no hlt (.inr (by omega)) (.inl rfl))).symm, rfl⟩
     ·have h0b : ((k : Int) == 0) = false := by simp; omega
      go_wp2
      go_ret
      exact ⟨ret_boolS (namB_false hlt (namAt_no hlt (.inr (by omega)) (.inr (.inr h3)))).symm, rfl⟩
  ·have hb := namB_true (s := s) (fun j hj => hd.out j (by omega))
   go_wp2
   ·have h1 : 1 ≤ (s.size : Int) := by assumption
    go_ret
    exact ⟨ret_boolS (nam_end1 h1), rfl⟩
   ·have h1 : (s.size : Int) < 1 := by assumption
    go_ret
    exact ⟨ret_boolS (nam_end0 h1), rfl⟩
theorem impl_IsName (s : ByteArray) (_hs : s.size ≤ maxLen) (w : World) :
  Calls Tryz.prog 155 #[.string s] w fun e w' => e = .returned (.bool (namB s)) ∧ ∃ pos, w' = w.iter s pos := by
 go_enter Tryz.func155, Tryz.ntmps155
 go_wp2
 go_loopw [] (fun w' => ∃ pos : Nat, w' = w.iter s pos ∧ pos ≤ s.size ∧ Hid (∀ j, j < pos → namAt s j = true)) (fun w' => s.size - w'.iterPos w.heap.size)
 case atStart => exact ⟨0, rfl, Nat.zero_le _, hid (fun _ h => by omega)⟩
 case round =>
  obtain ⟨pos, rfl, hle, hd⟩ := hrel
  by_cases hp : pos < s.size
  ·by_cases ha : s[pos].toNat < 128
   ·have hnx : ∀ ty, (Instr.next (.pointer (some ⟨w.heap.size, 0, none⟩)) true ty).run Tryz.prog (w.iter s pos) = _ := fun ty => run_next_ascii w s pos ty hp ha
    by_cases h1 : (s[pos].toNat : Int) < 97
    ·have h1b : decide (97 ≤ (s[pos].toNat : Int)) = false := decide_eq_false (by omega)
     by_cases h0 : pos = 0
     ·subst h0
      go_wp2
      go_ret
      exact ⟨ret_boolS (namB_false hp (namAt_no hp (.inl h1) (.inl rfl))).symm, _, rfl⟩
     ·have h0b : ((pos : Int) == 0) = false := by simp; omega
      by_cases h2 : (s[pos].toNat : Int) < 48
      ·have h2b : decide (48 ≤ (s[pos].toNat : Int)) = false := decide_eq_false (by omega)
       go_wp2
       go_ret
       exact ⟨ret_boolS (namB_false hp (namAt_no hp (.inl h1) (.inr (.inl h2)))).symm, _, rfl⟩
      ·by_cases h3 : 57 < (s[pos].toNat : Int)
       ·have h3b : decide ((s[pos].toNat : Int) ≤ 57) = false := decide_eq_false (by omega)
        go_wp2
        go_ret
        exact ⟨ret_boolS (namB_false hp (namAt_no hp (.inl h1) (.inr (.inr h3)))).symm, _, rfl⟩
       ·have h3b : decide ((s[pos].toNat : Int) ≤ 57) = true := decide_eq_true (by omega)
        go_wp2
        go_roundw
        case rel => exact ⟨pos + 1, rfl, by omega, hid (namAt_more hd.out (namAt_dig hp (by omega) (by omega) (by omega)))⟩
        case measure => simp; omega
    ·by_cases h2 : (s[pos].toNat : Int) ≤ 122
     ·have h2b : decide ((s[pos].toNat : Int) ≤ 122) = true := decide_eq_true h2
      go_wp2
      go_roundw
      case rel => exact ⟨pos + 1, rfl, by omega, hid (namAt_more hd.out (namAt_low hp (by omega) (by omega)))⟩
      case measure => simp; omega
     ·have h2b : decide ((s[pos].toNat : Int) ≤ 122) = false := decide_eq_false (by omega)
      have h3 : 57 < (s[pos].toNat : Int) := by omega
      have h3b : decide ((s[pos].toNat : Int) ≤ 57) = false := decide_eq_false (by omega)
      have h4 : ¬ (s[pos].toNat : Int) < 48 := by omega
      by_cases h0 : pos = 0
      ·subst h0
       go_wp2
       go_ret
       exact ⟨ret_boolS (namB_false hp (namAt_no hp (.inr (by omega)) (.inl rfl))).symm, _, rfl⟩
      ·have h0b : ((pos : Int) == 0) = false := by simp; omega
       go_wp2
       go_ret
       exact ⟨ret_boolS (namB_false hp (namAt_no hp (.inr (by omega)) (.inr (.inr h3)))).symm, _, rfl⟩
   ·obtain ⟨hr, hwd⟩ := decode_high s pos hp (by omega)
    have hnx : ∀ ty, (Instr.next (.pointer (some ⟨w.heap.size, 0, none⟩)) true ty).run Tryz.prog (w.iter s pos) = _ := fun ty => run_next_any w s pos ty hp
    have h3 : decide (((Utf8.decode s pos).1 : Int) ≤ 57) = false := decide_eq_false (by omega)
    have h2b : decide (((Utf8.decode s pos).1 : Int) ≤ 122) = false := decide_eq_false (by omega)
    have h4 : ¬ ((Utf8.decode s pos).1 : Int) < 48 := by omega
    have h5 : ¬ ((Utf8.decode s pos).1 : Int) < 97 := by omega
    have hx : 122 < (s[pos].toNat : Int) := by omega
    have fin := namB_false hp (namAt_no hp (.inr hx) (.inr (.inr (by omega))))
    by_cases h0 : pos = 0
    ·subst h0
     go_wp2
     go_ret
     exact ⟨ret_boolS rfl, _, rfl⟩
    ·have h0b : ((pos : Int) == 0) = false := by simp; omega
     go_wp2
     go_ret
     exact ⟨ret_boolS rfl, _, rfl⟩
  ·have hnx : ∀ ty, (Instr.next (.pointer (some ⟨w.heap.size, 0, none⟩)) true ty).run Tryz.prog (w.iter s pos) = _ := fun ty => run_next_end w s pos ty hp
   have hb := namB_true (s := s) (fun j hj => hd.out j (by omega))
   go_wp2
   ·have h1 : s.toList = [] := by assumption
    go_ret
    exact ⟨ret_boolS ((nam_fin0 h1).trans hb.symm), _, rfl⟩
   ·go_ret
    exact ⟨ret_boolS ((nam_fin1 s).trans hb.symm), _, rfl⟩
end Go.Proofs.YteanocjkdehhgaaGreat
