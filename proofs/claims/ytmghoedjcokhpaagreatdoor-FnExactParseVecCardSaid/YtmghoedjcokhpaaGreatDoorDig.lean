/- The bodies of IsDigits, the reference's and the program's, answer the same on every string. -/
import Derived.Test.YtmghoedjcokhpaaGreatDoorProg
import Derived.WalkKit
import Derived.Lib.Hide
namespace Go.Proofs.YtmghoedjcokhpaaGreatDoor
open Go.RowKit
open Go.Lib (hid)

def isDigB (c : UInt8) : Bool := decide (48 ≤ c.toNat) && decide (c.toNat ≤ 57)
def digAt (s : ByteArray) (j : Nat) : Bool := if h : j < s.size then isDigB s[j] else false
def digs (s : ByteArray) : Bool := decide (0 < s.size) && decide (∀ j, j < s.size → digAt s j = true)

theorem digs_true {s : ByteArray} (h : ∀ j, j < s.size → digAt s j = true) : digs s = decide (0 < s.size) := by
  have e : decide (∀ j, j < s.size → digAt s j = true) = true := decide_eq_true h
  simp only [digs, e, Bool.and_true]

theorem digs_false {s : ByteArray} {k : Nat} (hk : k < s.size) (h : digAt s k = false) : digs s = false := by
  have e : decide (∀ j, j < s.size → digAt s j = true) = false := decide_eq_false (fun g => by rw [g k hk] at h; cases h)
  simp [digs, e]

theorem digAt_yes {s : ByteArray} {k : Nat} (hk : k < s.size) (h1 : 48 ≤ (s[k].toNat : Int)) (h2 : (s[k].toNat : Int) ≤ 57) : digAt s k = true := by
  have a : 48 ≤ s[k].toNat := by omega
  have b : s[k].toNat ≤ 57 := by omega
  simp [digAt, hk, isDigB, a, b]

theorem digAt_lo {s : ByteArray} {k : Nat} (hk : k < s.size) (h1 : (s[k].toNat : Int) < 48) : digAt s k = false := by
  have a : ¬ 48 ≤ s[k].toNat := by omega
  simp [digAt, hk, isDigB, a]

theorem digAt_hi {s : ByteArray} {k : Nat} (hk : k < s.size) (h1 : 57 < (s[k].toNat : Int)) : digAt s k = false := by
  have a : ¬ s[k].toNat ≤ 57 := by omega
  simp [digAt, hk, isDigB, a]

theorem digs_more {s : ByteArray} {k : Nat} (hd : ∀ j, j < k → digAt s j = true) (h : digAt s k = true) : ∀ j, j < k + 1 → digAt s j = true := by
  intro j hj
  by_cases e : j = k
  · rw [e]; exact h
  · exact hd j (by omega)

theorem ret_boolS {a b : Bool} (h : a = b) : Ending.returned (.bool a) = .returned (.bool b) := by rw [h]

set_option maxRecDepth 100000 in
set_option maxHeartbeats 400000 in
theorem spec_IsDigits (s : ByteArray) (hs : s.size ≤ maxLen) (w : World) :
    Calls Tryz.prog 108 #[.string s] w fun e w' => e = .returned (.bool (digs s)) ∧ w = w' := by
  unfold maxLen at hs
  go_enter Tryz.func108, Tryz.ntmps108
  go_wp2
  go_loop [3] (fun i => ∃ k : Nat, k ≤ s.size ∧ i = .int .i64 k ∧ Hid (∀ j, j < k → digAt s j = true)) (fun i => s.size - (intOf i).toNat)
  case atStart => exact ⟨0, Nat.zero_le _, rfl, hid (fun _ h => by omega)⟩
  case round =>
    obtain ⟨k, hk, rfl, hd⟩ := hrel
    by_cases hlt : k < s.size
    · by_cases h1 : (s[k].toNat : Int) < 48
      · go_wp2
        go_ret
        exact ⟨ret_boolS (digs_false hlt (digAt_lo hlt h1)).symm, rfl⟩
      · by_cases h2 : 57 < (s[k].toNat : Int)
        · go_wp2
          go_ret
          exact ⟨ret_boolS (digs_false hlt (digAt_hi hlt h2)).symm, rfl⟩
        · go_wp2
          go_round
          case rel => exact ⟨k + 1, by omega, by go_num, hid (digs_more hd.out (digAt_yes hlt (by omega) (by omega)))⟩
          case measure => simp [intOf]; omega
    · go_wp2
      go_ret
      have : k = s.size := by omega
      exact ⟨ret_boolS (digs_true (fun j hj => hd.out j (by omega))).symm, rfl⟩


theorem digAt_high {s : ByteArray} {k : Nat} (hk : k < s.size) (h1 : ¬ (s[k].toNat : Int) < 128) : digAt s k = false :=
  digAt_hi hk (by omega)

theorem nonempty_iff (s : ByteArray) : (!s.toList.isEmpty) = decide (0 < s.size) := by
  rw [ByteArray.toList_eq]
  have h : s.size = s.data.toList.length := by simp
  rw [h]
  cases s.data.toList <;> simp

set_option maxRecDepth 100000 in
set_option maxHeartbeats 400000 in
theorem impl_IsDigits (s : ByteArray) (w : World) :
    Calls Tryz.prog 49 #[.string s] w fun e w' => e = .returned (.bool (digs s)) ∧ ∃ pos, w' = w.iter s pos := by
  go_enter Tryz.func49, Tryz.ntmps49
  go_wp2
  go_loopw [] (fun w' => ∃ pos : Nat, w' = w.iter s pos ∧ pos ≤ s.size ∧ Hid (∀ j, j < pos → digAt s j = true)) (fun w' => s.size - w'.iterPos w.heap.size)
  case atStart => exact ⟨0, rfl, Nat.zero_le _, hid (fun _ h => by omega)⟩
  case round =>
    obtain ⟨pos, rfl, hle, hd⟩ := hrel
    by_cases hp : pos < s.size
    · by_cases ha : s[pos].toNat < 128
      · have hnx : ∀ ty, (Instr.next (.pointer (some ⟨w.heap.size, 0, none⟩)) true ty).run Tryz.prog (w.iter s pos) = _ := fun ty => run_next_ascii w s pos ty hp ha
        by_cases h1 : (s[pos].toNat : Int) < 48
        · go_wp2
          go_ret
          exact ⟨ret_boolS (digs_false hp (digAt_lo hp h1)).symm, _, rfl⟩
        · by_cases h2 : 57 < (s[pos].toNat : Int)
          · have h3 : decide ((s[pos].toNat : Int) ≤ 57) = false := decide_eq_false (by omega)
            go_wp2
            go_ret
            exact ⟨ret_boolS (digs_false hp (digAt_hi hp h2)).symm, _, rfl⟩
          · have h3 : decide ((s[pos].toNat : Int) ≤ 57) = true := decide_eq_true (by omega)
            go_wp2
            go_roundw
            case rel => exact ⟨pos + 1, rfl, by omega, hid (digs_more hd.out (digAt_yes hp (by omega) (by omega)))⟩
            case measure => simp; omega
      · obtain ⟨hr, hwd⟩ := decode_high s pos hp (by omega)
        have hnx : ∀ ty, (Instr.next (.pointer (some ⟨w.heap.size, 0, none⟩)) true ty).run Tryz.prog (w.iter s pos) = _ := fun ty => run_next_any w s pos ty hp
        have h3 : decide (((Utf8.decode s pos).1 : Int) ≤ 57) = false := decide_eq_false (by omega)
        have h4 : ¬ ((Utf8.decode s pos).1 : Int) < 48 := by omega
        go_wp2
        go_ret
        exact ⟨ret_boolS (digs_false hp (digAt_high hp (by omega))).symm, _, rfl⟩
    · have hnx : ∀ ty, (Instr.next (.pointer (some ⟨w.heap.size, 0, none⟩)) true ty).run Tryz.prog (w.iter s pos) = _ := fun ty => run_next_end w s pos ty hp
      go_wp2
      go_ret
      exact ⟨ret_boolS ((nonempty_iff s).trans (digs_true (fun j hj => hd.out j (by omega))).symm), _, rfl⟩
end Go.Proofs.YtmghoedjcokhpaaGreatDoor
