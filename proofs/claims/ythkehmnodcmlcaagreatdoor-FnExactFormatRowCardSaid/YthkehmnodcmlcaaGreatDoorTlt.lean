/- The law FormatTerms. -/
import Derived.Test.YthkehmnodcmlcaaGreatDoorTft
import Derived.Test.YthkehmnodcmlcaaGreatDoorDtx
import Derived.Deep.RegionHeld3
import Derived.Deep.DeepCutAuto
namespace Go.Proofs.YthkehmnodcmlcaaGreatDoor
open Go.RowKit
open Go.Lib (hid)
set_option linter.unusedVariables false

theorem sumSz_mem : ∀ {L : List ByteArray} {x : ByteArray}, x ∈ L → x.size ≤ sumSz L
  | y :: L, x, h => by
    rcases List.mem_cons.1 h with rfl | h
    · simp only [sumSz]; omega
    · have := sumSz_mem h
      simp only [sumSz]; omega
set_option maxRecDepth 100000 in
set_option maxHeartbeats 800000 in
theorem szStringS_z (z : Int) (z0 : 0 ≤ z) (z1 : z ≤ 1048576) (a : Option Addr) (n c : Nat) (L : List ByteArray) (w : World) (hr : RowO w a n L) (hn : n ≤ maxLen) (hz : ∀ x ∈ L, x.size ≤ maxLen) :
    Calls Tryz.prog 7 #[.slice a n c, .int .i64 z] w (SzPost L w) := by
  obtain ⟨rfl, hr⟩ := hr
  have HR := hid hr
  have HZ := hid hz
  clear hr hz
  unfold maxLen at hn
  by_cases h1 : z < L.length
  · go_enter Tryz.func7, Tryz.ntmps7
    go_wp2
    go_ret
    exact ⟨-1, rfl, by omega, rfl⟩
  · go_enter Tryz.func7, Tryz.ntmps7
    go_wp2
    go_loop [1, 5] (fun x i => ∃ (k : Nat) (left : Int), k ≤ L.length ∧ i = .int .i64 k ∧ x = .int .i64 left ∧ 0 ≤ left ∧ left ≤ 1048576 ∧ Hid (left = z - L.length - sumSz (L.take k))) (fun _ i => L.length - (intOf i).toNat)
    case atStart => exact ⟨0, _, Nat.zero_le _, rfl, rfl, by omega, by omega, hid (by simp [sumSz])⟩
    case round =>
      obtain ⟨k, left, hk, rfl, rfl, h2, h3, h4⟩ := hrel
      by_cases hlt : k < L.length
      · obtain ⟨g, o, rfl, hg, hc⟩ := HR.out (by omega)
        have hck := hc k hlt
        have hzk := HZ.out L[k] (List.getElem_mem hlt)
        have HT := hid (sumSz_take hlt)
        unfold maxLen at hzk
        clear hc
        have a1 : (0 : Int) ≤ k := by omega
        have a2 : (k : Int) < L.length := by omega
        by_cases h5 : left - L[k].size < 0
        · go_wp2
          go_ret
          exact ⟨-1, rfl, by omega, rfl⟩
        · go_wp2
          go_round
          case rel => exact ⟨k + 1, _, by omega, by go_num, rfl, by omega, by omega, hid (by have := h4.out; have := HT.out; omega)⟩
          case measure => simp [intOf]; omega
      · obtain rfl : k = L.length := by omega
        go_wp2
        go_ret
        refine ⟨left, rfl, fun _ => ?_, rfl⟩
        have := h4.out
        rw [List.take_length] at this
        omega
end Go.Proofs.YthkehmnodcmlcaaGreatDoor
