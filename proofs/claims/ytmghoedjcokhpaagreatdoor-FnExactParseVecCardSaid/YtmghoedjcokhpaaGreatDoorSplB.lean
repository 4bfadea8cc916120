/- The program's SplitAny returns the pieces. -/
import Derived.Test.YtmghoedjcokhpaaGreatDoorDtx
namespace Go.Proofs.YtmghoedjcokhpaaGreatDoor
open Go.RowKit
open Go.Lib (hid)

theorem zero36 (w : World) : (zeroValue 105).run Tryz.prog w = .ok (.agg (Array.replicate 256 (.bool false))) w := by kernel_rfl

set_option maxRecDepth 100000 in
set_option maxHeartbeats 800000 in
theorem impl_SplitAny (s t : ByteArray) (hs : s.size ≤ 1048576) (ht : t.size ≤ 1048576) (w : World) :
    Calls Tryz.prog 42 #[.string s, .string t] w (SplitPost s t w.heap.size w) := by
  obtain ⟨i9, hi, hz0, hz1, hz2⟩ := info_parts Tryz.info9
  have hz36 := zero36
  go_enter Tryz.func42, Tryz.ntmps42
  go_wp2
  go_loopw [12] (fun i wr => ∃ k : Nat, k ≤ t.size ∧ i = .int .i64 k ∧ Tab t 105 w.heap.size wr k ∧ Below w.heap.size w wr) (fun i _ => t.size - (intOf i).toNat)
  case atStart => exact ⟨0, Nat.zero_le _, rfl, Tab_start _ _ _, (Below.refl _ _).alloc (Nat.le_refl _) _⟩
  case round =>
    obtain ⟨k, hk, rfl, htab, hbel⟩ := hrel
    by_cases hkt : k < t.size
    · have hcell := Tab_cell htab t[k]
      have hfree := Tab_free htab t[k].toNat
      have hst := hid (Tab_store htab hkt)
      have hb8 := t[k].toNat_lt
      clear htab
      go_wp2
      go_roundw
      case rel => exact ⟨k + 1, by omega, by go_num, hst.out, hbel.setCell (Nat.le_refl _) _⟩
      case measure => simp [intOf]; omega
    · obtain rfl : k = t.size := by omega
      go_wp2
      obtain ⟨wo, rfl⟩ : ∃ wo : World, wo = wr := ⟨_, rfl⟩
      go_loopw [7, 8, 22] (fun out fr i wr => ∃ k : Nat, k ≤ s.size ∧ i = .int .i64 k ∧ fr = .int .i64 (cutTo s (hitAt s t) k).2 ∧ Strs wr 9 (w.heap.size + 1) out (cutTo s (hitAt s t) k).1 ∧ Below w.heap.size w wr ∧ Tab t 105 w.heap.size wr t.size) (fun _ _ i _ => s.size - (intOf i).toNat)
      case atStart => exact ⟨0, Nat.zero_le _, rfl, rfl, Strs_nil _ _ _, hbel, htab⟩
      case round =>
        clear htab hbel
        obtain ⟨k, hk, rfl, rfl, hown, hbel, htab⟩ := hrel
        have hf := (cutTo_le s (hitAt s t) k).1
        have hlen := (cutTo_le s (hitAt s t) k).2
        obtain ⟨f, hf'⟩ : ∃ f, f = (cutTo s (hitAt s t) k).2 := ⟨_, rfl⟩
        have HF : Hid (f = (cutTo s (hitAt s t) k).2) := hf'
        rw [← hf'] at hf; rw [← hf']; clear hf'
        by_cases hlt : k < s.size
        · have hb8 := s[k].toNat_lt
          by_cases hh : hitAt s t k = true
          · have hcell : wr.cell? ⟨w.heap.size, s[k].toNat, none⟩ = some (.bool true) := by rw [Tab_cell htab, hitAt_is hlt, hh]
            have hhit := hid hh
            clear hh
            go_wp2_with (at_builtin; refine wpList_append_own _ rfl _ _ 66 rfl (w.heap.size + 1) 9 i9 (.string ByteArray.empty) 1 16 Tryz.underlying66 hi hz0 hz1 hz2 rfl (by decide) _ _ _ rfl (World.ownsRow.alloc (show wr.ownsRow (w.heap.size + 1) 9 1 u7 _ _ from hown) _) ⟨wr.heap.size, 0, none⟩ 1 1 [.string (s.extract f k)] rfl rfl ?d1 ?d2 ?d3 ?d4 ?d5 ?_)
            case d1 => exact cell_one_new _ _ _
            case d2 => intro u hu; simp at hu; subst hu; rfl
            case d3 => unfold maxLen; omega
            case d4 => omega
            case d5 => have := Tab_lt htab; simp; omega
            intro v' w1 hown' hgrow _
            have R := Strs_app_tab hown hbel htab hown' hgrow
            clear hown' hgrow hown hbel htab hcell
            go_wp2
            go_roundw
            case rel =>
              have hc := cut_hit HF.out hhit.out
              exact ⟨k + 1, by omega, by go_num, by rw [hc]; go_num, by rw [hc]; exact R.1, R.2.1, R.2.2⟩
            case measure => simp [intOf]; omega
          · have hh' : hitAt s t k = false := by simpa using hh
            have hcell : wr.cell? ⟨w.heap.size, s[k].toNat, none⟩ = some (.bool false) := by rw [Tab_cell htab, hitAt_is hlt, hh']
            have hnone := hid hh'
            clear hh hh'
            go_wp2
            go_roundw
            case rel =>
              have hc := cutTo_no (s := s) hnone.out
              exact ⟨k + 1, by omega, by go_num, by rw [hc, HF.out], by rw [hc]; exact hown, hbel, htab⟩
            case measure => simp [intOf]; omega
        · go_wp2_with (at_builtin; refine wpList_append_own _ rfl _ _ 66 rfl (w.heap.size + 1) 9 i9 (.string ByteArray.empty) 1 16 Tryz.underlying66 hi hz0 hz1 hz2 rfl (by decide) _ _ _ rfl (World.ownsRow.alloc (show wr.ownsRow (w.heap.size + 1) 9 1 u7 _ _ from hown) _) ⟨wr.heap.size, 0, none⟩ 1 1 [.string (s.extract f s.size)] rfl rfl ?c1 ?c2 ?c3 ?c4 ?c5 ?_)
          case c1 => exact cell_one_new _ _ _
          case c2 => intro u hu; simp at hu; subst hu; rfl
          case c3 => unfold maxLen; omega
          case c4 => omega
          case c5 => have := Tab_lt htab; simp; omega
          intro v' w1 hown' hgrow _
          go_wp2
          go_ret
          have R := Strs_app_tab hown hbel htab hown' hgrow
          rw [pieces_end HF.out (by omega)] at R
          exact ⟨v', rfl, Strs_base R.1 (by omega), R.2.1⟩
end Go.Proofs.YtmghoedjcokhpaaGreatDoor
