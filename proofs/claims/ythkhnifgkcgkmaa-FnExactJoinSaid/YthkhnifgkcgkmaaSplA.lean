/- The reference's SplitAny returns the pieces. -/
import Derived.Test.YthkhnifgkcgkmaaProg
import Derived.Test.YthkhnifgkcgkmaaCut
import Derived.WalkKit
import Derived.Lib.Hide
import Derived.Maps.AppendAt
import Derived.Deep.QuietTactic
import Derived.BigQuiet
namespace Go.Proofs.Ythkhnifgkcgkmaa
open Go.RowKit
open Go.Lib (hid)

theorem Try.info9 : (Try.prog.info? 9).map (fun i => (i.zero, i.size, i.bytes)) = some (some (.string ByteArray.empty), 1, 16) := by kernel_rfl

def SplitPost (s t : ByteArray) (B : Nat) (w : World) (e : Ending) (w' : World) : Prop := ∃ v, e = .returned v ∧ Strs w' 9 B v (pieces s t) ∧ Below B w w'

theorem Strs_made {w : World} {B : Nat} (h : B = w.heap.size) : Strs (w.alloc (.cells #[] 9)) 9 B (.slice (some ⟨w.heap.size, 0, none⟩) 0 0) [] :=
  World.ownsRow_made w #[] 0 (by omega) (by decide) rfl

set_option maxHeartbeats 800000 in
theorem spec_SplitAny (s t : ByteArray) (hs : s.size ≤ 1048576) (ht : t.size ≤ 1048576) (w : World) :
    Calls Try.prog 13 #[.string s, .string t] w (SplitPost s t w.heap.size w) := by
  obtain ⟨i9, hi, hz0, hz1, hz2⟩ := info_parts Try.info9
  obtain ⟨B, hB⟩ : ∃ B, B = w.heap.size := ⟨_, rfl⟩
  have HB : Hid (B = w.heap.size) := hB
  rw [← hB]; clear hB
  go_enter Try.func13, Try.ntmps13
  go_wp2
  go_loopw [5, 6, 7] (fun out fr i wr => ∃ k : Nat, k ≤ s.size ∧ i = .int .i64 k ∧ fr = .int .i64 (cutTo s (hitAt s t) k).2 ∧ Strs wr 9 B out (cutTo s (hitAt s t) k).1 ∧ Below B w wr) (fun _ _ i _ => s.size - (intOf i).toNat)
  case atStart => exact ⟨0, Nat.zero_le _, rfl, rfl, Strs_made HB.out, by rw [HB.out]; exact (Below.refl _ _).alloc (Nat.le_refl _) _⟩
  case round =>
    obtain ⟨k, hk, rfl, rfl, hown, hbel⟩ := hrel
    have hf := (cutTo_le s (hitAt s t) k).1
    obtain ⟨f, hf'⟩ : ∃ f, f = (cutTo s (hitAt s t) k).2 := ⟨_, rfl⟩
    have HF : Hid (f = (cutTo s (hitAt s t) k).2) := hf'
    rw [← hf'] at hf; rw [← hf']; clear hf'
    by_cases hlt : k < s.size
    · go_wp2
      obtain ⟨wo, rfl⟩ : ∃ wo : World, wo = wr := ⟨_, rfl⟩
      go_loopw [5, 6, 8] (fun out fr j wr => ∃ m : Nat, m ≤ t.size ∧ j = .int .i64 m ∧ fr = .int .i64 f ∧ Strs wr 9 B out (cutTo s (hitAt s t) k).1 ∧ Below B w wr ∧ Hid (hitTo t s[k] m = false)) (fun _ _ j _ => t.size - (intOf j).toNat)
      case atStart => exact ⟨0, Nat.zero_le _, rfl, rfl, hown, hbel, hid rfl⟩
      case round =>
        clear hown hbel
        obtain ⟨m, hm, rfl, rfl, hown, hbel, hno⟩ := hrel
        by_cases hmt : m < t.size
        · have a1 : (0 : Int) ≤ k := by omega
          have a2 : (k : Int) < s.size := by omega
          have a3 : (0 : Int) ≤ m := by omega
          have a4 : (m : Int) < t.size := by omega
          by_cases he : s[k] = t[m]
          · have hei : ((s[k].toNat : Int) == (t[m].toNat : Int)) = true := by rw [he]; simp
            have hhit := hid (hitAt_yes (t := t) hlt hmt he)
            clear he
            have hlen := (cutTo_le s (hitAt s t) k).2
            go_wp2
            go_quiet (fail)
            have hown2 := Strs_drewN hown nq
            have hbel2 := below_drewN hbel nq
            clear hown hbel
            generalize wr.drewN nq = wd at hown2 hbel2 ⊢
            go_wp2_with (at_builtin; refine wpList_append_own _ rfl _ _ 23 rfl B 9 i9 (.string ByteArray.empty) 1 16 Try.underlying23 hi hz0 hz1 hz2 rfl (by decide) _ _ _ rfl (World.ownsRow.alloc (show wd.ownsRow B 9 1 u5 _ _ from hown2) _) ⟨wd.heap.size, 0, none⟩ 1 1 [.string (s.extract f k)] rfl rfl ?d1 ?d2 ?d3 ?d4 ?d5 ?_)
            case d1 => exact cell_one_new _ _ _
            case d2 => intro u hu; simp at hu; subst hu; rfl
            case d3 => unfold maxLen; omega
            case d4 => omega
            case d5 => have := hbel2.size; have := HB.out; simp; omega
            intro v' w1 hown' hgrow _
            have R := Strs_app hown2 hbel2 (by have := hbel2.size; have := HB.out; omega) hown' hgrow
            clear hown' hgrow hown2 hbel2
            go_wp2
            go_roundw
            case rel =>
              have hc := cut_hit HF.out hhit.out
              exact ⟨k + 1, by omega, by go_num, by rw [hc]; go_num, by rw [hc]; exact R.1, R.2⟩
            case measure => simp [intOf]; omega
          · have hei : ((s[k].toNat : Int) == (t[m].toNat : Int)) = false := by
              simp; intro h; exact he (UInt8.toNat_inj.mp (by omega))
            have hnx := hid (hitTo_no hmt hno.out he)
            clear he
            go_wp2
            go_quiet (fail)
            have hown2 := Strs_drewN hown nq
            have hbel2 := below_drewN hbel nq
            clear hown hbel
            generalize wr.drewN nq = wd at hown2 hbel2 ⊢
            go_wp2
            go_roundw
            case rel => exact ⟨m + 1, by omega, by go_num, rfl, hown2, hbel2, hnx⟩
            case measure => simp [intOf]; omega
        · obtain rfl : m = t.size := by omega
          have hnone := hid (hitAt_no (t := t) hlt hno.out)
          go_wp2
          go_roundw
          case rel =>
            have hc := cutTo_no (s := s) hnone.out
            exact ⟨k + 1, by omega, by go_num, by rw [hc, HF.out], by rw [hc]; exact hown, hbel⟩
          case measure => simp [intOf]; omega
    · have hlen := (cutTo_le s (hitAt s t) k).2
      go_wp2_with (at_builtin; refine wpList_append_own _ rfl _ _ 23 rfl B 9 i9 (.string ByteArray.empty) 1 16 Try.underlying23 hi hz0 hz1 hz2 rfl (by decide) _ _ _ rfl (World.ownsRow.alloc (show wr.ownsRow B 9 1 u5 _ _ from hown) _) ⟨wr.heap.size, 0, none⟩ 1 1 [.string (s.extract f s.size)] rfl rfl ?c1 ?c2 ?c3 ?c4 ?c5 ?_)
      case c1 => exact cell_one_new _ _ _
      case c2 => intro u hu; simp at hu; subst hu; rfl
      case c3 => unfold maxLen; omega
      case c4 => omega
      case c5 => have := hbel.size; have := HB.out; simp; omega
      intro v' w1 hown' hgrow _
      go_wp2
      go_ret
      have R := Strs_app hown hbel (by have := hbel.size; have := HB.out; omega) hown' hgrow
      rw [pieces_end HF.out (by omega)] at R
      exact ⟨v', rfl, R.1, R.2⟩
end Go.Proofs.Ythkhnifgkcgkmaa
