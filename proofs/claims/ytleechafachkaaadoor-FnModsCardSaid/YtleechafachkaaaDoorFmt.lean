/- FormatInt of the reference returns the decimal numeral. -/
import Derived.Test.YtleechafachkaaaDoorProg
import Derived.WalkKit
import Derived.Lib.Hide
import Derived.Lib.ItoaNum
import Derived.Laws.IdiomStrings
import Derived.Maps.AppendAt
import Derived.IntWalk
import Derived.Deep.RegionWith
namespace Go.Proofs.YtleechafachkaaaDoor
open Go.RowKit
open Go.Lib (hid)

def bts (l : List UInt8) : ByteArray := ⟨l.toArray⟩
def dig1 (z : Int) : UInt8 := UInt8.ofNat z.toNat
theorem bts_app (x y : List UInt8) : bts x ++ bts y = bts (x ++ y) := ByteArray.mk_append_mk x y
theorem bts_size (x : List UInt8) : (bts x).size = x.length := rfl

theorem convB (W : World) (a : Addr) (z : Int) (h0 : 0 ≤ z) (h1 : z < 256) (hc : W.cell? a = some (.int .u8 z)) : (convert 22 9 (.slice (some a) 1 1)).run Tryd.prog W = .ok (.string (bts [dig1 z])) W := by
  have e : (dig1 z).toNat = z.toNat := by simp [dig1]; omega
  refine run_convert_bytes_back (P := Tryd.prog) W 22 9 5 a 1 [dig1 z] Tryd.underlying22 Tryd.underlying5 Tryd.underlying9 (fun j hj => ?_)
  obtain rfl : j = 0 := by simp at hj; omega
  have ha : a.add 0 = a := by simp [Addr.add]
  rw [ha, hc]
  simp only [List.getElem_cons_zero, e]
  rw [Int.toNat_of_nonneg h0]

theorem dec_small {u : Nat} (h : u < 10) : Lib.decDigits u = [dig1 (48 + u)] := by
  rw [Lib.decDigits, dif_pos h]
  simp only [dig1]
  congr 2
theorem dec_big {u : Nat} (h : ¬ u < 10) : Lib.decDigits u = Lib.decDigits (u / 10) ++ [dig1 (48 + (u % 10 : Nat))] := by
  rw [Lib.decDigits, dif_neg h]
  simp only [dig1]
  congr 2
theorem ret_bts {a b : ByteArray} (h : a = b) : Ending.returned (.string a) = .returned (.string b) := by rw [h]
theorem dec_len (u : Nat) (h : u ≤ 9223372036854775808) : (Lib.decDigits u).length ≤ 20 := by
  rw [Lib.decDigits_length]
  rcases Nat.lt_or_ge (Lib.nDigits u) 21 with h1 | h1
  · omega
  · have h2 : ∀ k u, k + 1 ≤ Lib.nDigits u → 10 ^ k ≤ u ∨ k = 0 := by
      intro k
      induction k with
      | zero => intro u _; exact .inr rfl
      | succ k ih =>
        intro u hu
        left
        by_cases hb : u < 10
        · rw [Lib.nDigits_small hb] at hu; omega
        · rw [Lib.nDigits_big hb] at hu
          rcases ih (u / 10) (by omega) with h3 | h3
          · rw [Nat.pow_succ]; omega
          · subst h3; omega
    rcases h2 20 u (by omega) with h3 | h3
    · omega
    · omega

set_option maxRecDepth 100000 in
set_option maxHeartbeats 800000 in
theorem spec_FormatInt_pos (n : Nat) (hn : n ≤ 9223372036854775807) (w : World) :
    Calls Tryd.prog 70 #[.int .i64 n] w fun e w' => e = .returned (.string (bts (Lib.decDigits n))) ∧ Below w.heap.size w w' := by
  have hlen := dec_len n (by omega)
  go_enter Tryd.func70, Tryd.ntmps70
  go_wp2_with fail
  go_loopw [0, 3] (fun i x wr => ∃ (m : Nat) (l : List UInt8), m ≤ n ∧ i = .int .i64 m ∧ x = .string (bts l) ∧ l.length ≤ 20 ∧ Hid (Lib.decDigits m ++ l = Lib.decDigits n) ∧ Below w.heap.size w wr) (fun i _ _ => (intOf i).toNat)
  case atStart => exact ⟨n, [], Nat.le_refl _, rfl, rfl, by simp, hid (by simp), Below.refl _ _⟩
  case round =>
    obtain ⟨m, l, hm, rfl, rfl, hl, hd, hbel⟩ := hrel
    have hsz := bts_size l
    have hbs := hbel.size
    by_cases h9 : (9 : Int) < m
    · have hcv := convB (wr.alloc (.cells #[.int .u8 (48 + (m : Int) % 10)] 5)) ⟨wr.heap.size, 0, none⟩ (48 + (m : Int) % 10) (by omega) (by omega) (cell_one_new wr _ 5 0 _ rfl)
      have HD := hid (dec_big (u := m) (by omega))
      have hs1 : (bts [dig1 (48 + (m : Int) % 10)]).size = 1 := rfl
      go_wp2_with fail
      go_roundw
      case rel =>
        refine ⟨m / 10, dig1 (48 + ((m % 10 : Nat) : Int)) :: l, by omega, by go_num, by rw [bts_app]; rfl, ?_, hid ?_, hbel.alloc hbs _⟩
        · have h1 := hd.out
          rw [HD.out, List.append_assoc] at h1
          have h2 := congrArg List.length h1
          have h3 : 1 ≤ (Lib.decDigits (m / 10)).length := by rw [Lib.decDigits_length]; exact Lib.nDigits_pos _
          simp at h2
          simp; omega
        · have h1 := hd.out
          rw [HD.out, List.append_assoc] at h1
          exact h1
      case measure => simp [intOf]; omega
    · have hcv := convB (wr.alloc (.cells #[.int .u8 (48 + (m : Int))] 5)) ⟨wr.heap.size, 0, none⟩ (48 + (m : Int)) (by omega) (by omega) (cell_one_new wr _ 5 0 _ rfl)
      have HD := hid (dec_small (u := m) (by omega))
      have hs1 : (bts [dig1 (48 + (m : Int))]).size = 1 := rfl
      go_wp2_with fail
      go_ret
      have h1 := hd.out
      rw [HD.out] at h1
      exact ⟨ret_bts (by rw [← h1]; exact bts_app _ _), hbel.alloc hbs _⟩

theorem tdiv10 {z : Int} (h : z < 0) : z.tdiv 10 = -((-z) / 10) := by
  have e : z.tdiv 10 = -((-z).tdiv 10) := by rw [Int.neg_tdiv]; omega
  rw [e, Int.tdiv_eq_ediv_of_nonneg (by omega)]
theorem tmod10 {z : Int} (h : z < 0) : z.tmod 10 = -((-z) % 10) := by
  have e : z.tmod 10 = -((-z).tmod 10) := by rw [Int.neg_tmod]; omega
  rw [e, Int.tmod_eq_emod_of_nonneg (by omega)]
theorem bcell {W w1 : World} (hb : Below W.heap.size W w1) : (∀ b o, b < W.heap.size → w1.cell? ⟨b, o, none⟩ = W.cell? ⟨b, o, none⟩) ∧ W.heap.size ≤ w1.heap.size :=
  ⟨fun b o h => hb.cell (p := ⟨b, o, none⟩) h, hb.size⟩

set_option maxRecDepth 100000 in
set_option maxHeartbeats 800000 in
theorem spec_FormatInt_neg (k : Nat) : ∀ (z : Int) (w : World), z < 0 → -9223372036854775808 ≤ z → z.natAbs ≤ k →
    Calls Tryd.prog 70 #[.int .i64 z] w fun e w' => e = .returned (.string (bts (45 :: Lib.decDigits z.natAbs))) ∧ Below w.heap.size w w' := by
  induction k with
  | zero => intro z w h0 h1 h2; omega
  | succ k ih =>
    intro z w h0 h1 h2
    have hq := tdiv10 h0
    have hr := tmod10 h0
    by_cases h9 : -10 < z
    · have e0 : (z.tdiv 10 == 0) = true := by rw [hq]; simp; omega
      have HD := hid (dec_small (u := z.natAbs) (by omega))
      have hcv := convB (w.alloc (.cells #[.int .u8 (48 - z)] 5)) ⟨w.heap.size, 0, none⟩ (48 - z) (by omega) (by omega) (cell_one_new w _ 5 0 _ rfl)
      have hs1 : (bts [dig1 (48 - z)]).size = 1 := rfl
      have HZ : Hid (48 - z = 48 + (z.natAbs : Int)) := by show 48 - z = _; omega
      clear hq hr ih
      go_enter Tryd.func70, Tryd.ntmps70
      go_wp2_with fail
      go_ret
      refine ⟨ret_bts ?_, (Below.refl _ _).alloc (Nat.le_refl _) _⟩
      rw [HD.out, HZ.out]
      exact bts_app [45] _
    · have e0 : (z.tdiv 10 == 0) = false := by rw [hq]; simp; omega
      have hq0 : z.tdiv 10 < 0 := by omega
      have hq1 : -9223372036854775808 ≤ z.tdiv 10 := by omega
      have hq2 : (z.tdiv 10).natAbs ≤ k := by omega
      have hr0 : -9 ≤ z.tmod 10 := by omega
      have hr1 : z.tmod 10 ≤ 0 := by omega
      have HQ := hid (show (z.tdiv 10).natAbs = z.natAbs / 10 by omega)
      have HR := hid (show (48 - z.tmod 10) = 48 + ((z.natAbs % 10 : Nat) : Int) by omega)
      have HD := hid (dec_big (u := z.natAbs) (by omega))
      have hlen := dec_len ((z.tdiv 10).natAbs) (by omega)
      have hcv := fun (W : World) (a : Addr) (h : W.cell? a = some (.int .u8 (48 - z.tmod 10))) => convB W a (48 - z.tmod 10) (by omega) (by omega) h
      obtain ⟨D, hD⟩ : ∃ D, D = 45 :: Lib.decDigits (z.tdiv 10).natAbs := ⟨_, rfl⟩
      have hsum : ¬ 9223372036854775807 < (bts D).size + (bts [dig1 (48 - z.tmod 10)]).size := by
        rw [hD]
        show ¬ 9223372036854775807 < ((Lib.decDigits (z.tdiv 10).natAbs).length + 1) + 1
        omega
      have HDD := hid hD
      have IH : ∀ w : World, Hid (Calls Tryd.prog 70 #[.int .i64 (z.tdiv 10)] w fun e w' => e = .returned (.string (bts D)) ∧ Below w.heap.size w w') := fun w => by
        rw [hD]; exact hid (ih (z.tdiv 10) w hq0 hq1 hq2)
      clear hD hlen
      have wq := IntWalk.i64_in (z.tdiv 10) (by omega)
      have wr := IntWalk.i64_in (z.tmod 10) (by omega)
      have wd := IntWalk.i64_in (48 - z.tmod 10) (by omega)
      have wb := IntWalk.u8_in (48 - z.tmod 10) (by omega)
      clear hq hr ih
      go_enter Tryd.func70, Tryd.ntmps70
      go_wp2_with fail
      go_region_with ((go_at_call 70; (with_reducible refine (Hid.out (IH _)).mono ?_); rintro e w1 ⟨rfl, hb⟩; obtain ⟨hc, hz⟩ := bcell hb))
      all_goals clear wq wr wd wb hsum hcv hc
      all_goals go_wp2_with fail
      all_goals go_ret
      all_goals (refine ⟨ret_bts (by rw [bts_app, HDD.out, HQ.out, HR.out, HD.out]; rfl), ?_⟩)
      all_goals first | exact (((Below.refl _ _).drew).trans hb).alloc hz _ | exact (((Below.refl _ _).alloc (Nat.le_refl _) _).drew).trans (hb.mono (by simp))
end Go.Proofs.YtleechafachkaaaDoor
