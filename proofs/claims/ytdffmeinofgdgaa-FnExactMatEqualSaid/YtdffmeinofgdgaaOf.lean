/- Numbers out of ints, trimming, the cap of 60 limbs, comparison, numbers into ints. -/
import Derived.Test.YtdffmeinofgdgaaMem
import Derived.Test.YtdffmeinofgdgaaRd
namespace Go.Proofs.Ytdffmeinofgdgaa
open Go.RowKit
open Go.Lib (hid)
set_option linter.unusedVariables false

theorem Ints_app {w0 w w1 : World} {B : Nat} {v v' : Value} {L : List Int} {x : Int} {o : Obj} (h : Ints w B v L) (hbel : Below B w0 w) (hB : B ≤ w.heap.size)
    (h' : w1.ownsRow B 3 1 v' (L.length + 1) (L.map (Value.int .i64) ++ [.int .i64 x])) (hg : (w.alloc o).grownBy w1 v.ownBlock) : Ints w1 B v' (L ++ [x]) ∧ Below B w0 w1 :=
  ⟨Ints_snoc h', (hbel.alloc hB o).grown hg (by simp; omega) (fun k hk => (Ints_lt h k hk).1)⟩
theorem Ints_take {w : World} {B n c : Nat} {a : Option Addr} {L : List Int} (h : Ints w B (.slice a n c) L) {k : Nat} (hk : k ≤ L.length) : Ints w B (.slice a k c) (L.take k) := by
  refine ⟨by simp, ?_⟩
  have hl : (L.take k).length = k := by simp; omega
  rcases h.2 with ⟨h1, h2⟩ | ⟨g, cap, cur, h1, h2, h3, h4, h5, h6, h7⟩
  · left
    have hk0 : k = 0 := by omega
    subst hk0
    simp at h1
    obtain ⟨rfl, _, rfl⟩ := h1
    exact ⟨rfl, by simp⟩
  · simp at h1
    obtain ⟨rfl, _, rfl⟩ := h1
    refine .inr ⟨g, c, cur, by rw [hl], h2, h3, by omega, h5, h6, ?_⟩
    rw [List.map_take, ← h7, List.take_take, hl]
    congr 1; omega
theorem rep_short {n : Int} (h : n ≤ 9223372036854775807) : (rep n.toNat).length ≤ 3 := by
  refine (Can_len (Can_rep n.toNat)).2 ?_
  rw [val_rep]
  simp only [pw]; omega
theorem rep_step {n m : Int} {L : List Int} (h : L ++ rep m.toNat = rep n.toNat) (hm : 0 < m) : (L ++ [m % 1000000000]) ++ rep (m / 1000000000).toNat = rep n.toNat := by
  rw [← h, List.append_assoc, List.singleton_append, rep_pos (n := m.toNat) (by omega)]
  congr 2
  · omega
  · congr 1; omega
theorem rep_done {n m : Int} {L : List Int} (h : L ++ rep m.toNat = rep n.toNat) (hm : m ≤ 0) : L = rep n.toNat := by
  rw [← h, show m.toNat = 0 by omega, rep_zero, List.append_nil]
theorem rep_part {n m : Int} {L : List Int} (h : L ++ rep m.toNat = rep n.toNat) (hn : (rep n.toNat).length ≤ 3) : L.length ≤ 3 := by
  rw [← h, List.length_append] at hn; omega

set_option maxRecDepth 100000 in
set_option maxHeartbeats 800000 in
theorem impl_NatOf (n : Int) (hn : n ≤ 9223372036854775807) (w : World) : Calls Try.prog 79 #[.int .i64 n] w (OwnP (rep n.toNat) w) := by
  obtain ⟨i3, hi, hz0, hz1, hz2⟩ := info_parts Try.info3
  have H3 := hid (rep_short hn)
  obtain ⟨B, hB⟩ : ∃ B, B = w.heap.size := ⟨_, rfl⟩
  have HB := hid hB
  clear hB
  have HN := hid hn
  clear hn
  go_enter Try.func79, Try.ntmps79
  go_wp2
  go_loopw [0, 3] (fun x out wr => ∃ (m : Int) (L : List Int), x = .int .i64 m ∧ Hid (m ≤ n) ∧ Ints wr B out L ∧ Below B w wr ∧ Hid (L ++ rep m.toNat = rep n.toNat)) (fun x _ _ => (intOf x).toNat)
  case atStart => exact ⟨n, [], rfl, hid (Int.le_refl _), Ints_nil _ _, Below.refl _ _, hid rfl⟩
  case round =>
    obtain ⟨m, L, rfl, hmn, hown, hbel, hrep⟩ := hrel
    by_cases hm : 0 < m
    · have hmb : m ≤ 9223372036854775807 := by have := hmn.out; have := HN.out; omega
      have hl := rep_part hrep.out H3.out
      have hb0 : B ≤ wr.heap.size := by have := hbel.size; have := HB.out; omega
      have HS := hid (rep_step hrep.out hm)
      go_wp2_with (at_builtin; refine wpList_append_own _ rfl _ _ 35 rfl B 3 i3 (.int .i64 0) 1 8 Try.underlying35 hi hz0 hz1 hz2 rfl (by decide) _ _ _ rfl (World.ownsRow.alloc (show wr.ownsRow B 3 1 u3 _ _ from hown) _) ⟨wr.heap.size, 0, none⟩ 1 1 [.int .i64 (m % 1000000000)] rfl rfl ?c1 ?c2 ?c3 ?c4 ?c5 ?_)
      case c1 => exact cell_one_new _ _ _
      case c2 => intro u hu; simp at hu; subst hu; rfl
      case c3 => unfold maxLen; omega
      case c4 => omega
      case c5 => simp; omega
      intro v' w1 hown' hgrow _
      have R := Ints_app hown hbel hb0 hown' hgrow
      clear hown' hgrow hown hbel
      go_wp2
      go_roundw
      case rel => exact ⟨m / 1000000000, _, rfl, hid (by have := hmn.out; omega), R.1, R.2, HS⟩
      case measure => simp [intOf]; omega
    · have hd := rep_done hrep.out (by omega)
      have HD := hid hd
      clear hd
      go_wp2
      go_ret
      exact OwnP_mk HB.out rfl (by rw [← HD.out]; exact hown) hbel

theorem Ints_lit0 {w : World} {B : Nat} (h : B = w.heap.size) : Ints (w.alloc (.cells #[] 3)) B (.slice (some ⟨w.heap.size, 0, none⟩) 0 0) [] :=
  World.ownsRow_made w #[] 0 (by omega) (by decide) rfl

set_option maxRecDepth 100000 in
set_option maxHeartbeats 800000 in
theorem spec_NatOf (n : Int) (hn : n ≤ 9223372036854775807) (w : World) : Calls Try.prog 81 #[.int .i64 n] w (OwnP (rep n.toNat) w) := by
  obtain ⟨i3, hi, hz0, hz1, hz2⟩ := info_parts Try.info3
  have H3 := hid (rep_short hn)
  obtain ⟨B, hB⟩ : ∃ B, B = w.heap.size := ⟨_, rfl⟩
  have HB := hid hB
  clear hB
  have HN := hid hn
  clear hn
  go_enter Try.func81, Try.ntmps81
  go_wp2
  go_loopw [0, 3] (fun x out wr => ∃ (m : Int) (L : List Int), x = .int .i64 m ∧ Hid (m ≤ n) ∧ Ints wr B out L ∧ Below B w wr ∧ Hid (L ++ rep m.toNat = rep n.toNat)) (fun x _ _ => (intOf x).toNat)
  case atStart => exact ⟨n, [], rfl, hid (Int.le_refl _), Ints_lit0 HB.out, by rw [HB.out]; exact (Below.refl _ _).alloc (Nat.le_refl _) _, hid rfl⟩
  case round =>
    obtain ⟨m, L, rfl, hmn, hown, hbel, hrep⟩ := hrel
    by_cases hm : 0 < m
    · have hmb : m ≤ 9223372036854775807 := by have := hmn.out; have := HN.out; omega
      have hl := rep_part hrep.out H3.out
      have hb0 : B ≤ wr.heap.size := by have := hbel.size; have := HB.out; omega
      have HS := hid (rep_step hrep.out hm)
      go_wp2_with (at_builtin; refine wpList_append_own _ rfl _ _ 35 rfl B 3 i3 (.int .i64 0) 1 8 Try.underlying35 hi hz0 hz1 hz2 rfl (by decide) _ _ _ rfl (World.ownsRow.alloc (show wr.ownsRow B 3 1 u3 _ _ from hown) _) ⟨wr.heap.size, 0, none⟩ 1 1 [.int .i64 (m % 1000000000)] rfl rfl ?c1 ?c2 ?c3 ?c4 ?c5 ?_)
      case c1 => exact cell_one_new _ _ _
      case c2 => intro u hu; simp at hu; subst hu; rfl
      case c3 => unfold maxLen; omega
      case c4 => omega
      case c5 => simp; omega
      intro v' w1 hown' hgrow _
      have R := Ints_app hown hbel hb0 hown' hgrow
      clear hown' hgrow hown hbel
      go_wp2
      go_roundw
      case rel => exact ⟨m / 1000000000, _, rfl, hid (by have := hmn.out; omega), R.1, R.2, HS⟩
      case measure => simp [intOf]; omega
    · have hd := rep_done hrep.out (by omega)
      have HD := hid hd
      clear hd
      go_wp2
      go_ret
      exact OwnP_mk HB.out rfl (by rw [← HD.out]; exact hown) hbel

theorem ownBlock_any (a : Option Addr) (n m c d : Nat) : (Value.slice a n c).ownBlock = (Value.slice a m d).ownBlock := by cases a <;> rfl
def TrimP (M : List Int) (B : Nat) (b : Option Nat) (w : World) (e : Ending) (w' : World) : Prop := (∃ v, e = .returned v ∧ Ints w B v M ∧ (v.ownBlock = b ∨ v.ownBlock = none)) ∧ w = w'
theorem TrimP_mk {M M' : List Int} {B : Nat} {b : Option Nat} {w : World} {e : Ending} {v : Value} (he : e = .returned v) (h : Ints w B v M') (hM : M' = M) (hb : v.ownBlock = b ∨ v.ownBlock = none) : TrimP M B b w e w := by
  subst hM; exact ⟨⟨v, he, h, hb⟩, rfl⟩

set_option maxRecDepth 100000 in
set_option maxHeartbeats 800000 in
theorem l02Trim_own (B : Nat) (v : Value) (L : List Int) (hL : L.length ≤ 1073741824) (hl : Lim L) (w : World) (hw : Ints w B v L) :
    Calls Try.prog 95 #[v] w (TrimP (rep (val L).toNat) B v.ownBlock w) := by
  have HW := hid hw
  obtain ⟨a, c, rfl, hc, hrow, -⟩ := Ints_form hw
  have G1 := hid hrow.2
  have HL := hid hl
  clear hw hrow hl
  obtain ⟨b, hb⟩ : ∃ b, b = (Value.slice a L.length c).ownBlock := ⟨_, rfl⟩
  have HB := hid hb
  rw [← hb]
  clear hb
  go_enter Try.func95, Try.ntmps95
  go_wp2
  go_loop [3] (fun x => ∃ (k : Nat), k ≤ L.length ∧ x = .int .i64 k ∧ Hid (val (L.take k) = val L)) (fun x => (intOf x).toNat)
  case atStart => exact ⟨L.length, Nat.le_refl _, rfl, hid (by rw [List.take_length])⟩
  case round =>
    obtain ⟨k, hk, rfl, hv⟩ := hrel
    cases k with
    | zero =>
      have hT := hid (trim_end HL.out hk hv.out (fun k hk e => by cases e))
      have HW2 := hid (Ints_take HW.out hk)
      have h0c : 0 ≤ c := by omega
      go_wp2
      go_ret
      exact TrimP_mk rfl HW2.out hT.out (by rw [HB.out]; exact .inl (ownBlock_any _ _ _ _ _))
    | succ k =>
      obtain ⟨g1, o1, rfl, -, hc1⟩ := G1.out (by omega)
      clear G1
      have hlt : k < L.length := by omega
      have q1 := hc1 k hlt
      clear hc1
      have a1 : (0 : Int) < (k + 1 : Nat) := by omega
      have e1 : ((k + 1 : Nat) : Int) - 1 = k := by omega
      have e2 : ((k : Int) + 1).toNat = k + 1 := by omega
      have a2 : (0 : Int) ≤ k := by omega
      have a3 : (k : Int) < L.length := by omega
      have a4 : (k : Int) + 1 ≤ c := by omega
      by_cases hz : L[k] = 0
      · have hn := hid ((trim_step hlt hz).trans hv.out)
        go_wp2
        go_round
        case rel => exact ⟨k, by omega, by go_num, hn⟩
        case measure => simp [intOf]
      · have hT := hid (trim_end HL.out hk hv.out (fun j hj e => by obtain rfl : k = j := by omega
                                                                    exact hz))
        have HW2 := hid (Ints_take HW.out hk)
        go_wp2
        go_ret
        exact TrimP_mk rfl HW2.out hT.out (by rw [HB.out]; exact .inl (ownBlock_any _ _ _ _ _))

set_option maxRecDepth 100000 in
set_option maxHeartbeats 800000 in
theorem l02Cap_own (B : Nat) (v : Value) (L : List Int) (hL : L.length ≤ 1073741824) (hl : Lim L) (w : World) (hw : Ints w B v L) :
    Calls Try.prog 92 #[v] w (TrimP (capped (val L)) B v.ownBlock w) := by
  have K := hid (l02Trim_own B v L hL hl w hw)
  have H0 := hid (val_nonneg hl)
  obtain ⟨a, c, rfl, hc, hrow, -⟩ := Ints_form hw
  clear hw hrow hl
  obtain ⟨b, hb⟩ : ∃ b, b = (Value.slice a L.length c).ownBlock := ⟨_, rfl⟩
  have HB := hid hb
  rw [← hb] at K
  rw [← hb]
  clear hb
  go_enter Try.func92, Try.ntmps92
  go_wp2_with fail
  refine K.out.mono ?_
  rintro e w1 ⟨⟨v', rfl, hi, hbl⟩, rfl⟩
  have HI := hid hi
  have HBL := hid hbl
  obtain ⟨a', c', rfl, hc', -, -⟩ := Ints_form hi
  clear hi hbl
  by_cases h6 : 60 < (rep (val L).toNat).length
  · have hC := hid (capped_no h6 H0.out)
    have h6' : (60 : Int) < (rep (val L).toNat).length := by omega
    go_wp2
    go_ret
    exact TrimP_mk rfl (Ints_nil _ _) hC.out.symm (.inr rfl)
  · have hC := hid (capped_yes (by omega) H0.out)
    have h6' : ¬ (60 : Int) < (rep (val L).toNat).length := by omega
    go_wp2
    go_ret
    exact TrimP_mk rfl HI.out hC.out.symm HBL.out

def cmpC (A B : List Int) : Int := if nok A && nok B then cmpL A B else 0
theorem cmpC_no {A B : List Int} (h : nok A = false ∨ nok B = false) : cmpC A B = 0 := by
  unfold cmpC
  rcases h with h | h <;> simp [h]
theorem cmpC_yes {A B : List Int} (h : nok A = true) (h' : nok B = true) : cmpC A B = cmpL A B := by simp [cmpC, h, h']

end Go.Proofs.Ytdffmeinofgdgaa
