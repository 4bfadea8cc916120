/- The law FnExactSplitAny, walked: it returns true and leaves what was there. -/
import Derived.Test.YthkhnifgkcgkmaaEq
import Derived.Test.YthkhnifgkcgkmaaSplB
namespace Go.Proofs.Ythkhnifgkcgkmaa
open Go.RowKit
open Go.Lib (hid)

theorem spec_SplitAny_own (s t : ByteArray) (hs : s.size ≤ 1048576) (ht : t.size ≤ 1048576) (w : World) : Calls Try.prog 13 #[.string s, .string t] w (OwnPost (pieces s t) w) :=
  (spec_SplitAny s t hs ht w).mono fun _ _ h => OwnPost_of (by have := pieces_len s t; omega) h
theorem impl_SplitAny_own (s t : ByteArray) (hs : s.size ≤ 1048576) (ht : t.size ≤ 1048576) (w : World) : Calls Try.prog 14 #[.string s, .string t] w (OwnPost (pieces s t) w) :=
  (impl_SplitAny s t hs ht w).mono fun _ _ h => OwnPost_of (by have := pieces_len s t; omega) h

set_option maxHeartbeats 1600000 in
theorem law_SplitAny (s t : ByteArray) (w : World) :
    Calls Try.prog 5 #[.string s, .string t] w fun e w' => e = .returned (.bool true) ∧ Below w.heap.size w w' := by
  by_cases hs : 1048576 < (s.size : Int)
  · go_enter Try.func5, Try.ntmps5
    go_wp2
    go_ret
    exact ⟨rfl, Below.refl _ _⟩
  by_cases ht : 1048576 < (t.size : Int)
  · go_enter Try.func5, Try.ntmps5
    go_wp2
    go_ret
    exact ⟨rfl, Below.refl _ _⟩
  have hL : (pieces s t).length ≤ 1048577 := by have := pieces_len s t; omega
  obtain ⟨L, hLe⟩ : ∃ L, L = pieces s t := ⟨_, rfl⟩
  rw [← hLe] at hL
  have HL : Hid (L = pieces s t) := hLe
  clear hLe
  have cS := fun w => HL.out ▸ spec_SplitAny_own s t (by omega) (by omega) w
  have cI := fun w => HL.out ▸ impl_SplitAny_own s t (by omega) (by omega) w
  have KS := hid cS
  have KI := hid cI
  clear cS cI
  go_enter Try.func5, Try.ntmps5
  go_wp2_with fail
  refine (KS.out _).mono ?_
  rintro e w1 ⟨g1, c1, rfl, hg1, hz1, hS1, hb1⟩
  go_wp2_with fail
  refine (KI.out _).mono ?_
  rintro e w2 ⟨g2, c2, rfl, hg2, hz2, hS2, hb2⟩
  have hR1 := hid (Row_below hS1 hb2 hz1)
  have hR2 := hid (Row_of hS2)
  go_wp2_with fail
  refine (eqStringS_same _ _ _ _ _ _ L (by omega) _ hR2.out hR1.out).mono ?_
  rintro e w3 ⟨rfl, d3, rfl⟩
  have hS3 := Strs_drewN hS2 d3
  have hb3 := below_drewN (Below.refl w2.heap.size w2) d3
  have hz3 : g2 < (w2.drewN d3).heap.size := hz2
  have hs3 : w2.heap.size ≤ (w2.drewN d3).heap.size := Nat.le_refl _
  generalize w2.drewN d3 = w3 at hS3 hb3 hz3 hs3 ⊢
  go_wp2_with fail
  refine (markStringS_any w1.heap.size g2 c2 L (by omega) _ hS3 hg2 hz3).mono ?_
  rintro e w4 ⟨rfl, hS4, hb4⟩
  have hz4 : g2 < w4.heap.size := Nat.lt_of_lt_of_le hz3 hb4.size
  go_wp2_with fail
  refine (heldStringS_any w1.heap.size g2 c2 L.length (by omega) _ hS4 hz4).mono ?_
  rintro e w5 ⟨rfl, hb5⟩
  have hz5 : g2 < w5.heap.size := Nat.lt_of_lt_of_le hz4 hb5.size
  go_wp2_with fail
  refine (KI.out _).mono ?_
  rintro e w6 ⟨g6, c6, rfl, hg6, hz6, hS6, hb6⟩
  have b12 : Below w1.heap.size w1 w6 := (((hb2.trans (hb3.mono hb2.size)).trans hb4).trans (hb5.mono (by have := hb2.size; have := hb4.size; omega))).trans (hb6.mono (by have := hb2.size; have := hb4.size; have := hb5.size; omega))
  have hR1b := hid (Row_below hS1 b12 hz1)
  have hR6 := hid (Row_of hS6)
  have hS7 := Strs_keep (Strs_keep hS4 hb5 hz4) hb6 hz5
  have hz7 : g2 < w6.heap.size := Nat.lt_of_lt_of_le hz5 hb6.size
  go_wp2_with fail
  refine (eqStringS_same _ _ _ _ _ _ L (by omega) _ hR6.out hR1b.out).mono ?_
  rintro e w8 ⟨rfl, d8, rfl⟩
  go_wp2_with fail
  refine (heldStringS_any w1.heap.size g2 c2 L.length (by omega) _ (Strs_drewN hS7 d8) hz7).mono ?_
  rintro e w9 ⟨rfl, hb9⟩
  go_wp2_with fail
  go_ret
  exact ⟨rfl, ((hb1.trans (b12.mono hb1.size)).trans (below_drewN (Below.refl _ _) d8)).trans (hb9.mono (by have := hb1.size; have := b12.size; show w.heap.size ≤ w6.heap.size; omega))⟩
end Go.Proofs.Ythkhnifgkcgkmaa
