import Derived.Test.YthkehmnodcmlcaaGreatXw
import Derived.Deep.RegionHeld3
import Derived.Deep.DeepCutAuto
set_option maxRecDepth 100000
set_option maxHeartbeats 6400000
set_option linter.unusedVariables false
set_option linter.unusedSimpArgs false
namespace Go.Proofs.YthkehmnodcmlcaaGreat
open Go.RowKit
open Go.Lib (hid)
theorem addr_in {g o g' o' : Nat} (h : some (⟨g, o, none⟩ : Addr) = some ⟨g', o', none⟩) : g = g' ∧ o = o' := by
 simpa only [Option.some.injEq, Addr.mk.injEq, and_true] using h
theorem impl_MatOk {a : Option Addr} {n c : Nat} {M : List (List Fq)} {lo hi : Nat} (hM : Sm2 M) (w : World) (h : MW w a n M lo hi) :
  Calls Tryz.prog 110 #[.slice a n c] w (RetB (.bool (matOk M)) w) := by
 have HV := hid h
 obtain rfl := h.num
 clear h
 have hkl := hM.2
 by_cases hL : 40 < M.length
 ·rw [matOk_long hL]
  go_enter Tryz.func110, Tryz.ntmps110
  go_wp2
  go_ret
  exact ⟨rfl, Below.refl _ _⟩
 obtain ⟨B0, hB0⟩ : ∃ B, B = matOk M := ⟨_, rfl⟩
 rw [← hB0]
 have HB0 := hid hB0
 clear hB0
 go_enter Tryz.func110, Tryz.ntmps110
 go_wp2
 go_loopw [10] (fun i wr => ∃ k : Nat, k ≤ M.length ∧ i = .int .i64 k ∧ Hid (∀ j (h : j < M.length), j < k → M[j].length = matW M ∧ oks (vals M[j]) = true) ∧ Below w.heap.size w wr) (fun i _ => M.length - (intOf i).toNat)
 case atStart => exact ⟨0, Nat.zero_le _, rfl, hid (fun j h hj => absurd hj (by omega)), Below.refl _ _⟩
 case round =>
  obtain ⟨k, hk, rfl, hA, hbel⟩ := hrel
  by_cases hlt : k < M.length
  ·obtain ⟨g, o, b, d, rfl, hg, q0, V⟩ := (HV.out.old hbel).at hlt
   obtain ⟨g', o', b', d', e, -, q1, -⟩ := (HV.out.old hbel).at (k := 0) (by omega)
   obtain ⟨rfl, rfl⟩ := addr_in e
   rw [Nat.add_zero, ← matW_at (by omega)] at q1
   have hSK := hM.at hlt
   obtain ⟨K, hKK⟩ : ∃ K, M[k]'(hlt) = K := ⟨_, rfl⟩
   rw [hKK] at q0 V hSK
   have HK := hid hKK
   obtain ⟨W, hW⟩ : ∃ W, matW M = W := ⟨_, rfl⟩
   rw [hW] at q1
   have HW := hid hW
   have KO := hid (impl_VecOk_w (c := d) hSK wr V)
   have HB := hid hbel
   have a1' : (0 : Int) ≤ k := by omega
   have a2 : (k : Int) < M.length := by omega
   have a3 : (0 : Int) < M.length := by omega
   clear hbel hKK hW V e
   by_cases hLK : K.length = W
   ·have HLK := hid (show (M[k]'(hlt)).length = matW M by rw [HK.out, HW.out, hLK])
    subst hLK
    obtain ⟨ob, hob⟩ : ∃ ob, oks (vals K) = ob := ⟨_, rfl⟩
    have HOB := hid (show oks (vals (M[k]'(hlt))) = ob by rw [HK.out, hob])
    rw [hob] at KO
    clear hob
    cases ob with
    |false =>
     go_wp2_with fail
     (with_reducible refine (KO.out).mono ?_)
     rintro e w2 ⟨rfl, hb⟩
     have HB := hid (HB.out.trans (hb.mono HB.out.size))
     clear hb q0 q1
     go_wp2
     go_ret
     exact ⟨bool_ret (by rw [HB0.out, matOk_no hlt HOB.out]), HB.out⟩
    |true =>
     go_wp2_with fail
     (with_reducible refine (KO.out).mono ?_)
     rintro e w2 ⟨rfl, hb⟩
     have HB := hid (HB.out.trans (hb.mono HB.out.size))
     clear hb q0 q1
     go_wp2
     go_roundw
     case rel => exact ⟨k + 1, by omega, by go_num, hid (fun j h hj => by
      rcases Nat.lt_or_eq_of_le (Nat.le_of_lt_succ hj) with hj' | rfl
      ·exact hA.out j h hj'
      ·exact ⟨HLK.out, HOB.out⟩), HB.out⟩
     case measure => simp [intOf]; omega
   ·obtain ⟨e1, e2⟩ := ne_facts hLK
    have HLK := hid (show (M[k]'(hlt)).length ≠ matW M by rw [HK.out, HW.out]; exact hLK)
    clear hLK
    go_wp2
    go_ret
    exact ⟨bool_ret (by rw [HB0.out, matOk_len hlt HLK.out]), HB.out⟩
  ·have HB := hid hbel
   clear hbel
   go_wp2
   go_ret
   exact ⟨bool_ret (by rw [HB0.out, matOk_yes (by omega) (fun j h => hA.out j h (by omega))]), HB.out⟩
theorem impl_matWidth {a : Option Addr} {n c : Nat} {M : List (List Fq)} {lo hi : Nat} (hM : Sm2 M) (w : World) (h : MW w a n M lo hi) :
  Calls Tryz.prog 111 #[.slice a n c] w (fun e w' => e = .returned (.int .i64 (matW M)) ∧ w = w') := by
 have HV := hid h
 obtain rfl := h.num
 clear h
 have hkl := hM.2
 by_cases h0 : M.length = 0
 ·rw [matW_nil h0, h0]
  go_enter Tryz.func111, Tryz.ntmps111
  go_wp2
  go_ret
  exact ⟨rfl, rfl⟩
 ·obtain ⟨g, o, b, d, rfl, hg, q0, -⟩ := HV.out.at (k := 0) (by omega)
  rw [Nat.add_zero, ← matW_at (by omega)] at q0
  obtain ⟨W, hW⟩ : ∃ W, matW M = W := ⟨_, rfl⟩
  rw [hW] at q0 ⊢
  have e0 : ((M.length : Int) == 0) = false := beq_eq_false_iff_ne.2 (by omega)
  have a3 : (0 : Int) < M.length := by omega
  clear hW h0
  go_enter Tryz.func111, Tryz.ntmps111
  go_wp2
  go_ret
  exact ⟨rfl, rfl⟩
end Go.Proofs.YthkehmnodcmlcaaGreat
