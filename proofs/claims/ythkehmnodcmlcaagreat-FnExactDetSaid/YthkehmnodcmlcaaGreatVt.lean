import Derived.Test.YthkehmnodcmlcaaGreatVs
import Derived.Deep.RegionHeld3
import Derived.Deep.DeepCutAuto
set_option maxRecDepth 100000
set_option maxHeartbeats 6400000
set_option linter.unusedVariables false
set_option linter.unusedSimpArgs false
namespace Go.Proofs.YthkehmnodcmlcaaGreat
open Go.RowKit
open Go.Lib (hid)
theorem elementwise_sub_w  {a : Option Addr} {n c : Nat} {b : Option Addr} {m d : Nat} {K L : List Fq} {lo hi lo' hi' : Nat} (hK : Sm K) (hL : Sm L) (w : World) (h : VW w a n K lo hi) (h' : VW w b m L lo' hi') :
  Calls Tryz.prog 192 #[.slice a n c, .slice b m d, .func (.func 68) #[] #[]] w (VecR true (vzip subF K L) w) := by
 have hmf : ∀ (fn : Fn) (first cap : Array Value) (w : World), (Instr.makeFunc fn first cap).run Tryz.prog w = .ok (.func fn first cap) w := fun _ _ _ _ => rfl
 have BW := hid (below_new' (w := w) (o := .cells #[.func (.func 68) #[] #[]] 67))
 have HBc := hid (show (w.alloc (.cells #[.func (.func 68) #[] #[]] 67)).cell? ⟨w.heap.size, 0, none⟩ = some (.func (.func 68) #[] #[]) by simp)
 have X := hid (h.old BW.out)
 have Y := hid (h'.old BW.out)
 have HS := hid (show (w.alloc (.cells #[.func (.func 68) #[] #[]] 67)).heap.size = w.heap.size + 1 by simp)
 clear h h'
 generalize hWW : w.alloc (.cells #[.func (.func 68) #[] #[]] 67) = W at BW HBc X Y HS
 have HWW := hid hWW
 clear hWW
 have KC := hid (combine_sub_w (c := c) (d := d) hK hL W X.out Y.out HBc.out (by rw [HS.out]; omega))
 obtain ⟨M, hM⟩ : ∃ M, M = (if K.length = L.length ∧ K.length ≤ 40 then (zw subF K L).map fqo else []) := ⟨_, rfl⟩
 rw [← hM] at KC
 have hSM := hid (show Sm M by
  rw [hM]
  split
  ·next hh => exact Sm.map (zw_fit fitO_sub K L) (by rw [zw_len hh.1]; omega)
  ·exact ⟨fun f hf => (by cases hf), Nat.zero_le _⟩)
 have hRes := hid (show (if oks (vals M) = true then M else []) = vzip subF K L by
  by_cases hne : K.length = L.length
  ·by_cases h40 : K.length ≤ 40
   ·have hM1 : M = (zw subF K L).map fqo := by rw [hM, if_pos ⟨hne, h40⟩]
    rw [hM1, oks_map (zw_fit fitO_sub K L)]
    unfold vzip
    rw [if_pos hne]
    rfl
   ·have hM1 : M = [] := by rw [hM, if_neg (by omega)]
    rw [hM1]
    unfold vzip
    rw [if_pos hne, zw_long hne h40]
    rfl
  ·have hM1 : M = [] := by rw [hM, if_neg (by omega)]
   rw [hM1]
   unfold vzip
   rw [if_neg hne]
   rfl)
 clear hM
 have hBWz := HS.out
 go_enter Tryz.func192, Tryz.ntmps192
 go_wp2_with fail
 rw [HWW.out]
 (with_reducible refine (KC.out).mono ?_)
 rintro e w2 ⟨a5, n5, c5, rfl, hv, hb⟩
 have hn5 := hv.num
 subst hn5
 have V5 := hid hv
 have HB := hid (BW.out.trans (hb.mono BW.out.size))
 have hz2 := hb.size
 clear hv hb
 have KO := hid (impl_VecOk hSM.out w2 V5.out)
 have hR := hRes.out
 cases hok : oks (vals M) with
 |true =>
  rw [hok, if_pos rfl] at hR
  have R := hid (show ∀ w3, Below w2.heap.size w2 w3 → VecR true (vzip subF K L) w (.returned (.slice a5 M.length c5)) w3 from fun w3 hb3 => ⟨_, _, _, rfl, by rw [← hR]; exact (V5.out.old hb3).wide BW.out.size hb3.size, HB.out.trans (hb3.mono HB.out.size)⟩)
  rw [hok] at KO
  clear hR hok
  go_wp2_with fail
  (with_reducible refine (KO.out).mono ?_)
  rintro e w3 ⟨rfl, hb3⟩
  have R3 := hid (R.out w3 hb3)
  clear hb3
  go_wp2
  go_ret
  exact R3.out
 |false =>
  rw [hok, if_neg (by decide)] at hR
  have R := hid (show ∀ w3, Below w2.heap.size w2 w3 → VecR true (vzip subF K L) w (.returned (.slice none 0 0)) w3 from fun w3 hb3 => ⟨_, _, _, rfl, by rw [← hR]; exact VK_nil _ _ _ _, HB.out.trans (hb3.mono HB.out.size)⟩)
  rw [hok] at KO
  clear hR hok
  go_wp2_with fail
  (with_reducible refine (KO.out).mono ?_)
  rintro e w3 ⟨rfl, hb3⟩
  have R3 := hid (R.out w3 hb3)
  clear hb3
  go_wp2
  go_ret
  exact R3.out
theorem elementwise_mul_w  {a : Option Addr} {n c : Nat} {b : Option Addr} {m d : Nat} {K L : List Fq} {lo hi lo' hi' : Nat} (hK : Sm K) (hL : Sm L) (w : World) (h : VW w a n K lo hi) (h' : VW w b m L lo' hi') :
  Calls Tryz.prog 192 #[.slice a n c, .slice b m d, .func (.func 85) #[] #[]] w (VecR true (vzip mulF K L) w) := by
 have hmf : ∀ (fn : Fn) (first cap : Array Value) (w : World), (Instr.makeFunc fn first cap).run Tryz.prog w = .ok (.func fn first cap) w := fun _ _ _ _ => rfl
 have BW := hid (below_new' (w := w) (o := .cells #[.func (.func 85) #[] #[]] 67))
 have HBc := hid (show (w.alloc (.cells #[.func (.func 85) #[] #[]] 67)).cell? ⟨w.heap.size, 0, none⟩ = some (.func (.func 85) #[] #[]) by simp)
 have X := hid (h.old BW.out)
 have Y := hid (h'.old BW.out)
 have HS := hid (show (w.alloc (.cells #[.func (.func 85) #[] #[]] 67)).heap.size = w.heap.size + 1 by simp)
 clear h h'
 generalize hWW : w.alloc (.cells #[.func (.func 85) #[] #[]] 67) = W at BW HBc X Y HS
 have HWW := hid hWW
 clear hWW
 have KC := hid (combine_mul_w (c := c) (d := d) hK hL W X.out Y.out HBc.out (by rw [HS.out]; omega))
 obtain ⟨M, hM⟩ : ∃ M, M = (if K.length = L.length ∧ K.length ≤ 40 then (zw mulF K L).map fqo else []) := ⟨_, rfl⟩
 rw [← hM] at KC
 have hSM := hid (show Sm M by
  rw [hM]
  split
  ·next hh => exact Sm.map (zw_fit fitO_mul K L) (by rw [zw_len hh.1]; omega)
  ·exact ⟨fun f hf => (by cases hf), Nat.zero_le _⟩)
 have hRes := hid (show (if oks (vals M) = true then M else []) = vzip mulF K L by
  by_cases hne : K.length = L.length
  ·by_cases h40 : K.length ≤ 40
   ·have hM1 : M = (zw mulF K L).map fqo := by rw [hM, if_pos ⟨hne, h40⟩]
    rw [hM1, oks_map (zw_fit fitO_mul K L)]
    unfold vzip
    rw [if_pos hne]
    rfl
   ·have hM1 : M = [] := by rw [hM, if_neg (by omega)]
    rw [hM1]
    unfold vzip
    rw [if_pos hne, zw_long hne h40]
    rfl
  ·have hM1 : M = [] := by rw [hM, if_neg (by omega)]
   rw [hM1]
   unfold vzip
   rw [if_neg hne]
   rfl)
 clear hM
 have hBWz := HS.out
 go_enter Tryz.func192, Tryz.ntmps192
 go_wp2_with fail
 rw [HWW.out]
 (with_reducible refine (KC.out).mono ?_)
 rintro e w2 ⟨a5, n5, c5, rfl, hv, hb⟩
 have hn5 := hv.num
 subst hn5
 have V5 := hid hv
 have HB := hid (BW.out.trans (hb.mono BW.out.size))
 have hz2 := hb.size
 clear hv hb
 have KO := hid (impl_VecOk hSM.out w2 V5.out)
 have hR := hRes.out
 cases hok : oks (vals M) with
 |true =>
  rw [hok, if_pos rfl] at hR
  have R := hid (show ∀ w3, Below w2.heap.size w2 w3 → VecR true (vzip mulF K L) w (.returned (.slice a5 M.length c5)) w3 from fun w3 hb3 => ⟨_, _, _, rfl, by rw [← hR]; exact (V5.out.old hb3).wide BW.out.size hb3.size, HB.out.trans (hb3.mono HB.out.size)⟩)
  rw [hok] at KO
  clear hR hok
  go_wp2_with fail
  (with_reducible refine (KO.out).mono ?_)
  rintro e w3 ⟨rfl, hb3⟩
  have R3 := hid (R.out w3 hb3)
  clear hb3
  go_wp2
  go_ret
  exact R3.out
 |false =>
  rw [hok, if_neg (by decide)] at hR
  have R := hid (show ∀ w3, Below w2.heap.size w2 w3 → VecR true (vzip mulF K L) w (.returned (.slice none 0 0)) w3 from fun w3 hb3 => ⟨_, _, _, rfl, by rw [← hR]; exact VK_nil _ _ _ _, HB.out.trans (hb3.mono HB.out.size)⟩)
  rw [hok] at KO
  clear hR hok
  go_wp2_with fail
  (with_reducible refine (KO.out).mono ?_)
  rintro e w3 ⟨rfl, hb3⟩
  have R3 := hid (R.out w3 hb3)
  clear hb3
  go_wp2
  go_ret
  exact R3.out
end Go.Proofs.YthkehmnodcmlcaaGreat
