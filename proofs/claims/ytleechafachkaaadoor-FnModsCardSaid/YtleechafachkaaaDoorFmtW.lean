/- FormatInt of the program returns the decimal numeral, as the reference's does: the law's walk. -/
import Derived.Test.YtleechafachkaaaDoorFmt
import Derived.Test.YtleechafachkaaaDoorShelf
import Derived.WalkSmall
namespace Go.Proofs.YtleechafachkaaaDoor
open Go.RowKit
open Go.Lib (hid)

def Pow10 (w : World) : Prop := Lib.TabIs Tryd.prog w "internal/strconv.uint64pow10" .u64 Lib.pow10Tab
theorem gPow : Tryd.prog.globalNamed "internal/strconv.uint64pow10" = some 4 := by kernel_rfl

theorem below_grow (w : World) (k : Nat) (os : Array Obj) : Below w.heap.size w (Go.Sort.grow (w.drewN k) os) :=
  ⟨rfl, rfl, rfl, by simp [Go.Sort.grow, World.drewN], fun i hi => by
    show (w.heap ++ os)[i]? = _
    rw [Array.getElem?_append_left hi]⟩

theorem spec_FormatInt (n : Int) (h0 : -9223372036854775808 ≤ n) (h1 : n ≤ 9223372036854775807) (w : World) :
    Calls Tryd.prog 70 #[.int .i64 n] w fun e w' => e = .returned (.string (bts (Lib.itoa n))) ∧ Below w.heap.size w w' := by
  by_cases hn : n < 0
  · have h := spec_FormatInt_neg n.natAbs n w hn h0 (Nat.le_refl _)
    rw [Lib.itoa, if_pos hn]; exact h
  · have h := spec_FormatInt_pos n.toNat (by omega) w
    rw [Lib.itoa, if_neg hn]
    rw [Int.toNat_of_nonneg (by omega)] at h
    exact h

set_option maxRecDepth 100000 in
theorem impl_FormatInt (n : Int) (h0 : -9223372036854775808 ≤ n) (h1 : n ≤ 9223372036854775807) (w : World) (ht : Pow10 w) :
    Calls Tryd.prog 59 #[.int .i64 n] w fun e w' => e = .returned (.string (bts (Lib.itoa n))) ∧ Below w.heap.size w w' := by
  have K := hid (Tryd.strconv_Itoa n h0 h1 w ht)
  clear ht h0 h1
  go_enter Tryd.func59, Tryd.ntmps59
  go_wp2_with fail
  refine K.out.mono ?_
  rintro e w1 ⟨rfl, k, os, rfl⟩
  have hb := below_grow w k os
  generalize Go.Sort.grow (w.drewN k) os = w1 at hb ⊢
  go_wp2_with fail
  go_ret
  exact ⟨rfl, hb⟩

end Go.Proofs.YtleechafachkaaaDoor
