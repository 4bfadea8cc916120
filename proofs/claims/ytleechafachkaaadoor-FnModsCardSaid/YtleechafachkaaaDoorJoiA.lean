/- The functions that the law of Join calls: the size of a slice of strings, its copy, the reference's Join, the program's Join. -/
import Derived.Test.YtleechafachkaaaDoorJoi
import Derived.Test.YtleechafachkaaaDoorPad
import Derived.Test.YtleechafachkaaaDoorSplA
import Derived.OwnWalk
namespace Go.Proofs.YtleechafachkaaaDoor
open Go.RowKit
open Go.Lib (hid)

def SzPost (L : List ByteArray) (w : World) (e : Ending) (w' : World) : Prop := ∃ r : Int, e = .returned (.int .i64 r) ∧ (0 ≤ r → sumSz L ≤ 1048576 ∧ L.length ≤ 1048576) ∧ w = w'


theorem made_list (n : Nat) : (madeCells (Value.string ByteArray.empty).cells (n * 1)).toList = (List.replicate n (ByteArray.mk #[])).map Value.string := by
  rw [Nat.mul_one]
  show (madeCells #[Value.string ByteArray.empty] n).toList = _
  rw [toList_madeCells_one, List.map_replicate]
  rfl



set_option maxHeartbeats 800000 in
theorem impl_Join (g c : Nat) (L : List ByteArray) (sep : ByteArray) (w : World) (hc : ∀ i (h : i < L.length), w.cell? ⟨g, i, none⟩ = some (.string L[i])) (hg : g < w.heap.size) (hcap : L.length ≤ c) (hn : L.length ≤ 1048576) (hs : sumSz L ≤ 1048576) (hsep : sep.size ≤ 1048576) :
    Calls Tryd.prog 61 #[.slice (some ⟨g, 0, none⟩) L.length c, .string sep] w fun e w' => e = .returned (.string (joinK L sep L.length)) ∧ Below w.heap.size w w' := by
  have K := hid (joinParts_any g c L sep w (fun j x hj => by
    obtain ⟨hlt, rfl⟩ := List.getElem?_eq_some_iff.1 hj
    rw [Nat.zero_add]; exact hc j hlt) hg hcap (by omega) (by
    have h1 := joinL_len L sep
    have h3 : L.length * sep.size ≤ 1048576 * 1048576 := Nat.mul_le_mul hn hsep
    omega))
  have HJ := hid (joinK_all L sep)
  clear hc
  go_enter Tryd.func61, Tryd.ntmps61
  go_wp2_with fail
  refine K.out.mono ?_
  rintro e w1 ⟨rfl, hb⟩
  go_wp2_with fail
  go_ret
  rw [HJ.out]
  exact ⟨rfl, hb⟩

end Go.Proofs.YtleechafachkaaaDoor
