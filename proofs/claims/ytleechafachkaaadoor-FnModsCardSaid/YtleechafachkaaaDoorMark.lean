/- The helpers of the exact laws: a mark's text is a function of its number. -/
import Derived.Test.YtleechafachkaaaDoorProg
import Derived.Test.YtleechafachkaaaDoorCut
import Derived.Laws.IdiomStrings
import Derived.Maps.AppendAt
namespace Go.Proofs.YtleechafachkaaaDoor
open Go.RowKit
open Go.Lib (hid)

def mkF : Nat → Int → ByteArray → ByteArray
  | 0, _, acc => acc
  | f + 1, m, acc => if 0 < m then mkF f (m / 10) (ByteArray.mk [UInt8.ofNat (48 + m % 10).toNat].toArray ++ acc) else acc
/-- The text of the mark of number n (positive). -/
def mkT (n : Int) : ByteArray := ByteArray.mk #[109] ++ mkF n.toNat n (ByteArray.mk #[])
theorem mkF_zero (f : Nat) (acc : ByteArray) : mkF f 0 acc = acc := by cases f <;> rfl
theorem mkF_step {f : Nat} {m : Int} {acc T : ByteArray} (h : mkF f m acc = T) (hf : m.toNat ≤ f) (hm : 0 < m) : ∃ g, (m / 10).toNat ≤ g ∧ mkF g (m / 10) (ByteArray.mk [UInt8.ofNat (48 + m % 10).toNat].toArray ++ acc) = T := by
  cases f with
  | zero => omega
  | succ g =>
    refine ⟨g, by omega, ?_⟩
    rw [← h]; simp [mkF, hm]

theorem conv1 (w : World) (z : Int) (h0 : 0 ≤ z) (h1 : z < 256) : (convert 22 9 (.slice (some ⟨w.heap.size, 0, none⟩) 1 1)).run Tryd.prog (w.alloc (.cells #[.int .u8 z] 5)) = .ok (.string ⟨[UInt8.ofNat z.toNat].toArray⟩) (w.alloc (.cells #[.int .u8 z] 5)) := by
  have e : (UInt8.ofNat z.toNat).toNat = z.toNat := by simp; omega
  refine run_convert_bytes_back (P := Tryd.prog) (w.alloc (.cells #[.int .u8 z] 5)) 22 9 5 ⟨w.heap.size, 0, none⟩ 1 [UInt8.ofNat z.toNat] Tryd.underlying22 Tryd.underlying5 Tryd.underlying9 (fun j hj => ?_)
  obtain rfl : j = 0 := by simp at hj; omega
  rw [cell_one_new w (.int .u8 z) 5 0 (.int .u8 z) rfl]
  simp only [List.getElem_cons_zero, e]
  rw [Int.toNat_of_nonneg h0]

theorem ret_str {a b : ByteArray} (h : a = b) : Ending.returned (.string a) = .returned (.string b) := by rw [h]

end Go.Proofs.YtleechafachkaaaDoor
