/- The helpers of the exact laws: a mark's text is a function of its number. -/
import Derived.Test.YthkhnifgkcgkmaaProg
import Derived.Test.YthkhnifgkcgkmaaCut
import Derived.Laws.IdiomStrings
import Derived.Maps.AppendAt
namespace Go.Proofs.Ythkhnifgkcgkmaa
open Go.RowKit
open Go.Lib (hid)

def mkF : Nat → Int → ByteArray → ByteArray
  | 0, _, acc => acc
  | f + 1, m, acc => if 0 < m then mkF f (m / 10) (ByteArray.mk [UInt8.ofNat (48 + m % 10).toNat].toArray ++ acc) else acc
/-- The text of the mark of number n (positive). -/
def mkT (n : Int) : ByteArray := ByteArray.mk #[109] ++ mkF n.toNat n (ByteArray.mk #[])
theorem mkF_zero (f : Nat) (acc : ByteArray) : mkF f 0 acc = acc := by cases f <;> rfl
theorem mkF_step {f : Nat} {m : Int} {acc T : ByteArray} (h : mkF f m acc = T) (hf : m.toNat ≤ f) (hm : 0 < m) : ∃ g, (m / 10).toNat ≤ g ∧ mkF g (m / 10) (ByteArray.mk [UInt8.ofNat (48 + m % 10).toNat].toArray ++ acc) = T := by
  cases f with
  | zero => omega
  | succ g =>
    refine ⟨g, by omega, ?_⟩
    rw [← h]; simp [mkF, hm]

theorem conv1 (w : World) (z : Int) (h0 : 0 ≤ z) (h1 : z < 256) : (convert 39 9 (.slice (some ⟨w.heap.size, 0, none⟩) 1 1)).run Try.prog (w.alloc (.cells #[.int .u8 z] 5)) = .ok (.string ⟨[UInt8.ofNat z.toNat].toArray⟩) (w.alloc (.cells #[.int .u8 z] 5)) := by
  have e : (UInt8.ofNat z.toNat).toNat = z.toNat := by simp; omega
  refine run_convert_bytes_back (P := Try.prog) (w.alloc (.cells #[.int .u8 z] 5)) 39 9 5 ⟨w.heap.size, 0, none⟩ 1 [UInt8.ofNat z.toNat] Try.underlying39 Try.underlying5 Try.underlying9 (fun j hj => ?_)
  obtain rfl : j = 0 := by simp at hj; omega
  rw [cell_one_new w (.int .u8 z) 5 0 (.int .u8 z) rfl]
  simp only [List.getElem_cons_zero, e]
  rw [Int.toNat_of_nonneg h0]

theorem ret_str {a b : ByteArray} (h : a = b) : Ending.returned (.string a) = .returned (.string b) := by rw [h]

set_option maxHeartbeats 800000 in
theorem markText_any (n : Int) (h1 : 0 < n) (h2 : n ≤ 1073741824) (w : World) :
    Calls Try.prog 29 #[.int .i64 n] w fun e w' => e = .returned (.string (mkT n)) ∧ Below w.heap.size w w' := by
  have h0 : decide (n ≤ 0) = false := decide_eq_false (by omega)
  go_enter Try.func29, Try.ntmps29
  go_wp2
  go_loopw [0, 3] (fun i x wr => ∃ (m : Int) (acc : ByteArray) (f : Nat), 0 ≤ m ∧ m ≤ n ∧ i = .int .i64 m ∧ x = .string acc ∧ acc.size + m.toNat ≤ n.toNat ∧ m.toNat ≤ f ∧ Hid (mkF f m acc = mkF n.toNat n (ByteArray.mk #[])) ∧ Below w.heap.size w wr) (fun i _ _ => (intOf i).toNat)
  case atStart => exact ⟨n, _, n.toNat, by omega, by omega, rfl, rfl, by show 0 + n.toNat ≤ _; omega, by omega, hid rfl, Below.refl _ _⟩
  case round =>
    obtain ⟨m, acc, f, hm, hm2, rfl, rfl, hz, hf, hmk, hbel⟩ := hrel
    by_cases hc : 0 < m
    · have hcv := conv1 wr (48 + m % 10) (by omega) (by omega)
      have HS := hid (mkF_step hmk.out hf hc)
      have hbs := hbel.size
      go_wp2
      go_roundw
      case rel =>
        obtain ⟨g, hg, hG⟩ := HS.out
        exact ⟨m / 10, _, g, by omega, by omega, rfl, rfl, by rw [ByteArray.size_append']; show 1 + acc.size + _ ≤ _; omega, hg, hid hG, hbel.alloc hbs _⟩
      case measure => simp [intOf]; omega
    · obtain rfl : m = 0 := by omega
      go_wp2
      go_ret
      have hT := hmk.out
      rw [mkF_zero] at hT
      exact ⟨ret_str (by rw [hT]; rfl), hbel⟩
end Go.Proofs.Ythkhnifgkcgkmaa
