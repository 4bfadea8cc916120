/- The words that the law FnWords makes, splits and joins. No program text. -/
import Derived.Test.YthkhnifgkcgkmaaDoorNam
import Derived.Test.YthkhnifgkcgkmaaDoorLin
import Derived.Test.YthkhnifgkcgkmaaDoorJoiA
import Derived.Test.YthkhnifgkcgkmaaDoorNum
namespace Go.Proofs.YthkhnifgkcgkmaaDoor
open Go.RowKit
open Go.Lib (hid)

def wordK (k : Nat) : ByteArray := bts (List.replicate k 48 ++ [dig1 (48 + (k : Int))])
def wordsTo : Nat → ByteArray
  | 0 => ByteArray.mk #[]
  | k + 1 => (wordsTo k ++ wordK k) ++ ByteArray.mk #[44]
theorem word_is {k : Nat} (h : k < 10) : padded (bts (Lib.itoa k)) ((k : Int) + 1) = wordK k := by
  have e : Lib.itoa (k : Int) = [dig1 (48 + (k : Int))] := by
    rw [Lib.itoa, if_neg (by omega)]
    exact dec_small (by omega)
  have hz : (bts [dig1 (48 + (k : Int))]).size = 1 := rfl
  rw [e]
  by_cases h0 : k = 0
  · subst h0
    rw [padded_no (.inl (by rw [hz]; omega))]
    rfl
  · rw [padded_yes (by rw [hz]; omega) (by omega), padK_is, hz, show ((k : Int) + 1).toNat - 1 = k by omega]
    rfl
theorem wordK_size (k : Nat) : (wordK k).size = k + 1 := by
  show (List.replicate k 48 ++ [dig1 (48 + (k : Int))]).length = _
  simp
theorem wordsTo_size : ∀ k, k ≤ 5 → (wordsTo k).size ≤ 20
  | 0, _ => by decide
  | 1, _ => by decide
  | 2, _ => by decide
  | 3, _ => by decide
  | 4, _ => by decide
  | 5, _ => by decide
  | k + 6, h => by omega

/-- What the law asks of the words, for one count of them. -/
def Words (k : Nat) (S : ByteArray) (L : List ByteArray) : Prop :=
  S = wordsTo k ∧ L = pieces S (ByteArray.mk #[44]) ∧ L.length = k + 1 ∧ joinK L (ByteArray.mk #[44]) L.length = S ∧ sumSz L ≤ 1048576 ∧ digs (L.getD 0 (ByteArray.mk #[])) = true
theorem words_at : ∀ k, 1 ≤ k → k ≤ 5 → Words k (wordsTo k) (pieces (wordsTo k) (ByteArray.mk #[44]))
  | 0, h, _ => by omega
  | 1, _, _ => ⟨rfl, rfl, by decide +kernel, by decide +kernel, by decide +kernel, by decide +kernel⟩
  | 2, _, _ => ⟨rfl, rfl, by decide +kernel, by decide +kernel, by decide +kernel, by decide +kernel⟩
  | 3, _, _ => ⟨rfl, rfl, by decide +kernel, by decide +kernel, by decide +kernel, by decide +kernel⟩
  | 4, _, _ => ⟨rfl, rfl, by decide +kernel, by decide +kernel, by decide +kernel, by decide +kernel⟩
  | 5, _, _ => ⟨rfl, rfl, by decide +kernel, by decide +kernel, by decide +kernel, by decide +kernel⟩
  | k + 6, _, h => by omega
theorem no_digits : digs (ByteArray.mk #[]) = false := by decide +kernel
theorem name_x1 : namB (ByteArray.mk #[120, 49]) = true := by decide +kernel
theorem name_1x : namB (ByteArray.mk #[49, 120]) = false := by decide +kernel
theorem two_lines : (linesOf (ByteArray.mk #[97, 10, 98, 10])).length = 2 := by decide +kernel
end Go.Proofs.YthkhnifgkcgkmaaDoor
