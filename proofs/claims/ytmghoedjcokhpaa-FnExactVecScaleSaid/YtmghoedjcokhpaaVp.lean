/- slices.Repeat of one struct. -/
import Derived.Test.YtmghoedjcokhpaaVa
import Derived.Test.YtmghoedjcokhpaaShelf
import Derived.Laws.CopyOwn
import Derived.Deep.RegionLaw
namespace Go.Proofs.Ytmghoedjcokhpaa
open Go.RowKit
open Go.Lib (hid)
set_option linter.unusedVariables false

section
variable {P : Program}
theorem run_copy_rowk (w : World) (dT sT ty elem : TypeId) (g o dLen dCap : Nat) (a : Addr) (sLen sCap : Nat) (cur : Array Value) (t : TypeId) (cs : List Value) (size m : Nat)
    (hu : P.underlying dT = some (.slice elem)) (hs : (P.info? elem).map (·.size) = some size)
    (hg : w.heap[g]? = some (.cells cur t (0, 0))) (hm : Nat.min sLen dLen = m) (hn : cs.length = m * size)
    (hsrc : ∀ j v, cs[j]? = some v → w.cell? (a.add j) = some v) (hfit : o + cs.length ≤ cur.size) (h1 : ∀ v ∈ cs, v.oneCell' = true) :
    (Builtin.copy_ #[dT, sT] ty #[.slice (some ⟨g, o, none⟩) dLen dCap, .slice (some a) sLen sCap]).run P w =
      .ok (goInt m) (w.setRow g (cur.toList.take o ++ cs ++ cur.toList.drop (o + cs.length)).toArray) := by
  have hl := run_loadCells_list (P := P) w a cs hsrc
  have hst := run_storeCells_at P g o t cs 0 cur w hg (by simpa using hfit) h1
  cases hq : P.info? elem with
  | none => simp [hq] at hs
  | some i =>
    have hi : i.size = size := by simpa [hq] using hs
    rw [hn] at hl
    simp [Builtin.copy_, run_underlying hu, Builtin.lenOf, Builtin.firstCells, sizeOf, typeInfo, hq, hi, hm, hl, hst]
theorem wp_copyk {w : World} {o : Oper} {a : Act} {K : Act → World → Prop} {Q : Exit → Act → World → Prop} (d s : Operand) (dT sT : TypeId)
    (ho : o.op = .call { callee := .builtin .copy, args := #[d, s], argTypes := #[dT, sT] }) (elem : TypeId) (g off dLen dCap : Nat) (ad : Addr) (sLen sCap : Nat) (hd : a.eval d = .slice (some ⟨g, off, none⟩) dLen dCap) (hs : a.eval s = .slice (some ad) sLen sCap) (cur : Array Value) (t : TypeId) (cs : List Value) (size m : Nat)
    (hu : P.underlying dT = some (.slice elem)) (hsz : (P.info? elem).map (·.size) = some size) (hg : w.heap[g]? = some (.cells cur t (0, 0))) (hm : Nat.min sLen dLen = m) (hn : cs.length = m * size)
    (hsrc : ∀ j v, cs[j]? = some v → w.cell? (ad.add j) = some v) (hfit : off + cs.length ≤ cur.size) (h1 : ∀ v ∈ cs, v.oneCell' = true)
    (h : ∀ w', w'.heap[g]? = some (.cells (cur.toList.take off ++ cs ++ cur.toList.drop (off + cs.length)).toArray t (0, 0)) → (∀ B w0, Below B w0 w → B ≤ g → Below B w0 w') → K (a.put o.dst (goInt m)) w') : o.wp P a w K Q := by
  have hr := run_copy_rowk (P := P) w dT sT o.type elem g off dLen dCap ad sLen sCap cur t cs size m hu hsz hg hm hn hsrc hfit h1
  unfold Oper.wp execOp
  simp only [ho, resolve, invoke, builtin, Sem.run_bind, Sem.run_pure, Result.andThen_ok, List.map_toArray, List.map_cons, List.map_nil, hd, hs, hr]
  exact h _ (setRow_heap w g cur _ t _ hg) (fun B w0 hb hB => below_setRow hb hB _)
theorem wpList_copyk {w : World} {ops : Array Oper} {rest : List Oper} {o : Oper} {a : Act} {Q : Exit → Act → World → Prop} (hgd : o.guard = none) (d s : Operand) (dT sT : TypeId)
    (ho : o.op = .call { callee := .builtin .copy, args := #[d, s], argTypes := #[dT, sT] }) (elem : TypeId) (g off dLen dCap : Nat) (ad : Addr) (sLen sCap : Nat) (hd : a.eval d = .slice (some ⟨g, off, none⟩) dLen dCap) (hs : a.eval s = .slice (some ad) sLen sCap) (cur : Array Value) (t : TypeId) (cs : List Value) (size m : Nat)
    (hu : P.underlying dT = some (.slice elem)) (hsz : (P.info? elem).map (·.size) = some size) (hg : w.heap[g]? = some (.cells cur t (0, 0))) (hm : Nat.min sLen dLen = m) (hn : cs.length = m * size)
    (hsrc : ∀ j v, cs[j]? = some v → w.cell? (ad.add j) = some v) (hfit : off + cs.length ≤ cur.size) (h1 : ∀ v ∈ cs, v.oneCell' = true)
    (h : ∀ w', w'.heap[g]? = some (.cells (cur.toList.take off ++ cs ++ cur.toList.drop (off + cs.length)).toArray t (0, 0)) → (∀ B w0, Below B w0 w → B ≤ g → Below B w0 w') → wpList P ops Q rest (a.put o.dst (goInt m)) w') : wpList P ops Q (o :: rest) a w :=
  wpList_plain hgd fun _ hK => wp_copyk d s dT sT ho elem g off dLen dCap ad sLen sCap hd hs cur t cs size m hu hsz hg hm hn hsrc hfit h1 fun w' h2 h3 => hK _ _ (h w' h2 h3)
theorem step_copyk {w : World} {ops : Array Oper} {o : Oper} {a : Act} {K : Act → World → Prop} {Q : Exit → Act → World → Prop} {E : Prop} (hgd : o.guard = none) (d s : Operand) (dT sT : TypeId)
    (ho : o.op = .call { callee := .builtin .copy, args := #[d, s], argTypes := #[dT, sT] }) (elem : TypeId) (g off dLen dCap : Nat) (ad : Addr) (sLen sCap : Nat) (hd : a.eval d = .slice (some ⟨g, off, none⟩) dLen dCap) (hs : a.eval s = .slice (some ad) sLen sCap) (cur : Array Value) (t : TypeId) (cs : List Value) (size m : Nat)
    (hu : P.underlying dT = some (.slice elem)) (hsz : (P.info? elem).map (·.size) = some size) (hg : w.heap[g]? = some (.cells cur t (0, 0))) (hm : Nat.min sLen dLen = m) (hn : cs.length = m * size)
    (hsrc : ∀ j v, cs[j]? = some v → w.cell? (ad.add j) = some v) (hfit : off + cs.length ≤ cur.size) (h1 : ∀ v ∈ cs, v.oneCell' = true)
    (h : ∀ w', w'.heap[g]? = some (.cells (cur.toList.take off ++ cs ++ cur.toList.drop (off + cs.length)).toArray t (0, 0)) → (∀ B w0, Below B w0 w → B ≤ g → Below B w0 w') → K (a.put o.dst (goInt m)) w') :
    if Region.wanted o (yielded ops a.tmps) = true then Oper.wp P o a w K Q else E := by
  have hw : Region.wanted o (yielded ops a.tmps) = true := by simp [Region.wanted, hgd]
  rw [if_pos hw]
  exact wp_copyk d s dT sT ho elem g off dLen dCap ad sLen sCap hd hs cur t cs size m hu hsz hg hm hn hsrc hfit h1 h
end
/-- The row with its first j structs written. -/
def rowJ (e : El) (n j : Nat) : List El := List.replicate j e ++ List.replicate (n - j) El0
theorem rowJ_len {e : El} {n j : Nat} (h : j ≤ n) : (flat (rowJ e n j)).length = n * 3 := by rw [flat_len]; simp [rowJ]; omega
theorem rowJ_copy {e : El} {n j m : Nat} (h : j + m ≤ n) : (flat (rowJ e n j)).take (j * 3) ++ flat (List.replicate m e) ++ (flat (rowJ e n j)).drop (j * 3 + (flat (List.replicate m e)).length) = flat (rowJ e n (j + m)) := by
  have h1 : (flat (List.replicate j e)).length = j * 3 := by rw [flat_len, List.length_replicate]
  have h2 : (flat (List.replicate m e)).length = m * 3 := by rw [flat_len, List.length_replicate]
  have h3 : flat (rowJ e n j) = flat (List.replicate j e) ++ (flat (List.replicate m El0) ++ flat (List.replicate (n - (j + m)) El0)) := by
    rw [rowJ, flat_append, ← flat_append (List.replicate m El0) (List.replicate (n - (j + m)) El0), List.replicate_append_replicate, show m + (n - (j + m)) = n - j by omega]
  have h4 : (flat (List.replicate m El0)).length = m * 3 := by rw [flat_len, List.length_replicate]
  rw [h3, h2, rowJ, flat_append, ← List.replicate_append_replicate, flat_append]
  rw [List.take_left' h1, List.drop_append, List.drop_eq_nil_of_le (by rw [h1]; omega), List.nil_append, h1, List.drop_left' (by rw [h4]; omega)]
theorem rowJ_src {e : El} {n j m : Nat} (hm : m ≤ j) (hj : j ≤ n) {i : Nat} {v : Value} (h : (flat (List.replicate m e))[i]? = some v) : (flat (rowJ e n j))[i]? = some v := by
  have hl : i < (flat (List.replicate m e)).length := (List.getElem?_eq_some_iff.1 h).1
  have h3 : flat (rowJ e n j) = flat (List.replicate m e) ++ (flat (List.replicate (j - m) e) ++ flat (List.replicate (n - j) El0)) := by
    rw [rowJ, flat_append, ← List.append_assoc, ← flat_append (List.replicate m e) (List.replicate (j - m) e), List.replicate_append_replicate, show m + (j - m) = j by omega]
  rw [h3, List.getElem?_append_left hl]
  exact h
end Go.Proofs.Ytmghoedjcokhpaa
