/- Merged: Nums Bv Prt Dgv Dgl LaidD. -/
import Derived.Test.YtmghoedjcokhpaaGreatDoorImm
import Derived.Test.YtmghoedjcokhpaaGreatDoorMkr
import Derived.Test.YtmghoedjcokhpaaGreatDoorWsm
import Derived.Test.YtmghoedjcokhpaaGreatDoorPrq
import Derived.Test.YtmghoedjcokhpaaGreatDoorPnm
import Derived.Test.YtmghoedjcokhpaaGreatDoorRows
import Derived.ProofKit
import Derived.LaidMore
import Derived.OpenShut
import Derived.Stop.Joined
import Derived.Stop.LaidErr
import Derived.Lib.LaidTab
/- The program's functions in the laws' words: slices that are numbers, by their values. -/
namespace Go.Proofs.YtmghoedjcokhpaaGreatDoor
open Go.RowKit
open Go.Lib (hid)
set_option linter.unusedVariables false

/-- A slice of the law's own is the number V. -/
def NumO (w : World) (v : Value) (V : Int) : Prop := ∃ L lo hi, Obj w v L lo hi ∧ nok L = true ∧ val L = V
theorem NumO.old {w w' : World} {v : Value} {V : Int} (h : NumO w v V) (hb : Below w.heap.size w w') : NumO w' v V := by
  obtain ⟨L, lo, hi, o, a, b⟩ := h
  exact ⟨L, lo, hi, o.old hb, a, b⟩
def NumP (V : Int) (w : World) (e : Ending) (w' : World) : Prop := ∃ v, e = .returned v ∧ NumO w' v V ∧ Below w.heap.size w w'
theorem NumP_of {L : List Int} {V : Int} {w w' : World} {e : Ending} (h : OwnP L w e w') (hn : nok L = true) (hv : val L = V) : NumP V w e w' := by
  obtain ⟨v, he, hi, hb⟩ := h
  exact ⟨v, he, ⟨L, _, _, Obj.of hi, hn, hv⟩, hb⟩
theorem nok_rep {V : Int} (h0 : 0 ≤ V) (h : V < pw 60) : nok (rep V.toNat) = true ∧ val (rep V.toNat) = V := ⟨nok_iff.2 ⟨rep_len h, Can_rep _⟩, val_rep' h0⟩
theorem NumO.nonneg {w : World} {v : Value} {V : Int} (h : NumO w v V) : 0 ≤ V ∧ V < pw 60 := by
  obtain ⟨L, _, _, _, a, b⟩ := h
  have h1 := val_nonneg (nok_lim a)
  have h2 := nok_lt a
  omega
theorem nok_big {L : List Int} (h : nok L = true) : L.length ≤ 1073741824 := by have := nok_len h; omega
theorem of_num {n : Int} (h0 : 0 ≤ n) (h1 : n ≤ 9223372036854775807) (w : World) : Calls Tryz.prog 56 #[.int .i64 n] w (NumP n w) := by
  refine (impl_NatOf n h1 w).mono fun e w' h => ?_
  have hb : n < pw 60 := by
    have := pw_le (m := 3) (n := 60) (by omega)
    have e3 : pw 3 = 1000000000000000000000000000 := by decide
    omega
  have hr := nok_rep h0 hb
  exact NumP_of h hr.1 hr.2
theorem ok_num {v : Value} {X : Int} {w : World} (h1 : NumO w v X) : Calls Tryz.prog 51 #[v] w (RetB (.bool true) w) := by
  obtain ⟨A, l1, u1, o1, a1, rfl⟩ := h1
  refine obj1 (R := RetB (.bool true)) (fun a n c r => ?_) o1
  have := impl_NatOk a n c A (nok_big a1) w r
  rw [a1] at this
  exact RetB_of_same this
theorem cmp_num {v u : Value} {X Y z : Int} {w : World} (h1 : NumO w v X) (h2 : NumO w u Y) (hz : z = sgn (X - Y)) : Calls Tryz.prog 29 #[v, u] w (RetB (.int .i64 z) w) := by
  obtain ⟨A, l1, u1, o1, a1, rfl⟩ := h1
  obtain ⟨B, l2, u2, o2, a2, rfl⟩ := h2
  subst hz
  rw [← cmpL_val (nok_iff.1 a1).2 (nok_iff.1 a2).2, ← cmpC_yes a1 a2]
  exact RetB_of_drew (obj2 (R := Drew (.int .i64 (cmpC A B))) (fun a b n m c d r1 r2 => impl_NatCmp a b n m c d A B (nok_big a1) (nok_big a2) w r1 r2) o1 o2)
theorem sgn_zero {X Y : Int} (h : X = Y) : 0 = sgn (X - Y) := by subst h; simp [sgn]
theorem sgn_one {X Y : Int} (h : Y < X) : 1 = sgn (X - Y) := by unfold sgn; rw [if_neg (by omega), if_pos (by omega)]
theorem sgn_neg {X Y : Int} (h : X < Y) : -1 = sgn (X - Y) := by unfold sgn; rw [if_pos (by omega)]

/-- MakeNat in these words: a number below B^4. -/
def DrawnN (w : World) (e : Ending) (w' : World) : Prop := ∃ v X, e = .returned v ∧ 0 ≤ X ∧ X < pw 4 ∧ NumO w' v X ∧ Below w.heap.size w w'
theorem make_num (a : Option Addr) (n c : Nat) (Z : List Int) (t : Int) (hZ : Z.length ≤ 1048576) (w : World) (hr : ByteRow w a n Z) (t0 : 0 ≤ t) (t1 : t ≤ 1000) :
    Calls Tryz.prog 15 #[.slice a n c, .int .i64 t] w (DrawnN w) := by
  refine (MakeNat_any a n c Z t hZ w hr t0 t1).mono fun e w' h => ?_
  obtain ⟨L, hL, hl, v, he, hi, hb⟩ := h
  exact ⟨v, val L, he, val_nonneg hL.1, (Can_len hL).1 hl, ⟨L, _, _, Obj.of hi, nok_iff.2 ⟨by omega, hL⟩, rfl⟩, hb⟩
theorem mul_bdN {x y P Q : Int} (hx0 : 0 ≤ x) (hx : x < P) (hy0 : 0 ≤ y) (hy : y < Q) : 0 ≤ x * y ∧ x * y < P * Q := by
  refine ⟨Int.mul_nonneg hx0 hy0, ?_⟩
  calc x * y ≤ x * Q := Int.mul_le_mul_of_nonneg_left (by omega) hx0
    _ < P * Q := Int.mul_lt_mul_of_pos_right hx (by omega)
theorem pw_big : pw 4 * pw 4 = pw 8 ∧ pw 4 * pw 5 = pw 9 ∧ pw 4 + pw 4 < pw 5 ∧ pw 8 + pw 8 < pw 60 ∧ pw 9 < pw 60 ∧ pw 5 + 1 < pw 60 := by decide

theorem ByteRow_came {w : World} {a : Option Addr} {len cap : Nat} {zs : List Int}
    (h : (a = none ∧ len = 0 ∧ cap = 0 ∧ zs = []) ∨ ∃ x, a = some x ∧ len ≤ cap ∧ cap ≤ maxLen ∧ zs.length = cap ∧ (∀ i, i < zs.length → w.cell? (x.add i) = some (.int .u8 (zs.getD i 0))) ∧ ∀ n ∈ zs, (Lit.int .u8 n).wf = true) :
    ∃ Z, ByteRow w a len Z ∧ len ≤ maxLen := by
  rcases h with ⟨rfl, rfl, rfl, rfl⟩ | ⟨x, rfl, hl, hm, hz, hc, hw⟩
  · exact ⟨[], ⟨rfl, (fun z h => by cases h), (fun h => by cases h)⟩, by unfold maxLen; omega⟩
  · have hlen : (zs.take len).length = len := by simp; omega
    refine ⟨zs.take len, ⟨hlen.symm, fun z hz => ?_, fun h0 => ?_⟩, by omega⟩
    · have h := hw z (List.mem_of_mem_take hz)
      simp only [Lit.wf, Bool.and_eq_true, decide_eq_true_eq] at h
      exact h
    obtain ⟨g, o, spot⟩ := x
    have hs : spot = none := by
      have := hc 0 (by omega)
      simpa [Addr.add] using World.cell?_spot this
    subst hs
    have hat : ∀ i, i < zs.length → w.cell? ⟨g, o + i, none⟩ = some (.int .u8 (zs.getD i 0)) := fun i hi => by rw [← Go.WideShapes.add_plain]; exact hc i hi
    refine ⟨g, o, rfl, World.block_lt_of_cell? w ⟨g, o + 0, none⟩ (hat 0 (by omega)), fun i hi => ?_⟩
    have hi' : i < zs.length := by omega
    rw [hat i hi', List.getElem_take]
    simp [hi']

end Go.Proofs.YtmghoedjcokhpaaGreatDoor

/- Big integers by their values: the program's functions in the laws' words. -/
namespace Go.Proofs.YtmghoedjcokhpaaGreatDoor
open Go.RowKit
open Go.Lib (hid)
set_option linter.unusedVariables false

/-- The struct of sign s and slice u is the integer X. -/
def BigV (w : World) (s : Bool) (u : Value) (X : Int) : Prop := ∃ L lo hi, Obj w u L lo hi ∧ bok s L = true ∧ sval s (val L) = X
theorem BigV.old {w w' : World} {s : Bool} {u : Value} {X : Int} (h : BigV w s u X) (hb : Below w.heap.size w w') : BigV w' s u X := by
  obtain ⟨L, lo, hi, o, a, b⟩ := h
  exact ⟨L, lo, hi, o.old hb, a, b⟩
theorem BigV.sign {w : World} {s : Bool} {u : Value} {X : Int} (h : BigV w s u X) : s = gzs X := by
  obtain ⟨L, _, _, _, a, rfl⟩ := h
  exact (gz_of a).1.symm
theorem BigV.bound {w : World} {s : Bool} {u : Value} {X : Int} (h : BigV w s u X) : (X.natAbs : Int) < pw 60 := by
  obtain ⟨L, _, _, _, a, rfl⟩ := h
  have hn := (bok_iff.1 a).1
  rw [sval_abs (val_nonneg (nok_lim hn))]
  exact nok_lt hn
theorem BigV.form {w : World} {s : Bool} {u : Value} {X : Int} (h : BigV w s u X) : ∃ (a : Option Addr) (n c : Nat), u = .slice a n c := by
  obtain ⟨L, _, _, o, _, _⟩ := h
  obtain ⟨a, c, e, -⟩ := Ints_form o.ints
  exact ⟨a, _, c, e⟩
/-- A number is the integer of sign +. -/
theorem BigV.ofNum {w : World} {u : Value} {X : Int} (h : NumO w u X) : BigV w false u X := by
  obtain ⟨L, lo, hi, o, a, b⟩ := h
  exact ⟨L, lo, hi, o, bok_pos a, by rw [← b]; rfl⟩
def BigP (X : Int) (w : World) (e : Ending) (w' : World) : Prop := ∃ s a n c, e = .returned (.agg #[.bool s, .slice a n c]) ∧ BigV w' s (.slice a n c) X ∧ Below w.heap.size w w'
theorem BigP_of {Z : Int} {w w' : World} {e : Ending} (h : OwnG (gzs Z) (gzl Z) w e w') (hb : (Z.natAbs : Int) < pw 60) : BigP Z w e w' := by
  obtain ⟨v, he, hi, hw⟩ := h
  obtain ⟨h1, h2⟩ := gz_ok hb
  obtain ⟨a, c, rfl, -⟩ := Ints_form hi
  exact ⟨gzs Z, a, _, c, he, ⟨gzl Z, _, _, Obj.of hi, h1, h2⟩, hw⟩
theorem of_big {n : Int} (h0 : -9223372036854775808 ≤ n) (h1 : n ≤ 9223372036854775807) (w : World) : Calls Tryz.prog 28 #[.int .i64 n] w (BigP n w) :=
  (impl_BigIntOf n h0 h1 w).mono fun e w' h => BigP_of h (i64_small h0 h1)
theorem ok_big {w : World} {s : Bool} {u : Value} {X : Int} (h1 : BigV w s u X) : Calls Tryz.prog 54 #[.agg #[.bool s, u]] w (RetB (.bool true) w) := by
  obtain ⟨A, l1, u1, o1, a1, rfl⟩ := h1
  have := impl_BigIntOk_own s u A (big_len a1) _ w o1.ints
  rw [a1] at this
  exact this
theorem cmp_big {w : World} {s t : Bool} {u v : Value} {X Y z : Int} (h1 : BigV w s u X) (h2 : BigV w t v Y) (hz : z = sgn (X - Y)) :
    Calls Tryz.prog 30 #[.agg #[.bool s, u], .agg #[.bool t, v]] w (RetB (.int .i64 z) w) := by
  obtain ⟨A, l1, u1, o1, a1, rfl⟩ := h1
  obtain ⟨B, l2, u2, o2, a2, rfl⟩ := h2
  have := impl_BigIntCmp s t u v A B (big_len a1) (big_len a2) _ _ w o1.ints o2.ints
  rw [cmpB_yes a1 a2, ← hz] at this
  exact this
theorem make_big (a : Option Addr) (n c : Nat) (Z : List Int) (t : Int) (hZ : Z.length ≤ 1048576) (w : World) (hr : ByteRow w a n Z) (t0 : 0 ≤ t) (t1 : t ≤ 1000) :
    Calls Tryz.prog 16 #[.slice a n c, .int .i64 t] w (fun e w' => ∃ X s a n c, -pw 3 < X ∧ X < pw 3 ∧ e = .returned (.agg #[.bool s, .slice a n c]) ∧ BigV w' s (.slice a n c) X ∧ Below w.heap.size w w') := by
  refine (MakeWhole_any a n c Z t hZ w hr t0 t1).mono fun e w' h => ?_
  obtain ⟨X, u, h1, h2, he, hi, hb⟩ := h
  have := pw3_1000
  obtain ⟨s, a, n, c, e1, e2, e3⟩ := BigP_of (Z := X) ⟨u, he, hi, hb⟩ (by omega)
  exact ⟨X, s, a, n, c, h1, h2, e1, e2, e3⟩
theorem mul_ab {x y P Q : Int} (hx : -P < x ∧ x < P) (hy : -Q < y ∧ y < Q) : -(P * Q) < x * y ∧ x * y < P * Q := by
  have h1 : (x * y).natAbs = x.natAbs * y.natAbs := Int.natAbs_mul x y
  have h2 : (x.natAbs : Int) * (y.natAbs : Int) < P * Q := by
    have a1 : (x.natAbs : Int) < P := by omega
    have a2 : (y.natAbs : Int) < Q := by omega
    exact (mul_bdN (by omega) a1 (by omega) a2).2
  have h3 : ((x * y).natAbs : Int) = (x.natAbs : Int) * (y.natAbs : Int) := by rw [h1]; exact Int.natCast_mul _ _
  omega
end Go.Proofs.YtmghoedjcokhpaaGreatDoor

/- What is written of a fraction reads back. No program text. -/
namespace Go.Proofs.YtmghoedjcokhpaaGreatDoor
open Go.RowKit
open Go.Lib (hid)
set_option linter.unusedVariables false

theorem slash_list {s : ByteArray} {i : Nat} : slash s i = true ↔ s.data.toList[i]? = some 47 := by
  have hl : s.data.toList.length = s.size := by simp
  rw [slash_iff]
  constructor
  · rintro ⟨h, e⟩
    rw [List.getElem?_eq_getElem (by omega)]
    exact congrArg some e
  · intro h
    obtain ⟨h1, h2⟩ := List.getElem?_eq_some_iff.1 h
    exact ⟨by omega, h2⟩
theorem slash_left {x y : ByteArray} {j : Nat} (h : j < x.size) : slash (x ++ y) j = slash x j := by
  have hl : x.data.toList.length = x.size := by simp
  rw [Bool.eq_iff_iff, slash_list, slash_list, app_list, List.getElem?_append_left (by omega)]
theorem slash_at {x y : ByteArray} : slash (x ++ ByteArray.mk #[47] ++ y) x.size = true := by
  have hl : x.data.toList.length = x.size := by simp
  rw [slash_list, app_list, app_list, List.append_assoc, List.getElem?_append_right (by omega), hl, Nat.sub_self]
  rfl
theorem fmtB_slash {s : Bool} {A : List Int} (h : bok s A = true) (j : Nat) : slash (fmtB s A) j = false := by
  have hd := no_slash_digs (parse_format (bok_iff.1 h).1).1
  cases s with
  | true =>
    rw [fmtB_neg h]
    cases e : slash (ByteArray.mk #[45] ++ formatL A) j with
    | false => rfl
    | true =>
      rw [slash_list, app_list] at e
      cases j with
      | zero => exact absurd e (by simp)
      | succ j =>
        have e2 : (formatL A).data.toList[j]? = some 47 := by simpa using e
        rw [← slash_list, hd] at e2
        cases e2
  | false => rw [fmtB_pos h]; exact hd j
theorem left_part {x y : ByteArray} : (x ++ y).extract 0 x.size = x := by
  have hl : x.data.toList.length = x.size := by simp
  refine list_inj ?_
  rw [part_list, app_list, List.drop_zero, Nat.sub_zero, ← hl, List.take_left]
theorem right_part {x y : ByteArray} : (x ++ ByteArray.mk #[47] ++ y).extract (x.size + 1) (x ++ ByteArray.mk #[47] ++ y).size = y := by
  have hl : x.data.toList.length = x.size := by simp
  have hy : y.data.toList.length = y.size := by simp
  refine list_inj ?_
  rw [part_list, size_cat, app_list]
  have h1 : (x ++ ByteArray.mk #[47]).data.toList.length = x.size + 1 := by rw [app_list]; simp
  rw [← h1, List.drop_left, List.take_of_length_le (by omega)]
/-- What is written of a fraction reads back. -/
theorem parse_fmtR {s : Bool} {A D : List Int} (h : rok s A D = true) :
    prB (fmtR s A D) = true ∧ prS (fmtR s A D) = s ∧ prA (fmtR s A D) = A ∧ prE (fmtR s A D) = D := by
  obtain ⟨hb, hD, -⟩ := rok_iff.1 h
  obtain ⟨p1, p2, p3⟩ := parse_fmtB hb
  obtain ⟨q1, q2⟩ := parse_format hD
  have key : ∀ t : ByteArray, prL t = fmtB s A → prO t = true → prD t = D → prB t = true ∧ prS t = s ∧ prA t = A ∧ prE t = D := by
    intro t e1 e2 e3
    have hB : prB t = true := by unfold prB; rw [e1, e2, e3, p1, p2, p3, h]; rfl
    refine ⟨hB, ?_, ?_, ?_⟩
    · unfold prS; rw [if_pos hB, e1, p2]
    · unfold prA; rw [if_pos hB, e1, p3]
    · unfold prE; rw [if_pos hB, e3]
  by_cases h1 : D = [1]
  · rw [fmtR_one h h1]
    rcases cut_cases (fmtB s A) with ⟨hn, e⟩ | ⟨k, hk, -, -⟩
    · have e2 : prF (fmtB s A) = false := by unfold prF; rw [e]
      exact key _ (by unfold prL; rw [e]) (by unfold prO; rw [e2]; rfl) (by unfold prD; rw [e2, h1]; rfl)
    · rw [fmtB_slash hb] at hk
      cases hk
  · rw [fmtR_two h h1]
    rcases cut_cases (fmtB s A ++ ByteArray.mk #[47] ++ formatL D) with ⟨hn, -⟩ | ⟨k, hk, hlt, e⟩
    · exact absurd (slash_at (x := fmtB s A) (y := formatL D)) (by rw [hn]; simp)
    · have hk2 : k = (fmtB s A).size := by
        rcases Nat.lt_trichotomy k (fmtB s A).size with g | g | g
        · rw [ByteArray.append_assoc, slash_left g, fmtB_slash hb] at hk
          cases hk
        · exact g
        · have := hlt _ g
          rw [slash_at] at this
          cases this
      subst hk2
      have e1 : prL (fmtB s A ++ ByteArray.mk #[47] ++ formatL D) = fmtB s A := by
        unfold prL; rw [e]; show (fmtB s A ++ ByteArray.mk #[47] ++ formatL D).extract 0 (fmtB s A).size = _; rw [ByteArray.append_assoc]; exact left_part
      have e2 : prF (fmtB s A ++ ByteArray.mk #[47] ++ formatL D) = true := by unfold prF; rw [e]
      have e3 : prR (fmtB s A ++ ByteArray.mk #[47] ++ formatL D) = formatL D := by
        unfold prR; rw [e]; exact right_part
      refine key _ e1 ?_ ?_
      · unfold prO; rw [e2, e3, q1, q2, decide_eq_false h1]; rfl
      · unfold prD; rw [e2, e3, q2]; rfl
end Go.Proofs.YtmghoedjcokhpaaGreatDoor

/- Numbers by their values are recovered from their texts. -/
namespace Go.Proofs.YtmghoedjcokhpaaGreatDoor
open Go.RowKit
open Go.Lib (hid)
set_option linter.unusedVariables false

def TextN (z : ByteArray) (X : Int) : Prop := (parseB z = true ∧ nok (parseR z) = true ∧ val (parseR z) = X) ∧ z.size ≤ 1048576
def TextB (z : ByteArray) (X : Int) : Prop := (pbB z = true ∧ bok (pbS z) (pbR z) = true ∧ sval (pbS z) (val (pbR z)) = X) ∧ z.size ≤ 1048576
def Said (T : ByteArray → Prop) (w : World) (e : Ending) (w' : World) : Prop := ∃ z, e = .returned (.string z) ∧ T z ∧ Below w.heap.size w w'
theorem text_num {w : World} {v : Value} {X : Int} (h : NumO w v X) (hp : Pow10 w) : Calls Tryz.prog 19 #[v] w (Said (TextN · X) w) := by
  obtain ⟨L, lo, hi, o, hn, hv⟩ := h
  have hL := nok_len hn
  have hsz := formatL_size (L := L)
  obtain ⟨p1, p2⟩ := parse_format hn
  have i := o.ints
  obtain ⟨a, c, rfl, -⟩ := Ints_form i
  refine (impl_FormatNat a _ c L (by omega) w (Ints_rowW i) hp).mono ?_
  rintro e w1 ⟨rfl, b1⟩
  exact ⟨_, rfl, ⟨⟨p1, by rw [p2]; exact hn, by rw [p2]; exact hv⟩, by omega⟩, b1⟩
theorem read_num {w : World} {z : ByteArray} {X : Int} (h : TextN z X) : Calls Tryz.prog 18 #[.string z] w (fun e w' => ∃ v, e = .returned (.tuple #[v, .bool true]) ∧ NumO w' v X ∧ Below w.heap.size w w') := by
  obtain ⟨⟨h1, h2, h3⟩, hs⟩ := h
  refine (impl_ParseNat z hs w).mono ?_
  rintro e w1 ⟨v, rfl, i1, b1⟩
  rw [h1]
  exact ⟨v, rfl, ⟨_, _, _, Obj_at i1 (Nat.le_refl _), h2, h3⟩, b1⟩
theorem text_big {w : World} {s : Bool} {v : Value} {X : Int} (h : BigV w s v X) (hp : Pow10 w) : Calls Tryz.prog 21 #[.agg #[.bool s, v]] w (Said (TextB · X) w) := by
  obtain ⟨L, lo, hi, o, hb, hv⟩ := h
  have hL := nok_len (bok_iff.1 hb).1
  have hsz := fmtB_size (s := s) (A := L)
  obtain ⟨p1, p2, p3⟩ := parse_fmtB hb
  refine (impl_FormatBigInt s v L (by omega) lo w o.ints hp).mono ?_
  rintro e w1 ⟨rfl, b1⟩
  exact ⟨_, rfl, ⟨⟨p1, by rw [p2, p3]; exact hb, by rw [p2, p3]; exact hv⟩, by omega⟩, b1⟩
theorem read_big {w : World} {z : ByteArray} {X : Int} (h : TextB z X) : Calls Tryz.prog 20 #[.string z] w (fun e w' => ∃ s a n c, e = .returned (.tuple #[.agg #[.bool s, .slice a n c], .bool true]) ∧ BigV w' s (.slice a n c) X ∧ Below w.heap.size w w') := by
  obtain ⟨⟨h1, h2, h3⟩, hs⟩ := h
  refine (impl_ParseBigInt z hs w).mono ?_
  rintro e w1 ⟨v, rfl, i1, b1⟩
  rw [h1]
  obtain ⟨a, c, rfl, -⟩ := Ints_form i1
  exact ⟨_, a, _, c, rfl, ⟨_, _, _, Obj_at i1 (Nat.le_refl _), h2, h3⟩, b1⟩
def TextR (z : ByteArray) (x : Rat) : Prop := (prB z = true ∧ rval (prS z) (prA z) (prE z) = some x) ∧ z.size ≤ 1048576
theorem text_rat {w : World} {s : Bool} {v u : Value} {x : Rat} (h : RatX w s v u x) (hp : Pow10 w) : Calls Tryz.prog 23 #[.agg #[.bool s, v, u]] w (Said (TextR · x) w) := by
  obtain ⟨A, D, hl, hv⟩ := h.val
  have hk : rok s A D = true := by
    cases e : rok s A D with
    | true => rfl
    | false => rw [rval_no e] at hv; cases hv
  obtain ⟨p1, p2, p3, p4⟩ := parse_fmtR hk
  have hs1 := fmtB_size (s := s) (A := A)
  have hs2 := formatL_size (L := D)
  have hsz : (fmtR s A D).size ≤ 1048576 := by
    by_cases h1 : D = [1]
    · rw [fmtR_one hk h1]; omega
    · rw [fmtR_two hk h1, size_cat]; omega
  refine (impl_FormatRat s v u A D w hl hp).mono ?_
  rintro e w1 ⟨rfl, b1⟩
  exact ⟨_, rfl, ⟨⟨p1, by rw [p2, p3, p4]; exact hv⟩, hsz⟩, b1⟩
theorem read_rat {w : World} {z : ByteArray} {x : Rat} {ml : Int} (h : TextR z x) (hm : w.cell? ⟨2, 0, none⟩ = some (.int .i64 ml)) (h2 : 2 < w.heap.size) :
    Calls Tryz.prog 22 #[.string z] w (fun e w' => ∃ s a n c b m d, e = .returned (.tuple #[.agg #[.bool s, .slice a n c, .slice b m d], .bool true]) ∧ RatX w' s (.slice a n c) (.slice b m d) x ∧ Below w.heap.size w w') := by
  obtain ⟨⟨h1, h3⟩, hs⟩ := h
  have hl := pr_len z
  refine (impl_ParseRat z hs w ml hm h2).mono ?_
  rintro e w1 ⟨v, u, rfl, o, b1⟩
  rw [h1]
  have hk : rok (prS z) (prA z) (prE z) = true := by
    cases e : rok (prS z) (prA z) (prE z) with
    | true => rfl
    | false => rw [rval_no e] at h3; cases h3
  obtain ⟨y, e, X⟩ := RatX.of (o.rl (by omega) (by omega)) hk
  rw [h3] at e
  cases e
  obtain ⟨a, n, c, b, m, d, rfl, rfl⟩ := X.form
  exact ⟨_, a, n, c, b, m, d, rfl, X, b1⟩
set_option maxRecDepth 100000 in
set_option maxHeartbeats 1600000 in
theorem MakeNum_large (a : Option Addr) (n c : Nat) (Z : List Int) (m : Int) (hZ : Z.length ≤ 1048576) (w : World) (hr : ByteRow w a n Z) (m0 : 0 < m) (m1 : m ≤ 1000000000) :
    Calls Tryz.prog 24 #[.slice a n c, .int .i64 m] w fun e w' => ∃ x, 0 ≤ x ∧ x < m ∧ e = .returned (.int .i64 x) ∧ Below w.heap.size w w' := by
  have K := hid (l01New_any a n c Z hZ w hr)
  have hh := hashTo_le hZ (min Z.length 4000)
  obtain ⟨h, hhe⟩ : ∃ h, h = hashed Z := ⟨_, rfl⟩
  have HH := hid hhe
  change 0 ≤ hashed Z ∧ hashed Z ≤ 1073741824 at hh
  rw [← hhe] at hh
  have HR := hid hr
  clear hhe hr
  go_enter Tryz.func24, Tryz.ntmps24
  go_wp2_with fail
  refine K.out.mono ?_
  rintro e w1 ⟨rfl, rfl⟩
  rw [← HH.out]
  go_wp2_with fail
  have hb0 : Below w.heap.size w (w.alloc (.cells #[.slice a n c, .int .i64 0, .int .i64 (h + 777)] 74)) := (Below.refl _ _).alloc (Nat.le_refl _) _
  have HC := hid (show CurE (w.alloc (.cells #[.slice a n c, .int .i64 0, .int .i64 (h + 777)] 74)) w.heap.size a n c Z from ⟨ByteRow_below HR.out hb0, 0, h + 777, Nat.zero_le _, by unfold IsCur; exact heap_alloc_new w _⟩)
  have HU := hid (show Under w.heap.size a Z from fun g o e h0 => by
    obtain ⟨g', o', e', hg, _⟩ := HR.out.2.2 h0
    rw [e] at e'
    simp at e'
    omega)
  have HB := hid hb0
  clear hb0
  refine (belowE w.heap.size a n c Z m hZ _ HC.out HU.out m0 m1).mono ?_
  rintro e w2 ⟨x, x0, x1, rfl, -, hB⟩
  have R := hid (show Below w.heap.size w w2 from HB.out.trans (hB.below fun k hk hs => by have : k = w.heap.size := hs; omega))
  clear hB
  go_wp2_with fail
  go_ret
  exact ⟨x, x0, x1, rfl, R.out⟩
/-- A small int is recovered from its big integer. -/
theorem back_small {x : Int} (h0 : -500000 ≤ x) (h1 : x ≤ 500000) : btB (gzs x) (gzl x) = true ∧ btV (gzs x) (gzl x) = x := by
  have hp : (1000000 : Int) < pw 60 := by decide
  have hx : (x.natAbs : Int) < pw 60 := by omega
  obtain ⟨g1, g2⟩ := gz_ok hx
  obtain ⟨g3, -⟩ := gz_back hx
  have hv : val (gzl x) = (x.natAbs : Int) := by
    have := congrArg (fun y : Int => (y.natAbs : Int)) g2
    have h2 := val_nonneg (nok_lim g3)
    simp only [sval_abs h2] at this
    exact this
  have hb : btB (gzs x) (gzl x) = true := by
    unfold btB tiB
    rw [g1, g3, hv]
    have : (x.natAbs : Int) ≤ maxI := by unfold maxI; omega
    simp [this]
  exact ⟨hb, by unfold btV; rw [if_pos hb, g2]⟩
end Go.Proofs.YtmghoedjcokhpaaGreatDoor

/- The walk of the law FnDigits. -/
namespace Go.Proofs.YtmghoedjcokhpaaGreatDoor
open Go.RowKit
open Go.Lib (hid)
set_option linter.unusedVariables false

theorem read_int {x : Int} (hx : inR x) (hs : (bts (Lib.itoa x)).size ≤ 1048576) (w : World) (e0 : ErrCell w 0) (e1 : ErrCell w 1) (hp : Pow10 w) (hg : 3 < w.heap.size) :
    Calls Tryz.prog 25 #[.string (bts (Lib.itoa x))] w (Ret2 x true w) := by
  refine (impl_ParseInt (bts (Lib.itoa x)) hs w e0 e1 hp hg).mono ?_
  rintro e w1 ⟨r, b, rfl, h, b1⟩
  obtain ⟨h1, h2⟩ := PIok_one h (.inl ⟨rfl, hx, rfl⟩ : PIok (bts (Lib.itoa x)) x true)
  rw [h1, h2]
  exact ⟨rfl, b1⟩

theorem err_old {w w' : World} {g : Nat} (h : ErrCell w g) (hg : g < w.heap.size) (hb : Below w.heap.size w w') : ErrCell w' g := by
  obtain ⟨ev, h1, h2⟩ := h
  exact ⟨ev, cell_low h1 hg hb, h2⟩
theorem gzl_len (k : Int) : (gzl k).length ≤ 1073741824 := by
  by_cases h : (k.natAbs : Int) < pw 60
  · have := nok_len (gz_back h).1; omega
  · rw [gzl_big (by omega)]; decide
theorem itoa_small {x : Int} (h0 : -500000 ≤ x) (h1 : x ≤ 500000) : (bts (Lib.itoa x)).size ≤ 1048576 := by
  have hl : (bts (Lib.itoa x)).data.toList.length = (bts (Lib.itoa x)).size := by simp
  rw [bts_list] at hl
  have hd : (Lib.decDigits x.natAbs).length ≤ 7 := (dec_fits x.natAbs 7 (by omega)).2 (by omega)
  have hd2 : (Lib.decDigits x.toNat).length ≤ 7 := (dec_fits x.toNat 7 (by omega)).2 (by omega)
  have : (Lib.itoa x).length ≤ 8 := by
    unfold Lib.itoa; split
    · simp only [List.length_cons]; omega
    · omega
  omega
theorem fit_sz {x : Rat} (h : szq x 3) : fit x := by
  have : pw 3 < pw 24 := by decide
  exact ⟨by have := h.1; omega, by have := h.2; omega⟩
set_option maxRecDepth 100000 in
set_option maxHeartbeats 6400000 in
theorem law_Digits (a : Option Addr) (n c : Nat) (Z : List Int) (hn : n ≤ maxLen) (w : World) (hr : ByteRow w a n Z) (ml : Int) (hm : w.cell? ⟨2, 0, none⟩ = some (.int .i64 ml)) (h2 : 3 < w.heap.size) (hp : Pow10 w) (e0 : ErrCell w 0) (e1 : ErrCell w 1) :
    Calls Tryz.prog 5 #[.slice a n c] w (RetB (.bool true) w) := by
  unfold maxLen at hn
  by_cases hA : 1048576 < (n : Int)
  · go_enter Tryz.func5, Tryz.ntmps5
    go_wp2
    go_ret
    exact ⟨rfl, Below.refl _ _⟩
  have hZ : Z.length ≤ 1048576 := by have := hr.1; omega
  have KA := hid (fun (W : World) (hB : Below w.heap.size w W) => MakeNat_any a n c Z 1 hZ W (ByteRow_below hr hB) (by omega) (by omega))
  have KX := hid (fun (W : World) (hB : Below w.heap.size w W) => MakeWhole_any a n c Z 2 hZ W (ByteRow_below hr hB) (by omega) (by omega))
  have KR := hid (fun (W : World) (hB : Below w.heap.size w W) => MakeRat_any a n c Z 3 hZ W (ByteRow_below hr hB) (by omega) (by omega))
  have B := hid (Below.refl w.heap.size w)
  obtain ⟨w1, hw1⟩ : ∃ w1, w1 = w := ⟨_, rfl⟩
  rw [show Below w.heap.size w w = Below w.heap.size w w1 by rw [hw1]] at B
  go_enter Tryz.func5, Tryz.ntmps5
  go_wp2_with fail
  rw [← hw1]
  clear hw1
  (with_reducible refine (KA.out _ B.out).mono ?_)
  rintro e w2 ⟨L, hc, hl, v2, rfl, i1, b1⟩
  have B := hid (B.out.trans (b1.mono B.out.size))
  obtain ⟨a2, c2, rfl, -⟩ := Ints_form i1
  have NA := hid (show NumO w2 (.slice a2 L.length c2) (val L) from ⟨L, _, _, Obj_at i1 (Nat.le_refl _), nok_iff.2 ⟨by omega, hc⟩, rfl⟩)
  clear i1 b1
  go_wp2_with fail
  (with_reducible refine (KX.out _ B.out).mono ?_)
  rintro e w3 ⟨X, v3, x0, x1, rfl, i1, b1⟩
  have B := hid (B.out.trans (b1.mono B.out.size))
  have NA := hid (NA.out.old b1)
  obtain ⟨a3, c3, rfl, -⟩ := Ints_form i1
  have gx := gz_ok (Z := X) (by have : pw 3 < pw 60 := by decide
                                omega)
  have BX := hid (show BigV w3 (gzs X) (.slice a3 (gzl X).length c3) X from ⟨gzl X, _, _, Obj_at i1 (Nat.le_refl _), gx.1, gx.2⟩)
  clear i1 b1 gx
  obtain ⟨m3, hm3⟩ : ∃ m, m = (gzl X).length := ⟨_, rfl⟩
  obtain ⟨g3, hg3⟩ : ∃ m, m = gzs X := ⟨_, rfl⟩
  rw [← hm3, ← hg3] at BX
  rw [← hm3, ← hg3]
  obtain ⟨m2, hm2⟩ : ∃ m, m = L.length := ⟨_, rfl⟩
  obtain ⟨A, hA2⟩ : ∃ m, m = val L := ⟨_, rfl⟩
  rw [← hm2, ← hA2] at NA
  rw [← hm2]
  clear hm2 hm3 hg3 hA2
  have NA := hid (NA.out.old (below_new' (o := .cells #[.bool g3, .slice a3 m3 c3] 37)))
  have BX := hid (BX.out.old (below_new' (o := .cells #[.bool g3, .slice a3 m3 c3] 37)))
  have LX := hid (LocA.new (w := w3) (T := 37) (cs := #[.bool g3, .slice a3 m3 c3]))
  have B := hid (B.out.alloc B.out.size (.cells #[.bool g3, .slice a3 m3 c3] 37))
  go_wp2_with fail
  (with_reducible refine (KR.out _ B.out).mono ?_)
  rintro e w4 ⟨x, v4, u4, hx, rfl, i1, i2, b1⟩
  have NA := hid (NA.out.old b1)
  have BX := hid (BX.out.old b1)
  have LX := hid (LX.out.old b1)
  have B := hid (B.out.trans (b1.mono B.out.size))
  obtain ⟨a4, c4, rfl, -⟩ := Ints_form i1
  obtain ⟨b4, d4, rfl, -⟩ := Ints_form i2
  have RX := hid (RatX_of i1 i2 (fit_sz hx))
  clear i1 i2 b1 hx
  obtain ⟨n4, hn4⟩ : ∃ m, m = (gzl x.num).length := ⟨_, rfl⟩
  obtain ⟨m4, hm4⟩ : ∃ m, m = (gzl (x.den : Int)).length := ⟨_, rfl⟩
  obtain ⟨g4, hg4⟩ : ∃ m, m = gzs x.num := ⟨_, rfl⟩
  rw [← hn4, ← hm4, ← hg4] at RX ⊢
  clear hn4 hm4 hg4
  have NA := hid (NA.out.old (below_new' (o := (.cells #[.bool g4, .slice a4 n4 c4, .slice b4 m4 d4] 40))))
  have BX := hid (BX.out.old (below_new' (o := (.cells #[.bool g4, .slice a4 n4 c4, .slice b4 m4 d4] 40))))
  have LX := hid (LX.out.old (below_new' (o := (.cells #[.bool g4, .slice a4 n4 c4, .slice b4 m4 d4] 40))))
  have RX := hid (RX.out.old (below_new' (o := (.cells #[.bool g4, .slice a4 n4 c4, .slice b4 m4 d4] 40))))
  have LR := hid (LocA.new (w := w4) (T := 40) (cs := #[.bool g4, .slice a4 n4 c4, .slice b4 m4 d4]))
  have B := hid (B.out.alloc B.out.size (.cells #[.bool g4, .slice a4 n4 c4, .slice b4 m4 d4] 40))
  go_wp2_with fail
  (with_reducible refine (text_num NA.out (hp.old B.out)).mono ?_)
  rintro e w5 ⟨z5, rfl, t5, b1⟩
  have NA := hid (NA.out.old b1)
  have BX := hid (BX.out.old b1)
  have LX := hid (LX.out.old b1)
  have RX := hid (RX.out.old b1)
  have LR := hid (LR.out.old b1)
  have B := hid (B.out.trans (b1.mono B.out.size))
  clear b1
  go_wp2_with fail
  (with_reducible refine (read_num t5).mono ?_)
  rintro e w6 ⟨v6, rfl, nb, b1⟩
  have NA := hid (NA.out.old b1)
  have BX := hid (BX.out.old b1)
  have LX := hid (LX.out.old b1)
  have RX := hid (RX.out.old b1)
  have LR := hid (LR.out.old b1)
  have B := hid (B.out.trans (b1.mono B.out.size))
  have NB := hid nb
  clear nb b1 t5
  have q0 := LX.out.c 0 rfl
  have q1 := LX.out.c 1 rfl
  go_wp2_with fail
  (with_reducible refine (text_big BX.out (hp.old B.out)).mono ?_)
  clear q0 q1
  rintro e w7 ⟨z7, rfl, t7, b1⟩
  have NA := hid (NA.out.old b1)
  have BX := hid (BX.out.old b1)
  have LX := hid (LX.out.old b1)
  have RX := hid (RX.out.old b1)
  have LR := hid (LR.out.old b1)
  have NB := hid (NB.out.old b1)
  have B := hid (B.out.trans (b1.mono B.out.size))
  clear b1
  go_wp2_with fail
  (with_reducible refine (read_big t7).mono ?_)
  rintro e w8 ⟨s8, a8, n8, c8, rfl, nb, b1⟩
  have NA := hid (NA.out.old b1)
  have BX := hid (BX.out.old b1)
  have LX := hid (LX.out.old b1)
  have RX := hid (RX.out.old b1)
  have LR := hid (LR.out.old b1)
  have NB := hid (NB.out.old b1)
  have B := hid (B.out.trans (b1.mono B.out.size))
  have BY := hid nb
  clear nb b1 t7
  have NA := hid (NA.out.old (below_new' (o := (.cells #[.bool s8, .slice a8 n8 c8] 37))))
  have BX := hid (BX.out.old (below_new' (o := (.cells #[.bool s8, .slice a8 n8 c8] 37))))
  have LX := hid (LX.out.old (below_new' (o := (.cells #[.bool s8, .slice a8 n8 c8] 37))))
  have RX := hid (RX.out.old (below_new' (o := (.cells #[.bool s8, .slice a8 n8 c8] 37))))
  have LR := hid (LR.out.old (below_new' (o := (.cells #[.bool s8, .slice a8 n8 c8] 37))))
  have NB := hid (NB.out.old (below_new' (o := (.cells #[.bool s8, .slice a8 n8 c8] 37))))
  have BY := hid (BY.out.old (below_new' (o := (.cells #[.bool s8, .slice a8 n8 c8] 37))))
  have LY := hid (LocA.new (w := w8) (T := 37) (cs := #[.bool s8, .slice a8 n8 c8]))
  have B := hid (B.out.alloc B.out.size (.cells #[.bool s8, .slice a8 n8 c8] 37))
  have q0 := LR.out.c 0 rfl
  have q1 := LR.out.c 1 rfl
  have q2 := LR.out.c 2 rfl
  go_wp2_with fail
  (with_reducible refine (text_rat RX.out (hp.old B.out)).mono ?_)
  clear q0 q1 q2
  rintro e w9 ⟨z9, rfl, t9, b1⟩
  have NA := hid (NA.out.old b1)
  have BX := hid (BX.out.old b1)
  have LX := hid (LX.out.old b1)
  have RX := hid (RX.out.old b1)
  have LR := hid (LR.out.old b1)
  have NB := hid (NB.out.old b1)
  have BY := hid (BY.out.old b1)
  have LY := hid (LY.out.old b1)
  have B := hid (B.out.trans (b1.mono B.out.size))
  clear b1
  go_wp2_with fail
  (with_reducible refine (read_rat t9 (cell_low hm (by omega) B.out) (by have := B.out.size; omega)).mono ?_)
  rintro e w10 ⟨s10, a10, n10, c10, b10, m10, d10, rfl, nb, b1⟩
  have NA := hid (NA.out.old b1)
  have BX := hid (BX.out.old b1)
  have LX := hid (LX.out.old b1)
  have RX := hid (RX.out.old b1)
  have LR := hid (LR.out.old b1)
  have NB := hid (NB.out.old b1)
  have BY := hid (BY.out.old b1)
  have LY := hid (LY.out.old b1)
  have B := hid (B.out.trans (b1.mono B.out.size))
  have RY := hid nb
  clear nb b1 t9
  have NA := hid (NA.out.old (below_new' (o := (.cells #[.bool s10, .slice a10 n10 c10, .slice b10 m10 d10] 40))))
  have BX := hid (BX.out.old (below_new' (o := (.cells #[.bool s10, .slice a10 n10 c10, .slice b10 m10 d10] 40))))
  have LX := hid (LX.out.old (below_new' (o := (.cells #[.bool s10, .slice a10 n10 c10, .slice b10 m10 d10] 40))))
  have RX := hid (RX.out.old (below_new' (o := (.cells #[.bool s10, .slice a10 n10 c10, .slice b10 m10 d10] 40))))
  have LR := hid (LR.out.old (below_new' (o := (.cells #[.bool s10, .slice a10 n10 c10, .slice b10 m10 d10] 40))))
  have NB := hid (NB.out.old (below_new' (o := (.cells #[.bool s10, .slice a10 n10 c10, .slice b10 m10 d10] 40))))
  have BY := hid (BY.out.old (below_new' (o := (.cells #[.bool s10, .slice a10 n10 c10, .slice b10 m10 d10] 40))))
  have LY := hid (LY.out.old (below_new' (o := (.cells #[.bool s10, .slice a10 n10 c10, .slice b10 m10 d10] 40))))
  have RY := hid (RY.out.old (below_new' (o := (.cells #[.bool s10, .slice a10 n10 c10, .slice b10 m10 d10] 40))))
  have LS := hid (LocA.new (w := w10) (T := 40) (cs := #[.bool s10, .slice a10 n10 c10, .slice b10 m10 d10]))
  have B := hid (B.out.alloc B.out.size (.cells #[.bool s10, .slice a10 n10 c10, .slice b10 m10 d10] 40))
  go_wp2_with fail
  (with_reducible refine (MakeNum_large a n c Z 1000000 hZ _ (ByteRow_below hr B.out) (by omega) (by omega)).mono ?_)
  rintro e w11 ⟨y, y0, y1, rfl, b1⟩
  have NA := hid (NA.out.old b1)
  have BX := hid (BX.out.old b1)
  have LX := hid (LX.out.old b1)
  have RX := hid (RX.out.old b1)
  have LR := hid (LR.out.old b1)
  have NB := hid (NB.out.old b1)
  have BY := hid (BY.out.old b1)
  have LY := hid (LY.out.old b1)
  have RY := hid (RY.out.old b1)
  have LS := hid (LS.out.old b1)
  have B := hid (B.out.trans (b1.mono B.out.size))
  clear b1
  obtain ⟨bk1, bk2⟩ := back_small (x := y - 500000) (by omega) (by omega)
  have gk := gz_ok (Z := y - 500000) (by have : (1000000 : Int) < pw 60 := by decide
                                         omega)
  have hin : inR (y - 500000) := by unfold inR; omega
  have hsz := itoa_small (x := y - 500000) (by omega) (by omega)
  have k0 : -9223372036854775808 ≤ y - 500000 := by omega
  have k1 : y - 500000 ≤ 9223372036854775807 := by omega
  go_wp2_with fail
  (with_reducible refine (impl_FormatInt (y - 500000) k0 k1 _ (hp.old B.out)).mono ?_)
  rintro e w12 ⟨rfl, b1⟩
  have NA := hid (NA.out.old b1)
  have BX := hid (BX.out.old b1)
  have LX := hid (LX.out.old b1)
  have RX := hid (RX.out.old b1)
  have LR := hid (LR.out.old b1)
  have NB := hid (NB.out.old b1)
  have BY := hid (BY.out.old b1)
  have LY := hid (LY.out.old b1)
  have RY := hid (RY.out.old b1)
  have LS := hid (LS.out.old b1)
  have B := hid (B.out.trans (b1.mono B.out.size))
  clear b1
  go_wp2_with fail
  (with_reducible refine (read_int hin hsz _ (err_old e0 (by omega) B.out) (err_old e1 (by omega) B.out) (hp.old B.out) (by have := B.out.size; omega)).mono ?_)
  rintro e w13 ⟨rfl, b1⟩
  have NA := hid (NA.out.old b1)
  have BX := hid (BX.out.old b1)
  have LX := hid (LX.out.old b1)
  have RX := hid (RX.out.old b1)
  have LR := hid (LR.out.old b1)
  have NB := hid (NB.out.old b1)
  have BY := hid (BY.out.old b1)
  have LY := hid (LY.out.old b1)
  have RY := hid (RY.out.old b1)
  have LS := hid (LS.out.old b1)
  have B := hid (B.out.trans (b1.mono B.out.size))
  clear b1
  go_wp2_with fail
  (with_reducible refine (impl_BigIntOf (y - 500000) k0 k1 _).mono ?_)
  rintro e w14 ⟨v14, rfl, i1, b1⟩
  have NA := hid (NA.out.old b1)
  have BX := hid (BX.out.old b1)
  have LX := hid (LX.out.old b1)
  have RX := hid (RX.out.old b1)
  have LR := hid (LR.out.old b1)
  have NB := hid (NB.out.old b1)
  have BY := hid (BY.out.old b1)
  have LY := hid (LY.out.old b1)
  have RY := hid (RY.out.old b1)
  have LS := hid (LS.out.old b1)
  have B := hid (B.out.trans (b1.mono B.out.size))
  clear b1
  have lk : (gzl (y - 500000)).length ≤ 1073741824 := gzl_len _
  go_wp2_with fail
  (with_reducible refine (impl_BigIntToInt _ _ (gzl (y - 500000)) lk _ _ i1).mono ?_)
  rintro e w15 ⟨rfl, b1⟩
  clear i1
  have NA := hid (NA.out.old b1)
  have BX := hid (BX.out.old b1)
  have LX := hid (LX.out.old b1)
  have RX := hid (RX.out.old b1)
  have LR := hid (LR.out.old b1)
  have NB := hid (NB.out.old b1)
  have BY := hid (BY.out.old b1)
  have LY := hid (LY.out.old b1)
  have RY := hid (RY.out.old b1)
  have LS := hid (LS.out.old b1)
  have B := hid (B.out.trans (b1.mono B.out.size))
  clear b1
  rw [bk1, bk2]
  go_wp2_with fail
  (with_reducible refine (cmp_num NA.out NB.out (z := 0) (by rw [Int.sub_self]; simp [sgn])).mono ?_)
  rintro e w16 ⟨rfl, b1⟩
  have NA := hid (NA.out.old b1)
  have BX := hid (BX.out.old b1)
  have LX := hid (LX.out.old b1)
  have RX := hid (RX.out.old b1)
  have LR := hid (LR.out.old b1)
  have NB := hid (NB.out.old b1)
  have BY := hid (BY.out.old b1)
  have LY := hid (LY.out.old b1)
  have RY := hid (RY.out.old b1)
  have LS := hid (LS.out.old b1)
  have B := hid (B.out.trans (b1.mono B.out.size))
  clear b1
  have q0 := LX.out.c 0 rfl
  have q1 := LX.out.c 1 rfl
  have q2 := LY.out.c 0 rfl
  have q3 := LY.out.c 1 rfl
  go_wp2_with fail
  (with_reducible refine (cmp_big BX.out BY.out (z := 0) (by rw [Int.sub_self]; simp [sgn])).mono ?_)
  clear q0 q1 q2 q3
  rintro e w17 ⟨rfl, b1⟩
  have NA := hid (NA.out.old b1)
  have BX := hid (BX.out.old b1)
  have LX := hid (LX.out.old b1)
  have RX := hid (RX.out.old b1)
  have LR := hid (LR.out.old b1)
  have NB := hid (NB.out.old b1)
  have BY := hid (BY.out.old b1)
  have LY := hid (LY.out.old b1)
  have RY := hid (RY.out.old b1)
  have LS := hid (LS.out.old b1)
  have B := hid (B.out.trans (b1.mono B.out.size))
  clear b1
  have q0 := LR.out.c 0 rfl
  have q1 := LR.out.c 1 rfl
  have q2 := LR.out.c 2 rfl
  have q3 := LS.out.c 0 rfl
  have q4 := LS.out.c 1 rfl
  have q5 := LS.out.c 2 rfl
  go_wp2_with fail
  (with_reducible refine (eq_rat RX.out RY.out (z := true) (decide_eq_true rfl)).mono ?_)
  clear q0 q1 q2 q3 q4 q5
  rintro e w18 ⟨rfl, b1⟩
  have NA := hid (NA.out.old b1)
  have BX := hid (BX.out.old b1)
  have LX := hid (LX.out.old b1)
  have RX := hid (RX.out.old b1)
  have LR := hid (LR.out.old b1)
  have NB := hid (NB.out.old b1)
  have BY := hid (BY.out.old b1)
  have LY := hid (LY.out.old b1)
  have RY := hid (RY.out.old b1)
  have LS := hid (LS.out.old b1)
  have B := hid (B.out.trans (b1.mono B.out.size))
  clear b1
  go_wp2
  go_ret
  exact ⟨rfl, B.out⟩
end Go.Proofs.YtmghoedjcokhpaaGreatDoor

/- What the row's listed variables give, and a cell of the library that the walk reads. -/
namespace Go.Proofs.YtmghoedjcokhpaaGreatDoor
open Go.RowKit
theorem met_fnDigits (os : Os) (args : Array Value) : laidMetH Tryz.prog Rows.fnDigitsRow.laid ((World.doorLaid Tryz.prog 400 os).forCall (fun _ _ => 0) ⟨#[], args, []⟩).memory :=
  laidMetH_of_parts3 (fuel := 8) (laidMet_of_run' 8 (by kernel_rfl) (by kernel_rfl)) (by kernel_rfl) (by kernel_rfl)
theorem len_cell {w : World} (h : w.ShapedOpen Tryz.prog) : ∃ m, w.cell? ⟨2, 0, none⟩ = some (.int .i64 m) :=
  cell_of_shapedOpen_int (zero := #[.int .i64 0]) (t := 3) h (of_decide_eq_true (by kernel_rfl)) (by kernel_rfl) rfl (by kernel_rfl) (by kernel_rfl) Tryz.underlying3
theorem tPow : (Tryz.prog.globals[3]?).map (·.type) = some 180 := by kernel_rfl
theorem pow_same : (Rows.laid_internal_strconv_uint64pow10 : DataW Unit) = Lib.tabData .u64 Lib.pow10Tab := by kernel_rfl
theorem gRange : Tryz.prog.globalNamed "strconv.ErrRange" = some 1 := by kernel_rfl
theorem gSyntax : Tryz.prog.globalNamed "strconv.ErrSyntax" = some 0 := by kernel_rfl
theorem tRange : (Tryz.prog.globals[1]?).map (·.type) = some 79 := by kernel_rfl
theorem tSyntax : (Tryz.prog.globals[0]?).map (·.type) = some 79 := by kernel_rfl
theorem heap_of_laid {W : World} (h : Pow10 W) : 3 < W.heap.size := by
  have := h.cell gPow 0 (by decide)
  exact World.block_lt_of_cell? W _ this
theorem err_of_head {W : World} {name nm : String} {d : DataW Unit} {rest : List (String × DataW Unit)} {g : Nat}
    (hg : Tryz.prog.globalNamed name = some g) (hty : (Tryz.prog.globals[g]?).map (·.type) = some 79)
    (h : laidMet Tryz.prog ((name, .iface nm d) :: rest) W) : ErrCell W g := by
  obtain ⟨ps, ⟨g', t', cs, fuel, p, q, hg', ht', hvar, hd, _, _⟩, _⟩ := h
  obtain rfl := Option.some.inj (hg.symm.trans hg')
  obtain rfl := Option.some.inj (hty.symm.trans ht')
  obtain ⟨f1, u, v, hcs, _, _⟩ := iface_of_trod Tryz.underlying79 hd
  have hc := World.var?_cell hg hvar 0
  obtain ⟨l⟩ := cs
  simp at hcs
  subst hcs
  exact ⟨.iface u v, by simpa using hc, .inr ⟨u, v, rfl⟩⟩
theorem facts_of_laid {W : World} (h : laidMetH Tryz.prog Rows.fnDigitsRow.laid W) : ErrCell W 0 ∧ ErrCell W 1 ∧ Pow10 W := by
  rw [MakeChecks.laidMetH_plain _ _ _ (by kernel_rfl)] at h
  have h2 : laidMet Tryz.prog (("internal/strconv.uint64pow10", Lib.tabData .u64 Lib.pow10Tab) :: [("strconv.ErrRange", Rows.laid_strconv_ErrRange), ("strconv.ErrSyntax", Rows.laid_strconv_ErrSyntax)]) W := by
    rw [← pow_same]; exact h.tail.tail
  exact ⟨err_of_head gSyntax tSyntax h2.tail.tail, err_of_head gRange tRange h2.tail, Lib.tabIs_of_head gPow tPow Tryz.underlying180 Tryz.underlying146 (by kernel_rfl) (by kernel_rfl) h2⟩
end Go.Proofs.YtmghoedjcokhpaaGreatDoor
