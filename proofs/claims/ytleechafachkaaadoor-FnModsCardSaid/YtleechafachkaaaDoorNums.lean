/- The program's functions in the laws' words: slices that are numbers, by their values. -/
import Derived.Test.YtleechafachkaaaDoorImq
import Derived.Test.YtleechafachkaaaDoorMk
namespace Go.Proofs.YtleechafachkaaaDoor
open Go.RowKit
open Go.Lib (hid)
set_option linter.unusedVariables false

/-- A slice of the law's own is the number V. -/
def NumO (w : World) (v : Value) (V : Int) : Prop := ∃ L lo hi, Obj w v L lo hi ∧ nok L = true ∧ val L = V
theorem NumO.old {w w' : World} {v : Value} {V : Int} (h : NumO w v V) (hb : Below w.heap.size w w') : NumO w' v V := by
  obtain ⟨L, lo, hi, o, a, b⟩ := h
  exact ⟨L, lo, hi, o.old hb, a, b⟩
def NumP (V : Int) (w : World) (e : Ending) (w' : World) : Prop := ∃ v, e = .returned v ∧ NumO w' v V ∧ Below w.heap.size w w'
theorem NumP_of {L : List Int} {V : Int} {w w' : World} {e : Ending} (h : OwnP L w e w') (hn : nok L = true) (hv : val L = V) : NumP V w e w' := by
  obtain ⟨v, he, hi, hb⟩ := h
  exact ⟨v, he, ⟨L, _, _, Obj.of hi, hn, hv⟩, hb⟩
theorem nok_rep {V : Int} (h0 : 0 ≤ V) (h : V < pw 60) : nok (rep V.toNat) = true ∧ val (rep V.toNat) = V := ⟨nok_iff.2 ⟨rep_len h, Can_rep _⟩, val_rep' h0⟩
theorem NumO.nonneg {w : World} {v : Value} {V : Int} (h : NumO w v V) : 0 ≤ V ∧ V < pw 60 := by
  obtain ⟨L, _, _, _, a, b⟩ := h
  have h1 := val_nonneg (nok_lim a)
  have h2 := nok_lt a
  omega
theorem nok_big {L : List Int} (h : nok L = true) : L.length ≤ 1073741824 := by have := nok_len h; omega
theorem add_num {v u : Value} {X Y : Int} {w : World} (h1 : NumO w v X) (h2 : NumO w u Y) (hb : X + Y < pw 60) : Calls Tryd.prog 16 #[v, u] w (NumP (X + Y) w) := by
  have n1 := h1.nonneg
  have n2 := h2.nonneg
  obtain ⟨A, l1, u1, o1, a1, rfl⟩ := h1
  obtain ⟨B, l2, u2, o2, a2, rfl⟩ := h2
  refine (impl_NatAdd v u A B (nok_big a1) (nok_big a2) _ _ w o1.ints o2.ints).mono fun e w' h => ?_
  rw [addR_yes a1 a2, capped_of hb] at h
  have hr := nok_rep (V := val A + val B) (by omega) hb
  exact NumP_of h hr.1 hr.2
theorem mul_num {v u : Value} {X Y : Int} {w : World} (h1 : NumO w v X) (h2 : NumO w u Y) (hb : X * Y < pw 60) : Calls Tryd.prog 32 #[v, u] w (NumP (X * Y) w) := by
  have n1 := h1.nonneg
  have n2 := h2.nonneg
  obtain ⟨A, l1, u1, o1, a1, rfl⟩ := h1
  obtain ⟨B, l2, u2, o2, a2, rfl⟩ := h2
  refine (impl_NatMul v u A B (nok_big a1) (nok_big a2) _ _ w o1.ints o2.ints).mono fun e w' h => ?_
  rw [mulR_yes a1 a2, capped_of hb] at h
  have hr := nok_rep (V := val A * val B) (Int.mul_nonneg n1.1 n2.1) hb
  exact NumP_of h hr.1 hr.2
theorem sub_num {v u : Value} {X Y : Int} {w : World} (h1 : NumO w v X) (h2 : NumO w u Y) (hb : Y ≤ X) : Calls Tryd.prog 44 #[v, u] w (NumP (X - Y) w) := by
  have n1 := h1.nonneg
  have n2 := h2.nonneg
  obtain ⟨A, l1, u1, o1, a1, rfl⟩ := h1
  obtain ⟨B, l2, u2, o2, a2, rfl⟩ := h2
  refine (impl_NatSub v u A B (nok_big a1) (nok_big a2) _ _ w o1.ints o2.ints).mono fun e w' h => ?_
  rw [subR_yes a1 a2 hb] at h
  have hr := nok_rep (V := val A - val B) (by omega) (by omega)
  exact NumP_of h hr.1 hr.2
theorem of_num {n : Int} (h0 : 0 ≤ n) (h1 : n ≤ 9223372036854775807) (w : World) : Calls Tryd.prog 37 #[.int .i64 n] w (NumP n w) := by
  refine (impl_NatOf n h1 w).mono fun e w' h => ?_
  have hb : n < pw 60 := by
    have := pw_le (m := 3) (n := 60) (by omega)
    have e3 : pw 3 = 1000000000000000000000000000 := by decide
    omega
  have hr := nok_rep h0 hb
  exact NumP_of h hr.1 hr.2
theorem ok_num {v : Value} {X : Int} {w : World} (h1 : NumO w v X) : Calls Tryd.prog 20 #[v] w (RetB (.bool true) w) := by
  obtain ⟨A, l1, u1, o1, a1, rfl⟩ := h1
  refine obj1 (R := RetB (.bool true)) (fun a n c r => ?_) o1
  have := impl_NatOk a n c A (nok_big a1) w r
  rw [a1] at this
  exact RetB_of_same this
theorem cmp_num {v u : Value} {X Y z : Int} {w : World} (h1 : NumO w v X) (h2 : NumO w u Y) (hz : z = sgn (X - Y)) : Calls Tryd.prog 19 #[v, u] w (RetB (.int .i64 z) w) := by
  obtain ⟨A, l1, u1, o1, a1, rfl⟩ := h1
  obtain ⟨B, l2, u2, o2, a2, rfl⟩ := h2
  subst hz
  rw [← cmpL_val (nok_iff.1 a1).2 (nok_iff.1 a2).2, ← cmpC_yes a1 a2]
  exact RetB_of_drew (obj2 (R := Drew (.int .i64 (cmpC A B))) (fun a b n m c d r1 r2 => impl_NatCmp a b n m c d A B (nok_big a1) (nok_big a2) w r1 r2) o1 o2)
theorem sgn_zero {X Y : Int} (h : X = Y) : 0 = sgn (X - Y) := by subst h; simp [sgn]
theorem sgn_one {X Y : Int} (h : Y < X) : 1 = sgn (X - Y) := by unfold sgn; rw [if_neg (by omega), if_pos (by omega)]
theorem sgn_neg {X Y : Int} (h : X < Y) : -1 = sgn (X - Y) := by unfold sgn; rw [if_pos (by omega)]

/-- MakeNat in these words: a number below B^4. -/
def DrawnN (w : World) (e : Ending) (w' : World) : Prop := ∃ v X, e = .returned v ∧ 0 ≤ X ∧ X < pw 4 ∧ NumO w' v X ∧ Below w.heap.size w w'
theorem make_num (a : Option Addr) (n c : Nat) (Z : List Int) (t : Int) (hZ : Z.length ≤ 1048576) (w : World) (hr : ByteRow w a n Z) (t0 : 0 ≤ t) (t1 : t ≤ 1000) :
    Calls Tryd.prog 17 #[.slice a n c, .int .i64 t] w (DrawnN w) := by
  refine (MakeNat_any a n c Z t hZ w hr t0 t1).mono fun e w' h => ?_
  obtain ⟨L, hL, hl, v, he, hi, hb⟩ := h
  exact ⟨v, val L, he, val_nonneg hL.1, (Can_len hL).1 hl, ⟨L, _, _, Obj.of hi, nok_iff.2 ⟨by omega, hL⟩, rfl⟩, hb⟩
theorem mul_bd {x y P Q : Int} (hx0 : 0 ≤ x) (hx : x < P) (hy0 : 0 ≤ y) (hy : y < Q) : 0 ≤ x * y ∧ x * y < P * Q := by
  refine ⟨Int.mul_nonneg hx0 hy0, ?_⟩
  calc x * y ≤ x * Q := Int.mul_le_mul_of_nonneg_left (by omega) hx0
    _ < P * Q := Int.mul_lt_mul_of_pos_right hx (by omega)
theorem pw_big : pw 4 * pw 4 = pw 8 ∧ pw 4 * pw 5 = pw 9 ∧ pw 4 + pw 4 < pw 5 ∧ pw 8 + pw 8 < pw 60 ∧ pw 9 < pw 60 ∧ pw 5 + 1 < pw 60 := by decide

theorem ByteRow_came {w : World} {a : Option Addr} {len cap : Nat} {zs : List Int}
    (h : (a = none ∧ len = 0 ∧ cap = 0 ∧ zs = []) ∨ ∃ x, a = some x ∧ len ≤ cap ∧ cap ≤ maxLen ∧ zs.length = cap ∧ (∀ i, i < zs.length → w.cell? (x.add i) = some (.int .u8 (zs.getD i 0))) ∧ ∀ n ∈ zs, (Lit.int .u8 n).wf = true) :
    ∃ Z, ByteRow w a len Z ∧ len ≤ maxLen := by
  rcases h with ⟨rfl, rfl, rfl, rfl⟩ | ⟨x, rfl, hl, hm, hz, hc, hw⟩
  · exact ⟨[], ⟨rfl, (fun z h => by cases h), (fun h => by cases h)⟩, by unfold maxLen; omega⟩
  · have hlen : (zs.take len).length = len := by simp; omega
    refine ⟨zs.take len, ⟨hlen.symm, fun z hz => ?_, fun h0 => ?_⟩, by omega⟩
    · have h := hw z (List.mem_of_mem_take hz)
      simp only [Lit.wf, Bool.and_eq_true, decide_eq_true_eq] at h
      exact h
    obtain ⟨g, o, spot⟩ := x
    have hs : spot = none := by
      have := hc 0 (by omega)
      simpa [Addr.add] using World.cell?_spot this
    subst hs
    have hat : ∀ i, i < zs.length → w.cell? ⟨g, o + i, none⟩ = some (.int .u8 (zs.getD i 0)) := fun i hi => by rw [← Go.WideShapes.add_plain]; exact hc i hi
    refine ⟨g, o, rfl, World.block_lt_of_cell? w ⟨g, o + 0, none⟩ (hat 0 (by omega)), fun i hi => ?_⟩
    have hi' : i < zs.length := by omega
    rw [hat i hi', List.getElem_take]
    simp [hi']

end Go.Proofs.YtleechafachkaaaDoor
