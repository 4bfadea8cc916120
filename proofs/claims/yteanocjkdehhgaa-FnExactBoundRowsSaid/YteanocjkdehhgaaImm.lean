/- Merged: Imp ToI Imq. -/
import Derived.Test.YteanocjkdehhgaaNam
import Derived.Test.YteanocjkdehhgaaBas
/- The program's sum, difference and product. -/
namespace Go.Proofs.Yteanocjkdehhgaa
open Go.RowKit
open Go.Lib (hid)
set_option linter.unusedVariables false
variable {Q : Rest}

theorem Ints_rebase {w : World} {B B' : Nat} {v : Value} {L : List Int} (h : Ints w B v L) (hb : ∀ k, v.ownBlock = some k → B' ≤ k) : Ints w B' v L := by
  refine ⟨h.1, ?_⟩
  rcases h.2 with g | ⟨b, cap, cur, h1, h2, h3⟩
  · exact .inl g
  · exact .inr ⟨b, cap, cur, h1, hb b (by rw [h1]; rfl), h3⟩
theorem slice_own {w : World} {B : Nat} {v : Value} {L : List Int} (h : Ints w B v L) : ∃ a c, v = .slice a L.length c ∧ RowI w a L.length L ∧ Apart (fun k => w.heap.size ≤ k) a := by
  obtain ⟨a, c, e, -, r, hb⟩ := Ints_form h
  exact ⟨a, c, e, r, fun x hx hs => by have := (hb x hx).2; omega⟩

/-- The result of a method's number: a slice of the call's own. -/
theorem OwnP_res {w w1 : World} {N : Nat} {v u : Value} {M T : List Int} {e : Ending} (hu : u = v ∧ T = M ∧ M.length ≤ 60 ∨ u = .slice none 0 0 ∧ T = [] ∧ 60 < M.length) (h : IsNat Q w1 (fun k => w.heap.size ≤ k) N v M) (hb : Below w.heap.size w w1) {V : Int} (h0 : 0 ≤ V) (hM : M = rep V.toNat)
    (he : e = .returned u) : OwnP (capped V) w e w1 := by
  rcases hu with ⟨rfl, rfl, hl⟩ | ⟨rfl, rfl, hl⟩
  · refine OwnP_mk rfl he ?_ hb
    rw [hM] at hl
    rw [capped_yes hl h0, ← hM]
    exact Ints_rebase h.ints h.own
  · refine OwnP_mk rfl he ?_ hb
    rw [hM] at hl
    rw [capped_no hl h0]
    exact Ints_nil _ _

def addR (A B : List Int) : List Int := if nok A && nok B then capped (val A + val B) else []
theorem addR_no {A B : List Int} (h : nok A = false ∨ nok B = false) : addR A B = [] := by
  unfold addR; rcases h with h | h <;> simp [h]
theorem addR_yes {A B : List Int} (h : nok A = true) (h' : nok B = true) : addR A B = capped (val A + val B) := by simp [addR, h, h']

theorem nok_len {L : List Int} (h : nok L = true) : L.length ≤ 60 := (nok_iff.1 h).1
theorem nok_lim {L : List Int} (h : nok L = true) : Lim L := (nok_iff.1 h).2.1

def subR (A B : List Int) : List Int := if nok A && nok B && decide (val B ≤ val A) then rep (val A - val B).toNat else []
theorem subR_no {A B : List Int} (h : nok A = false ∨ nok B = false ∨ val A < val B) : subR A B = [] := by
  unfold subR
  rcases h with h | h | h
  · simp [h]
  · simp [h]
  · have : ¬ val B ≤ val A := by omega
    simp [this]
theorem subR_yes {A B : List Int} (h : nok A = true) (h' : nok B = true) (h2 : val B ≤ val A) : subR A B = rep (val A - val B).toNat := by simp [subR, h, h', h2]
theorem cmp_nok {A B : List Int} (h : nok A = true) (h' : nok B = true) : (val A < val B → cmpL A B = -1) ∧ (val B < val A → cmpL A B = 1) ∧ (val A = val B → cmpL A B = 0) := by
  rw [cmpL_val (nok_iff.1 h).2 (nok_iff.1 h').2]
  rcases sgn_cases (val A - val B) with ⟨a, b⟩ | ⟨a, b⟩ | ⟨a, b⟩ <;> rw [b] <;> refine ⟨fun _ => ?_, fun _ => ?_, fun _ => ?_⟩ <;> omega
theorem rep_len {V : Int} (h : V < pw 60) : (rep V.toNat).length ≤ 60 := by
  refine (Can_len (Can_rep _)).2 ?_
  rw [val_rep]
  have := pw_pos 60
  omega
theorem capped_of {V : Int} (h : V < pw 60) : capped V = rep V.toNat := by unfold capped; rw [if_pos h]
theorem nok_lt {L : List Int} (h : nok L = true) : val L < pw 60 := (Can_len (nok_iff.1 h).2).1 (nok_len h)

end Go.Proofs.Yteanocjkdehhgaa

/- Numbers into ints. -/
namespace Go.Proofs.Yteanocjkdehhgaa
open Go.RowKit
open Go.Lib (hid)
set_option linter.unusedVariables false

def maxI : Int := 9223372036854775807
def tiB (L : List Int) : Bool := nok L && decide (val L ≤ maxI)
def tiV (L : List Int) : Int := if tiB L then val L else 0
theorem ti_no {L : List Int} (h : nok L = false ∨ maxI < val L) : tiB L = false ∧ tiV L = 0 := by
  have : tiB L = false := by
    unfold tiB
    rcases h with h | h
    · rw [h]; rfl
    · have : ¬ val L ≤ maxI := by omega
      simp [this]
  exact ⟨this, by simp [tiV, this]⟩
theorem ti_yes {L : List Int} (h : nok L = true) (h' : val L ≤ maxI) : tiB L = true ∧ tiV L = val L := by
  have : tiB L = true := by simp [tiB, h, h']
  exact ⟨this, by simp [tiV, this]⟩
theorem val_max : val [854775807, 223372036, 9] = maxI := by decide
theorem Can_max : Can [854775807, 223372036, 9] := by
  refine ⟨fun x hx => ?_, fun h => by simp⟩
  simp at hx
  rcases hx with rfl | rfl | rfl <;> decide
theorem rep_max : rep maxI.toNat = [854775807, 223372036, 9] := by rw [← val_max, rep_val Can_max]
theorem cmp_max {L M : List Int} (hM : M = rep maxI.toNat) (h : nok L = true) : (val L ≤ maxI → cmpL L M ≤ 0) ∧ (maxI < val L → 0 < cmpL L M) := by
  subst hM
  have hc := (nok_iff.1 h).2
  rw [cmpL_val hc (Can_rep _), val_rep]
  have : ((maxI.toNat : Nat) : Int) = maxI := by decide
  rw [this]
  rcases sgn_cases (val L - maxI) with ⟨a, b⟩ | ⟨a, b⟩ | ⟨a, b⟩ <;> rw [b] <;> constructor <;> intro _ <;> omega

def Ret2 (x : Int) (b : Bool) (w : World) (e : Ending) (w' : World) : Prop := e = .returned (.tuple #[.int .i64 x, .bool b]) ∧ Below w.heap.size w w'
theorem Ret2_mk {x y : Int} {b c : Bool} {w w' : World} (h : b = c ∧ x = y) (hb : Below w.heap.size w w') : Ret2 x b w (.returned (.tuple #[.int .i64 y, .bool c])) w' := by
  obtain ⟨rfl, rfl⟩ := h; exact ⟨rfl, hb⟩

theorem below_new {w : World} {o : Go.Obj} : Below w.heap.size w (w.alloc o) := (Below.refl _ _).alloc (Nat.le_refl _) _
theorem Ints_lit3 {w : World} {x y z : Int} : Ints (w.alloc (.cells #[.int .i64 x, .int .i64 y, .int .i64 z] 3)) w.heap.size (.slice (some ⟨w.heap.size, 0, none⟩) 3 3) [x, y, z] :=
  World.ownsRow_lit w #[.int .i64 x, .int .i64 y, .int .i64 z] 3 (Nat.le_refl _) (by decide) rfl

set_option maxRecDepth 100000 in
set_option maxHeartbeats 1600000 in
theorem spec_NatToInt (a : Option Addr) (n c : Nat) (L : List Int) (hL : L.length ≤ 1073741824) (w : World) (h1 : RowI w a n L) :
    Calls Try.prog 133 #[.slice a n c] w (Ret2 (tiV L) (tiB L) w) := by
  have K1 := hid (spec_NatOk a n c L hL w h1)
  have R := hid h1
  have hn := hid h1.1
  clear h1
  obtain ⟨x, hx⟩ : ∃ x, x = tiV L := ⟨_, rfl⟩
  obtain ⟨b, hb⟩ : ∃ b, b = tiB L := ⟨_, rfl⟩
  have HX := hid hx
  have HB := hid hb
  rw [← hb, ← hx]
  clear hb hx
  cases e1 : nok L with
  | false =>
    have hE := hid (ti_no (.inl e1))
    rw [e1] at K1
    clear e1
    go_enter Try.func133, Try.ntmps133
    go_wp2_with fail
    refine K1.out.mono ?_
    rintro e w1 ⟨rfl, rfl⟩
    go_wp2
    go_ret2
    exact Ret2_mk ⟨HB.out.trans hE.out.1, HX.out.trans hE.out.2⟩ (Below.refl _ _)
  | true =>
    have C := hid (cmp_max rep_max.symm e1)
    have HC := hid (nok_iff.1 e1).2
    have hY := hid (ti_yes e1)
    have hN := hid (ti_no (L := L))
    rw [e1] at K1
    clear e1
    have B := hid (below_new (w := w) (o := .cells #[.int .i64 854775807, .int .i64 223372036, .int .i64 9] 3))
    have R1 := hid (RowI_old R.out B.out)
    have O1 := hid (Obj.of (Ints_lit3 (w := w) (x := 854775807) (y := 223372036) (z := 9)))
    have R2 := hid (Ints_form O1.out.ints)
    go_enter Try.func133, Try.ntmps133
    go_wp2_with fail
    refine K1.out.mono ?_
    rintro e w1 ⟨rfl, rfl⟩
    go_wp2_with fail
    generalize w.alloc (.cells #[.int .i64 854775807, .int .i64 223372036, .int .i64 9] 3) = w1 at B R1 O1 R2 ⊢
    obtain ⟨a2, c2, he2, hc2, r2, -⟩ := R2.out
    rw [he2]
    have R2 := hid r2
    clear r2 hc2 he2
    refine (l02Cmp_any _ _ _ _ _ _ L _ hL (by decide) _ R1.out R2.out).mono ?_
    rintro e w2 ⟨rfl, d, rfl⟩
    have B := hid (B.out.trans (below_drewN (Below.refl w.heap.size w1) d))
    have R1 := hid (RowI_drewN R1.out d)
    obtain ⟨z, hz⟩ : ∃ z, z = cmpL L [854775807, 223372036, 9] := ⟨_, rfl⟩
    rw [← hz] at C
    rw [← hz]
    clear hz
    generalize w1.drewN d = w2 at B R1 ⊢
    by_cases hgt : maxI < val L
    · have hz1 := C.out.2 hgt
      have hE := hid (hN.out (.inr hgt))
      clear hgt
      go_wp2
      go_ret2
      exact Ret2_mk ⟨HB.out.trans hE.out.1, HX.out.trans hE.out.2⟩ B.out
    · have hz1 : ¬ 0 < z := by have := C.out.1 (by omega); omega
      have hE := hid (hY.out (by omega))
      have HV := hid (show val L ≤ 9223372036854775807 by unfold maxI at hgt; omega)
      clear hgt
      obtain rfl : n = L.length := hn.out
      have HLim := hid HC.out.1
      have G1 := hid R1.out.2
      go_wp2
      go_loop [4, 5] (fun x i => ∃ (k : Nat) (z : Int), k ≤ L.length ∧ i = .int .i64 ((k : Int) - 1) ∧ x = .int .i64 z ∧ Hid (z = val (L.drop k))) (fun _ i => (intOf i + 1).toNat)
      case atStart => exact ⟨L.length, 0, Nat.le_refl _, rfl, rfl, hid (val_drop_end (Nat.le_refl _)).symm⟩
      case round =>
        obtain ⟨k, z, hk, rfl, rfl, hz⟩ := hrel
        cases k with
        | zero =>
          have hE2 := hid (show z = val L from hz.out)
          go_wp2
          go_ret2
          exact Ret2_mk ⟨HB.out.trans hE.out.1, HX.out.trans (hE.out.2.trans hE2.out.symm)⟩ B.out
        | succ k =>
          have hlt : k < L.length := by omega
          obtain ⟨g1, o1, rfl, -, hc1⟩ := G1.out (by omega)
          clear G1
          have q1 := hc1 k hlt
          clear hc1
          have e1 : ((k + 1 : Nat) : Int) - 1 = k := by omega
          rw [e1]
          clear e1
          have a1 : (0 : Int) ≤ k := by omega
          have a2 : (k : Int) < L.length := by omega
          have hd := val_drop hlt
          have hle := val_drop_le HLim.out k
          have h0 := val_nonneg (Lim_drop HLim.out (k + 1))
          have hx := Lim_at HLim.out hlt
          have hv := HV.out
          rw [← hz.out] at hd h0
          obtain ⟨x, hxe⟩ : ∃ x, x = L[k] := ⟨_, rfl⟩
          rw [← hxe] at q1 hd hx
          clear hxe
          have hb : z * 1000000000 + x ≤ 9223372036854775807 := by omega
          have hb2 : z ≤ 9223372036 := by omega
          have HN := hid (show z * 1000000000 + x = val (L.drop k) by omega)
          clear hd hle hz hv
          go_wp2
          go_round
          case rel => exact ⟨k, _, by omega, rfl, rfl, HN⟩
          case measure => simp [intOf]
end Go.Proofs.Yteanocjkdehhgaa

/- The program's product. -/
namespace Go.Proofs.Yteanocjkdehhgaa
open Go.RowKit
open Go.Lib (hid)
set_option linter.unusedVariables false


def mulR (A B : List Int) : List Int := if nok A && nok B then capped (val A * val B) else []
theorem mulR_no {A B : List Int} (h : nok A = false ∨ nok B = false) : mulR A B = [] := by
  unfold mulR; rcases h with h | h <;> simp [h]
theorem mulR_yes {A B : List Int} (h : nok A = true) (h' : nok B = true) : mulR A B = capped (val A * val B) := by simp [mulR, h, h']
theorem mul_lt {A B : List Int} (hA : Lim A) (hB : Lim B) (nA : A.length ≤ 60) (nB : B.length ≤ 60) (k : Nat) : val (A.take k) * val B < pw 120 ∧ 0 ≤ val (A.take k) * val B := by
  have h1 := val_lt (Lim_take hA k)
  have h2 := val_lt hB
  have h3 := val_nonneg (Lim_take hA k)
  have h4 := val_nonneg hB
  have h5 := pw_le (m := (A.take k).length) (n := 60) (by rw [List.length_take]; omega)
  have h6 := pw_le (m := B.length) (n := 60) (by omega)
  refine ⟨?_, Int.mul_nonneg h3 h4⟩
  have e : pw 120 = pw 60 * pw 60 := pw_add 60 60
  rw [e]
  calc val (A.take k) * val B ≤ val (A.take k) * pw 60 := Int.mul_le_mul_of_nonneg_left (by omega) h3
    _ < pw 60 * pw 60 := Int.mul_lt_mul_of_pos_right (by omega) (pw_pos 60)
theorem rep_len' {V : Int} {n : Nat} (h : V < pw n) : (rep V.toNat).length ≤ n := by
  refine (Can_len (Can_rep _)).2 ?_
  rw [val_rep]
  have := pw_pos n
  omega
theorem val_rep' {V : Int} (h : 0 ≤ V) : val (rep V.toNat) = V := by rw [val_rep]; omega
theorem mul_one_step {A B : List Int} {k : Nat} (hk : k < A.length) : val (A.take k) * val B + A[k] * val B * pw k = val (A.take (k + 1)) * val B := by
  rw [val_take_succ hk]; grind
theorem Ints_make0 {w : World} (c : Nat) (hc : c ≤ maxLen) : Ints (w.alloc (.cells (madeCells #[.int .i64 0] c) 3)) w.heap.size (.slice (some ⟨w.heap.size, 0, none⟩) 0 c) [] :=
  World.ownsRow_made w _ c (Nat.le_refl _) hc (by simp [madeCells])

end Go.Proofs.Yteanocjkdehhgaa
