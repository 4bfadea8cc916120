/- Merged: Wx Fd. -/
import Derived.Test.YtmghoedjcokhpaaWi
import Derived.Test.YtmghoedjcokhpaaWsm
import Derived.Test.YtmghoedjcokhpaaTim
/- The program's integer is given out: its slice lies in the integer's own blocks. -/
namespace Go.Proofs.Ytmghoedjcokhpaa
open Go.RowKit
open Go.Lib (hid)
set_option linter.unusedVariables false
variable {Q : Rest}

/-- A struct is given out whose slice lies in the blocks S. -/
def GivS (S : Nat → Prop) (s : Bool) (L : List Int) (w : World) (e : Ending) (w' : World) : Prop := ∃ u, e = .returned (.agg #[.bool s, u]) ∧ Ints w' 0 u L ∧ (∀ k, u.ownBlock = some k → S k) ∧ Below w.heap.size w w'
theorem GivS_mk {S : Nat → Prop} {s t : Bool} {L M : List Int} {w w' : World} {u : Value} (hs : t = s) (hL : M = L) (h : Ints w' 0 u M) (ho : ∀ k, u.ownBlock = some k → S k) (hb : Below w.heap.size w w') : GivS S s L w (.returned (.agg #[.bool t, u])) w' := by
  subst hs; subst hL; exact ⟨u, rfl, h, ho, hb⟩
set_option maxRecDepth 100000 in
set_option maxHeartbeats 1600000 in
theorem bigInt_set (S : Nat → Prop) (s : Bool) (N : Nat) (v : Value) (V : Int) (h0 : 0 ≤ V) (w : World) (h : IsNat (wholeQ s) w S N v (rep V.toNat)) :
    Calls Try.prog 136 #[.pointer (some ⟨N, 0, none⟩)] w (GivS S (gzs (sval s V)) (gzl (sval s V)) w) := by
  have H := hid (h.old (below_new' (o := .cells #[.bool false, .slice none 0 0] 43)))
  have hl := Ints_len h.ints
  have K := hid (result_any (Q := wholeQ s) S N v (rep V.toNat) _ H.out)
  have BB := hid (below_new' (w := w) (o := .cells #[.bool false, .slice none 0 0] 43))
  have L0 := hid (Loc.new (w := w) (T := 43) (s := false) (v := .slice none 0 0))
  obtain ⟨ss, hs⟩ : ∃ t, t = gzs (sval s V) := ⟨_, rfl⟩
  obtain ⟨ll, hll⟩ : ∃ t, t = gzl (sval s V) := ⟨_, rfl⟩
  rw [← hs, ← hll]
  have HS := hid hs
  have HL := hid hll
  have hne : V ≠ 0 → 0 < (rep V.toNat).length := fun h => List.length_pos_iff.2 (rep_ne (by omega))
  have hno : V = 0 → rep V.toNat = [] := fun h => by subst h; exact rep_zero
  have hbig : 60 < (rep V.toNat).length ↔ pw 60 ≤ V := by
    have := Can_len (Can_rep V.toNat) (k := 60)
    rw [val_rep' h0] at this
    omega
  have hsl : ∃ a c, v = .slice a (rep V.toNat).length c := by
    obtain ⟨a, c, e, -⟩ := Ints_form h.ints
    exact ⟨a, c, e⟩
  obtain ⟨M, hM⟩ : ∃ M, M = rep V.toNat := ⟨_, rfl⟩
  rw [← hM] at K H hl hne hno hbig hsl
  have HM := hid hM
  have HNO := hid hno
  have HBIG := hid hbig
  have HNE := hid hne
  clear hM hs hll h hno hbig hne
  unfold maxLen at hl
  obtain ⟨a, c, rfl⟩ := hsl
  go_enter Try.func136, Try.ntmps136
  go_wp2_with fail
  generalize w.alloc (.cells #[.bool false, .slice none 0 0] 43) = W at H K BB L0 ⊢
  refine K.out.mono ?_
  rintro e w1 ⟨⟨u, T, rfl, hu⟩, rfl⟩
  have q0 := L0.out.c0
  have q1 := L0.out.c1
  have f0 := L0.out.f0 0
  have f1 := L0.out.f0 1
  have B2 := hid (show Below w.heap.size w ((W.setCell ⟨w.heap.size, 0, none⟩ (.bool false)).setCell ⟨w.heap.size, 1, none⟩ (.slice none 0 0)) from (BB.out.setCell (by simp) _).setCell (by simp) _)
  rcases hu with ⟨rfl, hT, h6⟩ | ⟨rfl, hT, h6⟩
  · obtain rfl : M = T := hT.symm
    by_cases hz : M.length = 0
    · have hz' : ((M.length : Int) == 0) = true := by rw [hz]; rfl
      have R := hid (show GivS S ss ll w (.returned (.agg #[.bool false, .slice none 0 0])) ((W.setCell ⟨w.heap.size, 0, none⟩ (.bool false)).setCell ⟨w.heap.size, 1, none⟩ (.slice none 0 0)) from by
        have hV : V = 0 := Classical.byContradiction fun h => by have := HNE.out h; omega
        refine GivS_mk ?_ ?_ (Ints_nil _ _) (fun k hk => by simp [Value.ownBlock] at hk) B2.out
        · rw [HS.out, hV]; cases s <;> simp [sval, gzs]
        · rw [HL.out, hV]; cases s <;> simp [sval, gzl_zero])
      clear hz
      go_wp2
      exact bodyPost_ret (v := .agg #[.bool false, .slice none 0 0]) (by simp [results, Try.results136, go_sem, q0, q1]) rfl R.out
    · have hz' : ((M.length : Int) == 0) = false := beq_eq_false_iff_ne.2 (by omega)
      have hn := H.out.neg
      have HZ := hid hz
      have B3 := hid (show Below w.heap.size w ((W.setCell ⟨w.heap.size, 0, none⟩ (.bool s)).setCell ⟨w.heap.size, 1, none⟩ (.slice a M.length c)) from (BB.out.setCell (by simp) _).setCell (by simp) _)
      have n1 := L0.out.ne (by decide) H.out.ints
      have R := hid (show GivS S ss ll w (.returned (.agg #[.bool s, .slice a M.length c])) ((W.setCell ⟨w.heap.size, 0, none⟩ (.bool s)).setCell ⟨w.heap.size, 1, none⟩ (.slice a M.length c)) from by
        have hV : V ≠ 0 := fun h => HZ.out (by rw [HNO.out h]; rfl)
        have hlt : V < pw 60 := by have := HBIG.out; omega
        refine GivS_mk ?_ ?_ (Ints_set (Ints_set H.out.ints n1) n1) H.out.own B3.out
        · rw [HS.out, gzs_sval (by omega) hlt]
        · rw [HL.out, gzl_sval h0, capped_of hlt, HM.out])
      clear hz n1
      go_wp2
      exact bodyPost_ret (v := .agg #[.bool s, .slice a M.length c]) (by simp [results, Try.results136, go_sem, q0, q1]) rfl R.out
  · obtain rfl : [] = T := hT.symm
    have R := hid (show GivS S ss ll w (.returned (.agg #[.bool false, .slice none 0 0])) ((W.setCell ⟨w.heap.size, 0, none⟩ (.bool false)).setCell ⟨w.heap.size, 1, none⟩ (.slice none 0 0)) from by
      have hV : pw 60 ≤ ((sval s V).natAbs : Int) := by rw [sval_abs h0]; exact HBIG.out.1 h6
      exact GivS_mk (by rw [HS.out, gzs_big hV]) (by rw [HL.out, gzl_big hV]) (Ints_nil _ _) (fun k hk => by simp [Value.ownBlock] at hk) B2.out)
    go_wp2
    exact bodyPost_ret (v := .agg #[.bool false, .slice none 0 0]) (by simp [results, Try.results136, go_sem, q0, q1]) rfl R.out
end Go.Proofs.Ytmghoedjcokhpaa

/- Floor division: the arithmetic; the program's BigIntFloorDiv. -/
namespace Go.Proofs.Ytmghoedjcokhpaa
open Go.RowKit
open Go.Lib (hid)
set_option linter.unusedVariables false

def fdB (s : Bool) (A M : List Int) : Bool := bok s A && nok M && !M.isEmpty
def fdQ (s : Bool) (A M : List Int) : Int := if fdB s A M then sval s (val A) / val M else 0
def fdR (s : Bool) (A M : List Int) : List Int := if fdB s A M then rep (sval s (val A) % val M).toNat else []
theorem fd_no {s : Bool} {A M : List Int} (h : bok s A = false ∨ nok M = false ∨ M = []) : fdQ s A M = 0 ∧ fdR s A M = [] := by
  have : fdB s A M = false := by
    unfold fdB
    rcases h with h | h | h
    · simp [h]
    · simp [h]
    · subst h; simp
  unfold fdQ fdR
  rw [this]
  exact ⟨rfl, rfl⟩
theorem fd_yes {s : Bool} {A M : List Int} (h : bok s A = true) (h' : nok M = true) (h2 : M ≠ []) : fdQ s A M = sval s (val A) / val M ∧ fdR s A M = rep (sval s (val A) % val M).toNat := by
  have : fdB s A M = true := by unfold fdB; cases M <;> simp_all
  unfold fdQ fdR
  rw [this]
  exact ⟨rfl, rfl⟩
theorem fd_pos {V m : Int} : sval false V / m = V / m ∧ sval false V % m = V % m := ⟨rfl, rfl⟩
theorem fd_exact {V m : Int} (hm : 0 < m) (h : V % m = 0) : sval true V / m = sval true (V / m) ∧ sval true V % m = 0 := by
  have h1 := Int.emod_add_ediv_mul V m
  have hd := div_done (a := sval true V) (b := m) (q := -(V / m)) (r := 0) hm (by unfold sval; rw [if_pos rfl, Int.mul_neg, Int.mul_comm]; omega) (by omega) hm
  exact ⟨by rw [← hd.1]; rfl, hd.2.symm⟩
theorem fd_up {V m : Int} (hm : 0 < m) (h : V % m ≠ 0) : sval true V / m = sval true (V / m + 1) ∧ sval true V % m = m - V % m := by
  have h1 := Int.emod_add_ediv_mul V m
  have h2 := Int.emod_nonneg V (show m ≠ 0 by omega)
  have h3 := Int.emod_lt_of_pos V hm
  have hd := div_done (a := sval true V) (b := m) (q := -(V / m + 1)) (r := m - V % m) hm (by unfold sval; rw [if_pos rfl, Int.mul_neg, Int.mul_add, Int.mul_comm m (V / m)]; omega) (by omega) (by omega)
  exact ⟨by rw [← hd.1]; rfl, hd.2.symm⟩
theorem val_pos {M : List Int} (h : nok M = true) (h2 : M ≠ []) : 0 < val M := by
  have h3 := Can_ge (nok_iff.1 h).2 h2
  have := pw_pos (M.length - 1)
  omega
/-- The quotient's struct and the remainder: of the call's own, apart. -/
def FdP (q : Bool) (Q R : List Int) (w : World) (e : Ending) (w' : World) : Prop := ∃ v u, e = .returned (.tuple #[.agg #[.bool q, v], u]) ∧ Ints w' w.heap.size v Q ∧ Ints w' w.heap.size u R ∧ (∀ k, v.ownBlock = some k → u.ownBlock ≠ some k) ∧ Below w.heap.size w w'
theorem FdP_mk {q q' : Bool} {Q R Q' R' : List Int} {w w' : World} {v u : Value} (hq : q' = q) (hQ : Q' = Q) (hR : R' = R) (h1 : Ints w' w.heap.size v Q') (h2 : Ints w' w.heap.size u R') (hd : ∀ k, v.ownBlock = some k → u.ownBlock ≠ some k) (hb : Below w.heap.size w w') :
    FdP q Q R w (.returned (.tuple #[.agg #[.bool q', v], u])) w' := by subst hq; subst hQ; subst hR; exact ⟨v, u, rfl, h1, h2, hd, hb⟩

end Go.Proofs.Ytmghoedjcokhpaa
