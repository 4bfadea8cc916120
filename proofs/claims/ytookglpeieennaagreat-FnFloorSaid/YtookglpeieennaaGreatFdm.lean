/- Merged: Wx Fd. -/
import Derived.Test.YtookglpeieennaaGreatWi
import Derived.Test.YtookglpeieennaaGreatWsm
import Derived.Test.YtookglpeieennaaGreatTim
/- The program's integer is given out: its slice lies in the integer's own blocks. -/
namespace Go.Proofs.YtookglpeieennaaGreat
open Go.RowKit
open Go.Lib (hid)
set_option linter.unusedVariables false
variable {Q : Rest}

/-- A struct is given out whose slice lies in the blocks S. -/
def GivS (S : Nat → Prop) (s : Bool) (L : List Int) (w : World) (e : Ending) (w' : World) : Prop := ∃ u, e = .returned (.agg #[.bool s, u]) ∧ Ints w' 0 u L ∧ (∀ k, u.ownBlock = some k → S k) ∧ Below w.heap.size w w'
theorem GivS_mk {S : Nat → Prop} {s t : Bool} {L M : List Int} {w w' : World} {u : Value} (hs : t = s) (hL : M = L) (h : Ints w' 0 u M) (ho : ∀ k, u.ownBlock = some k → S k) (hb : Below w.heap.size w w') : GivS S s L w (.returned (.agg #[.bool t, u])) w' := by
  subst hs; subst hL; exact ⟨u, rfl, h, ho, hb⟩
set_option maxRecDepth 100000 in
set_option maxHeartbeats 1600000 in
theorem bigInt_set (S : Nat → Prop) (s : Bool) (N : Nat) (v : Value) (V : Int) (h0 : 0 ≤ V) (w : World) (h : IsNat (wholeQ s) w S N v (rep V.toNat)) :
    Calls Tryz.prog 99 #[.pointer (some ⟨N, 0, none⟩)] w (GivS S (gzs (sval s V)) (gzl (sval s V)) w) := by
  have H := hid (h.old (below_new' (o := .cells #[.bool false, .slice none 0 0] 25)))
  have hl := Ints_len h.ints
  have K := hid (result_any (Q := wholeQ s) S N v (rep V.toNat) _ H.out)
  have BB := hid (below_new' (w := w) (o := .cells #[.bool false, .slice none 0 0] 25))
  have L0 := hid (Loc.new (w := w) (T := 25) (s := false) (v := .slice none 0 0))
  obtain ⟨ss, hs⟩ : ∃ t, t = gzs (sval s V) := ⟨_, rfl⟩
  obtain ⟨ll, hll⟩ : ∃ t, t = gzl (sval s V) := ⟨_, rfl⟩
  rw [← hs, ← hll]
  have HS := hid hs
  have HL := hid hll
  have hne : V ≠ 0 → 0 < (rep V.toNat).length := fun h => List.length_pos_iff.2 (rep_ne (by omega))
  have hno : V = 0 → rep V.toNat = [] := fun h => by subst h; exact rep_zero
  have hbig : 60 < (rep V.toNat).length ↔ pw 60 ≤ V := by
    have := Can_len (Can_rep V.toNat) (k := 60)
    rw [val_rep' h0] at this
    omega
  have hsl : ∃ a c, v = .slice a (rep V.toNat).length c := by
    obtain ⟨a, c, e, -⟩ := Ints_form h.ints
    exact ⟨a, c, e⟩
  obtain ⟨M, hM⟩ : ∃ M, M = rep V.toNat := ⟨_, rfl⟩
  rw [← hM] at K H hl hne hno hbig hsl
  have HM := hid hM
  have HNO := hid hno
  have HBIG := hid hbig
  have HNE := hid hne
  clear hM hs hll h hno hbig hne
  unfold maxLen at hl
  obtain ⟨a, c, rfl⟩ := hsl
  go_enter Tryz.func99, Tryz.ntmps99
  go_wp2_with fail
  generalize w.alloc (.cells #[.bool false, .slice none 0 0] 25) = W at H K BB L0 ⊢
  refine K.out.mono ?_
  rintro e w1 ⟨⟨u, T, rfl, hu⟩, rfl⟩
  have q0 := L0.out.c0
  have q1 := L0.out.c1
  have f0 := L0.out.f0 0
  have f1 := L0.out.f0 1
  have B2 := hid (show Below w.heap.size w ((W.setCell ⟨w.heap.size, 0, none⟩ (.bool false)).setCell ⟨w.heap.size, 1, none⟩ (.slice none 0 0)) from (BB.out.setCell (by simp) _).setCell (by simp) _)
  rcases hu with ⟨rfl, hT, h6⟩ | ⟨rfl, hT, h6⟩
  · obtain rfl : M = T := hT.symm
    by_cases hz : M.length = 0
    · have hz' : ((M.length : Int) == 0) = true := by rw [hz]; rfl
      have R := hid (show GivS S ss ll w (.returned (.agg #[.bool false, .slice none 0 0])) ((W.setCell ⟨w.heap.size, 0, none⟩ (.bool false)).setCell ⟨w.heap.size, 1, none⟩ (.slice none 0 0)) from by
        have hV : V = 0 := Classical.byContradiction fun h => by have := HNE.out h; omega
        refine GivS_mk ?_ ?_ (Ints_nil _ _) (fun k hk => by simp [Value.ownBlock] at hk) B2.out
        · rw [HS.out, hV]; cases s <;> simp [sval, gzs]
        · rw [HL.out, hV]; cases s <;> simp [sval, gzl_zero])
      clear hz
      go_wp2
      exact bodyPost_ret (v := .agg #[.bool false, .slice none 0 0]) (by simp [results, Tryz.results99, go_sem, q0, q1]) rfl R.out
    · have hz' : ((M.length : Int) == 0) = false := beq_eq_false_iff_ne.2 (by omega)
      have hn := H.out.neg
      have HZ := hid hz
      have B3 := hid (show Below w.heap.size w ((W.setCell ⟨w.heap.size, 0, none⟩ (.bool s)).setCell ⟨w.heap.size, 1, none⟩ (.slice a M.length c)) from (BB.out.setCell (by simp) _).setCell (by simp) _)
      have n1 := L0.out.ne (by decide) H.out.ints
      have R := hid (show GivS S ss ll w (.returned (.agg #[.bool s, .slice a M.length c])) ((W.setCell ⟨w.heap.size, 0, none⟩ (.bool s)).setCell ⟨w.heap.size, 1, none⟩ (.slice a M.length c)) from by
        have hV : V ≠ 0 := fun h => HZ.out (by rw [HNO.out h]; rfl)
        have hlt : V < pw 60 := by have := HBIG.out; omega
        refine GivS_mk ?_ ?_ (Ints_set (Ints_set H.out.ints n1) n1) H.out.own B3.out
        · rw [HS.out, gzs_sval (by omega) hlt]
        · rw [HL.out, gzl_sval h0, capped_of hlt, HM.out])
      clear hz n1
      go_wp2
      exact bodyPost_ret (v := .agg #[.bool s, .slice a M.length c]) (by simp [results, Tryz.results99, go_sem, q0, q1]) rfl R.out
  · obtain rfl : [] = T := hT.symm
    have R := hid (show GivS S ss ll w (.returned (.agg #[.bool false, .slice none 0 0])) ((W.setCell ⟨w.heap.size, 0, none⟩ (.bool false)).setCell ⟨w.heap.size, 1, none⟩ (.slice none 0 0)) from by
      have hV : pw 60 ≤ ((sval s V).natAbs : Int) := by rw [sval_abs h0]; exact HBIG.out.1 h6
      exact GivS_mk (by rw [HS.out, gzs_big hV]) (by rw [HL.out, gzl_big hV]) (Ints_nil _ _) (fun k hk => by simp [Value.ownBlock] at hk) B2.out)
    go_wp2
    exact bodyPost_ret (v := .agg #[.bool false, .slice none 0 0]) (by simp [results, Tryz.results99, go_sem, q0, q1]) rfl R.out
end Go.Proofs.YtookglpeieennaaGreat

/- Floor division: the arithmetic; the program's BigIntFloorDiv. -/
namespace Go.Proofs.YtookglpeieennaaGreat
open Go.RowKit
open Go.Lib (hid)
set_option linter.unusedVariables false

def fdB (s : Bool) (A M : List Int) : Bool := bok s A && nok M && !M.isEmpty
def fdQ (s : Bool) (A M : List Int) : Int := if fdB s A M then sval s (val A) / val M else 0
def fdR (s : Bool) (A M : List Int) : List Int := if fdB s A M then rep (sval s (val A) % val M).toNat else []
theorem fd_no {s : Bool} {A M : List Int} (h : bok s A = false ∨ nok M = false ∨ M = []) : fdQ s A M = 0 ∧ fdR s A M = [] := by
  have : fdB s A M = false := by
    unfold fdB
    rcases h with h | h | h
    · simp [h]
    · simp [h]
    · subst h; simp
  unfold fdQ fdR
  rw [this]
  exact ⟨rfl, rfl⟩
theorem fd_yes {s : Bool} {A M : List Int} (h : bok s A = true) (h' : nok M = true) (h2 : M ≠ []) : fdQ s A M = sval s (val A) / val M ∧ fdR s A M = rep (sval s (val A) % val M).toNat := by
  have : fdB s A M = true := by unfold fdB; cases M <;> simp_all
  unfold fdQ fdR
  rw [this]
  exact ⟨rfl, rfl⟩
theorem fd_pos {V m : Int} : sval false V / m = V / m ∧ sval false V % m = V % m := ⟨rfl, rfl⟩
theorem fd_exact {V m : Int} (hm : 0 < m) (h : V % m = 0) : sval true V / m = sval true (V / m) ∧ sval true V % m = 0 := by
  have h1 := Int.emod_add_ediv_mul V m
  have hd := div_done (a := sval true V) (b := m) (q := -(V / m)) (r := 0) hm (by unfold sval; rw [if_pos rfl, Int.mul_neg, Int.mul_comm]; omega) (by omega) hm
  exact ⟨by rw [← hd.1]; rfl, hd.2.symm⟩
theorem fd_up {V m : Int} (hm : 0 < m) (h : V % m ≠ 0) : sval true V / m = sval true (V / m + 1) ∧ sval true V % m = m - V % m := by
  have h1 := Int.emod_add_ediv_mul V m
  have h2 := Int.emod_nonneg V (show m ≠ 0 by omega)
  have h3 := Int.emod_lt_of_pos V hm
  have hd := div_done (a := sval true V) (b := m) (q := -(V / m + 1)) (r := m - V % m) hm (by unfold sval; rw [if_pos rfl, Int.mul_neg, Int.mul_add, Int.mul_comm m (V / m)]; omega) (by omega) (by omega)
  exact ⟨by rw [← hd.1]; rfl, hd.2.symm⟩
theorem val_pos {M : List Int} (h : nok M = true) (h2 : M ≠ []) : 0 < val M := by
  have h3 := Can_ge (nok_iff.1 h).2 h2
  have := pw_pos (M.length - 1)
  omega
/-- The quotient's struct and the remainder: of the call's own, apart. -/
def FdP (q : Bool) (Q R : List Int) (w : World) (e : Ending) (w' : World) : Prop := ∃ v u, e = .returned (.tuple #[.agg #[.bool q, v], u]) ∧ Ints w' w.heap.size v Q ∧ Ints w' w.heap.size u R ∧ (∀ k, v.ownBlock = some k → u.ownBlock ≠ some k) ∧ Below w.heap.size w w'
theorem FdP_mk {q q' : Bool} {Q R Q' R' : List Int} {w w' : World} {v u : Value} (hq : q' = q) (hQ : Q' = Q) (hR : R' = R) (h1 : Ints w' w.heap.size v Q') (h2 : Ints w' w.heap.size u R') (hd : ∀ k, v.ownBlock = some k → u.ownBlock ≠ some k) (hb : Below w.heap.size w w') :
    FdP q Q R w (.returned (.tuple #[.agg #[.bool q', v], u])) w' := by subst hq; subst hQ; subst hR; exact ⟨v, u, rfl, h1, h2, hd, hb⟩

set_option maxRecDepth 100000 in
set_option maxHeartbeats 6400000 in
theorem impl_BigIntFloorDiv (s : Bool) (v u : Value) (A M : List Int) (hA : A.length ≤ 1073741824) (hM : M.length ≤ 1073741824) (b1 b2 : Nat) (w : World) (h1 : Ints w b1 v A) (h2 : Ints w b2 u M) :
    Calls Tryz.prog 133 #[.agg #[.bool s, v], u] w (FdP (gzs (fdQ s A M)) (gzl (fdQ s A M)) (fdR s A M) w) := by
  obtain ⟨Z, hZ⟩ : ∃ Z, Z = fdQ s A M := ⟨_, rfl⟩
  obtain ⟨R, hR⟩ : ∃ R, R = fdR s A M := ⟨_, rfl⟩
  have HZ := hid hZ
  have HR := hid hR
  rw [← hZ, ← hR]
  clear hZ hR
  obtain ⟨gs, hgs⟩ : ∃ g, g = gzs Z := ⟨_, rfl⟩
  rw [← hgs]
  have HGS := hid hgs
  clear hgs
  have KA := hid (fun (W : World) (h : Ints W b1 v A) => impl_BigIntOk_own s v A hA b1 W h)
  have B0 := hid (W2_below (w := w) (s := s) (v := v) (T := 25))
  have L1 := hid (W2_1 (w := w) (s := s) (v := v) (T := 25))
  have L0 := hid (W2_2 (w := w) (s := s) (v := v) (T := 25))
  have I1 := hid (Ints_old h1 B0.out)
  have I2 := hid (Ints_old h2 B0.out)
  obtain ⟨a, c, rfl, -⟩ := Ints_form h1
  obtain ⟨a', c', rfl, -⟩ := Ints_form h2
  have KB := hid (fun (W : World) (h : Ints W b2 (.slice a' M.length c') M) => impl_NatOk a' M.length c' M hM W (Ints_rowW h))
  clear h1 h2
  cases e1 : bok s A with
  | false =>
    have hE := hid (fd_no (s := s) (A := A) (M := M) (.inl e1))
    rw [e1] at KA
    clear e1
    go_enter Tryz.func133, Tryz.ntmps133
    go_wp2_with fail
    change Calls _ _ _ (W2 w s (.slice a A.length c) 25) _
    (with_reducible refine (KA.out _ I1.out).mono ?_)
    rintro e w1 ⟨rfl, b1⟩
    have B0 := hid (B0.out.trans (b1.mono B0.out.size))
    have L0 := hid (L0.out.old b1)
    clear b1
    have f0 := L0.out.f0 0
    have f1 := L0.out.f0 1
    have p0 := L0.out.c0
    have p1 := L0.out.c1
    have BB := hid (show Below w.heap.size w ((w1.setCell ⟨w.heap.size + 1, 0, none⟩ (.bool false)).setCell ⟨w.heap.size + 1, 1, none⟩ (.slice none 0 0)) from (B0.out.setCell (by simp) _).setCell (by simp) _)
    have RR := hid (show FdP gs (gzl Z) R w (.returned (.tuple #[.agg #[.bool false, .slice none 0 0], .slice none 0 0])) ((w1.setCell ⟨w.heap.size + 1, 0, none⟩ (.bool false)).setCell ⟨w.heap.size + 1, 1, none⟩ (.slice none 0 0)) from
      FdP_mk (by rw [HGS.out, HZ.out, hE.out.1, gzs_zero]) (by rw [HZ.out, hE.out.1, gzl_zero]) (by rw [HR.out, hE.out.2]) (Ints_nil _ _) (Ints_nil _ _) (fun k hk => by simp [Value.ownBlock] at hk) BB.out)
    go_wp2
    exact bodyPost_ret (v := .tuple #[.agg #[.bool false, .slice none 0 0], .slice none 0 0]) (by simp [results, Tryz.results133, go_sem, p0, p1]) rfl RR.out
  | true =>
    rw [e1] at KA
    cases e2 : nok M with
    | false =>
      have hE := hid (fd_no (s := s) (A := A) (M := M) (.inr (.inl e2)))
      rw [e2] at KB
      clear e1 e2
      go_enter Tryz.func133, Tryz.ntmps133
      go_wp2_with fail
      change Calls _ _ _ (W2 w s (.slice a A.length c) 25) _
      (with_reducible refine (KA.out _ I1.out).mono ?_)
      rintro e w1 ⟨rfl, b1⟩
      have B0 := hid (B0.out.trans (b1.mono B0.out.size))
      have I1 := hid (Ints_old I1.out b1)
      have I2 := hid (Ints_old I2.out b1)
      have L1 := hid (L1.out.old b1)
      have L0 := hid (L0.out.old b1)
      clear b1
      go_wp2_with fail
      (with_reducible refine (KB.out _ I2.out).mono ?_)
      rintro e w2 ⟨rfl, rfl⟩
      have f0 := L0.out.f0 0
      have f1 := L0.out.f0 1
      have p0 := L0.out.c0
      have p1 := L0.out.c1
      have BB := hid (show Below w.heap.size w ((w1.setCell ⟨w.heap.size + 1, 0, none⟩ (.bool false)).setCell ⟨w.heap.size + 1, 1, none⟩ (.slice none 0 0)) from (B0.out.setCell (by simp) _).setCell (by simp) _)
      have RR := hid (show FdP gs (gzl Z) R w (.returned (.tuple #[.agg #[.bool false, .slice none 0 0], .slice none 0 0])) ((w1.setCell ⟨w.heap.size + 1, 0, none⟩ (.bool false)).setCell ⟨w.heap.size + 1, 1, none⟩ (.slice none 0 0)) from
        FdP_mk (by rw [HGS.out, HZ.out, hE.out.1, gzs_zero]) (by rw [HZ.out, hE.out.1, gzl_zero]) (by rw [HR.out, hE.out.2]) (Ints_nil _ _) (Ints_nil _ _) (fun k hk => by simp [Value.ownBlock] at hk) BB.out)
      go_wp2
      exact bodyPost_ret (v := .tuple #[.agg #[.bool false, .slice none 0 0], .slice none 0 0]) (by simp [results, Tryz.results133, go_sem, p0, p1]) rfl RR.out
    | true =>
      rw [e2] at KB
      by_cases h0 : M.length = 0
      · have hE := hid (fd_no (s := s) (A := A) (M := M) (.inr (.inr (List.length_eq_zero_iff.1 h0))))
        have hz : ((M.length : Int) == 0) = true := by rw [h0]; rfl
        clear h0 e1 e2
        go_enter Tryz.func133, Tryz.ntmps133
        go_wp2_with fail
        change Calls _ _ _ (W2 w s (.slice a A.length c) 25) _
        (with_reducible refine (KA.out _ I1.out).mono ?_)
        rintro e w1 ⟨rfl, b1⟩
        have B0 := hid (B0.out.trans (b1.mono B0.out.size))
        have I1 := hid (Ints_old I1.out b1)
        have I2 := hid (Ints_old I2.out b1)
        have L1 := hid (L1.out.old b1)
        have L0 := hid (L0.out.old b1)
        clear b1
        go_wp2_with fail
        (with_reducible refine (KB.out _ I2.out).mono ?_)
        rintro e w2 ⟨rfl, rfl⟩
        have f0 := L0.out.f0 0
        have f1 := L0.out.f0 1
        have p0 := L0.out.c0
        have p1 := L0.out.c1
        have BB := hid (show Below w.heap.size w ((w1.setCell ⟨w.heap.size + 1, 0, none⟩ (.bool false)).setCell ⟨w.heap.size + 1, 1, none⟩ (.slice none 0 0)) from (B0.out.setCell (by simp) _).setCell (by simp) _)
        have RR := hid (show FdP gs (gzl Z) R w (.returned (.tuple #[.agg #[.bool false, .slice none 0 0], .slice none 0 0])) ((w1.setCell ⟨w.heap.size + 1, 0, none⟩ (.bool false)).setCell ⟨w.heap.size + 1, 1, none⟩ (.slice none 0 0)) from
          FdP_mk (by rw [HGS.out, HZ.out, hE.out.1, gzs_zero]) (by rw [HZ.out, hE.out.1, gzl_zero]) (by rw [HR.out, hE.out.2]) (Ints_nil _ _) (Ints_nil _ _) (fun k hk => by simp [Value.ownBlock] at hk) BB.out)
        go_wp2
        exact bodyPost_ret (v := .tuple #[.agg #[.bool false, .slice none 0 0], .slice none 0 0]) (by simp [results, Tryz.results133, go_sem, p0, p1]) rfl RR.out
      · have hz : ((M.length : Int) == 0) = false := beq_eq_false_iff_ne.2 (by omega)
        have hne : M ≠ [] := fun h => h0 (by rw [h]; rfl)
        have hY := hid (fd_yes e1 e2 hne)
        have nA := hid (bok_iff.1 e1).1
        have nM := hid e2
        have hm := hid (val_pos e2 hne)
        have vA := hid (val_nonneg (nok_lim nA.out))
        have hq0 := hid (Int.ediv_nonneg vA.out (Int.le_of_lt hm.out))
        have hr0 := hid (Int.emod_nonneg (val A) (show val M ≠ 0 by have := hm.out; omega))
        have hr1 := hid (Int.emod_lt_of_pos (val A) hm.out)
        have hqA := hid (show val A / val M ≤ val A from Int.ediv_le_self _ vA.out)
        have KD := hid (fun (W : World) (h : Ints W b1 (.slice a A.length c) A) (h' : Ints W b2 (.slice a' M.length c') M) => impl_NatDiv _ _ A M hA hM _ _ W h h')
        rw [(div_yes nA.out nM.out hne).1, (div_yes nA.out nM.out hne).2] at KD
        have hlq := rep_len (V := val A / val M) (by have := nok_lt nA.out; have := hqA.out; omega)
        clear h0 e1 e2 hne
        obtain ⟨q, hq⟩ : ∃ q, q = val A / val M := ⟨_, rfl⟩
        obtain ⟨r, hr⟩ : ∃ r, r = val A % val M := ⟨_, rfl⟩
        rw [← hq] at KD hlq hqA hq0
        rw [← hr] at KD hr0 hr1
        have HQ := hid hq
        have HRR := hid hr
        clear hq hr
        have hrl : r ≠ 0 → 0 < (rep r.toNat).length := fun h => List.length_pos_iff.2 (rep_ne (by have := hr0.out; omega))
        have hrz : r = 0 → (rep r.toNat).length = 0 := fun h => by subst h; rw [show (0 : Int).toNat = 0 from rfl, rep_zero]; rfl
        have HRL := hid hrl
        have HRZ := hid hrz
        clear hrl hrz
        cases s
        · have hZ2 := hid (show sval false q = Z by rw [HZ.out, hY.out.1, HQ.out]; rfl)
          have hR2 := hid (show rep r.toNat = R by rw [HR.out, hY.out.2, HRR.out]; rfl)
          go_enter Tryz.func133, Tryz.ntmps133
          go_wp2_with fail
          change Calls _ _ _ (W2 w false (.slice a A.length c) 25) _
          (with_reducible refine (KA.out _ I1.out).mono ?_)
          rintro e w1 ⟨rfl, b1⟩
          have B0 := hid (B0.out.trans (b1.mono B0.out.size))
          have I1 := hid (Ints_old I1.out b1)
          have I2 := hid (Ints_old I2.out b1)
          have L1 := hid (L1.out.old b1)
          have L0 := hid (L0.out.old b1)
          clear b1
          go_wp2_with fail
          (with_reducible refine (KB.out _ I2.out).mono ?_)
          rintro e w2 ⟨rfl, rfl⟩
          have q0 := L1.out.c0
          have q1 := L1.out.c1
          go_wp2_with fail
          (with_reducible refine (KD.out _ I1.out I2.out).mono ?_)
          clear q0 q1
          rintro e w2 ⟨vq, vr, rfl, iq, ir, hd, b1⟩
          have hlt0 := L0.out.lt
          have L1 := hid (L1.out.old b1)
          have L0 := hid (L0.out.old b1)
          have B0 := hid (B0.out.trans (b1.mono B0.out.size))
          have I2 := hid (Ints_old I2.out b1)
          have hs12 : w1.heap.size ≤ w2.heap.size := b1.size
          have q5 := L1.out.c0
          have F1 := hid (show IsNat (wholeQ false) (w2.alloc (.cells #[vq, .bool false] 92)) (fun k => vq.ownBlock = some k ∨ w2.heap.size ≤ k) w2.heap.size vq (rep q.toNat) from
            ⟨heap_alloc_new w2 _, .inr (Nat.le_refl _), Ints_base (addPre iq) (Nat.zero_le _), fun k hk => .inl hk⟩)
          have B1 := hid (B0.out.alloc B0.out.size (.cells #[vq, .bool false] 92))
          have LA := hid (L0.out.new1 (o := .cells #[vq, .bool false] 92))
          have L1 := hid (L1.out.new1 (o := .cells #[vq, .bool false] 92))
          have IR := hid (addPre (o := .cells #[vq, .bool false] 92) ir)
          have I2 := hid (addPre (o := .cells #[vq, .bool false] 92) I2.out)
          have hap := hid (show ∀ k, vr.ownBlock = some k → ¬ (vq.ownBlock = some k ∨ w2.heap.size ≤ k) from fun k hk h => by
            rcases h with h | h
            · exact hd k h hk
            · have := (Ints_lt ir k hk).2
              omega)
          have hapL := hid (show ¬ (vq.ownBlock = some (w.heap.size + 1) ∨ w2.heap.size ≤ w.heap.size + 1) from fun h => by
            rcases h with h | h
            · exact L0.out.ne (by decide) iq h
            · omega)
          have hlow := hid (show ∀ k, k < w.heap.size → ¬ (vq.ownBlock = some k ∨ w2.heap.size ≤ k) from fun k hk h => by
            rcases h with h | h
            · have := (Ints_lt iq k h).1
              omega
            · omega)
          have hrlo := hid (show ∀ k, vr.ownBlock = some k → w.heap.size ≤ k from fun k hk => by have := (Ints_lt ir k hk).1; omega)
          obtain ⟨aq, cq, rfl, -⟩ := Ints_form iq
          obtain ⟨ar, cr, rfl, -⟩ := Ints_form ir
          clear iq ir hd b1
          have q0 := L1.out.c0
          go_wp2_with fail
          clear q0 q5
          (with_reducible refine (bigInt_set _ false _ _ q hq0.out _ F1.out).mono ?_)
          rintro e w5 ⟨z, rfl, iz, oz, b5⟩
          rw [hZ2.out] at iz
          rw [hZ2.out, ← HGS.out]
          have LA := hid (LA.out.old b5)
          have B1 := hid (B1.out.trans (b5.mono B1.out.size))
          have IR := hid (Ints_old IR.out b5)
          have n1 := LA.out.ne (by decide) iz
          have n2 := LA.out.ne (by decide) IR.out
          have RR := hid (show FdP gs (gzl Z) R w (.returned (.tuple #[.agg #[.bool gs, z], .slice ar (rep r.toNat).length cr])) ((w5.setCell ⟨w.heap.size + 1, 0, none⟩ (.bool gs)).setCell ⟨w.heap.size + 1, 1, none⟩ z) from
            FdP_mk rfl rfl hR2.out (Ints_rebase (Ints_set (Ints_set iz n1) n1) (fun k hk => Classical.byContradiction fun h => hlow.out k (by omega) (oz k hk))) (Ints_rebase (Ints_set (Ints_set IR.out n2) n2) hrlo.out) (fun k hk h => hap.out k h (oz k hk)) ((B1.out.setCell (by simp) _).setCell (by simp) _))
          obtain ⟨az, cz, rfl, -⟩ := Ints_form iz
          have f0 := LA.out.f0 0
          have f1 := LA.out.f0 1
          have p0 := LA.out.c0
          have p1 := LA.out.c1
          clear iz oz b5 n1 n2
          go_wp2
          exact bodyPost_ret (v := .tuple #[.agg #[.bool gs, .slice az (gzl Z).length cz], .slice ar (rep r.toNat).length cr]) (by simp [results, Tryz.results133, go_sem, p0, p1]) rfl RR.out
        · by_cases hrr : r = 0
          · have hx := hid (fd_exact (V := val A) hm.out (HRR.out.symm.trans hrr))
            have hZ2 := hid (show sval true q = Z by rw [HZ.out, hY.out.1, hx.out.1, HQ.out])
            have hR2 := hid (show rep r.toNat = R by rw [HR.out, hY.out.2, hx.out.2, hrr])
            have hlz : ¬ (0 : Int) < ((rep r.toNat).length : Int) := by have := HRZ.out hrr; omega
            clear hrr
            go_enter Tryz.func133, Tryz.ntmps133
            go_wp2_with fail
            change Calls _ _ _ (W2 w true (.slice a A.length c) 25) _
            (with_reducible refine (KA.out _ I1.out).mono ?_)
            rintro e w1 ⟨rfl, b1⟩
            have B0 := hid (B0.out.trans (b1.mono B0.out.size))
            have I1 := hid (Ints_old I1.out b1)
            have I2 := hid (Ints_old I2.out b1)
            have L1 := hid (L1.out.old b1)
            have L0 := hid (L0.out.old b1)
            clear b1
            go_wp2_with fail
            (with_reducible refine (KB.out _ I2.out).mono ?_)
            rintro e w2 ⟨rfl, rfl⟩
            have q0 := L1.out.c0
            have q1 := L1.out.c1
            go_wp2_with fail
            (with_reducible refine (KD.out _ I1.out I2.out).mono ?_)
            clear q0 q1
            rintro e w2 ⟨vq, vr, rfl, iq, ir, hd, b1⟩
            have hlt0 := L0.out.lt
            have L1 := hid (L1.out.old b1)
            have L0 := hid (L0.out.old b1)
            have B0 := hid (B0.out.trans (b1.mono B0.out.size))
            have I2 := hid (Ints_old I2.out b1)
            have hs12 : w1.heap.size ≤ w2.heap.size := b1.size
            have q5 := L1.out.c0
            have F1 := hid (show IsNat (wholeQ true) (w2.alloc (.cells #[vq, .bool true] 92)) (fun k => vq.ownBlock = some k ∨ w2.heap.size ≤ k) w2.heap.size vq (rep q.toNat) from
              ⟨heap_alloc_new w2 _, .inr (Nat.le_refl _), Ints_base (addPre iq) (Nat.zero_le _), fun k hk => .inl hk⟩)
            have B1 := hid (B0.out.alloc B0.out.size (.cells #[vq, .bool true] 92))
            have LA := hid (L0.out.new1 (o := .cells #[vq, .bool true] 92))
            have L1 := hid (L1.out.new1 (o := .cells #[vq, .bool true] 92))
            have IR := hid (addPre (o := .cells #[vq, .bool true] 92) ir)
            have I2 := hid (addPre (o := .cells #[vq, .bool true] 92) I2.out)
            have hap := hid (show ∀ k, vr.ownBlock = some k → ¬ (vq.ownBlock = some k ∨ w2.heap.size ≤ k) from fun k hk h => by
              rcases h with h | h
              · exact hd k h hk
              · have := (Ints_lt ir k hk).2
                omega)
            have hapL := hid (show ¬ (vq.ownBlock = some (w.heap.size + 1) ∨ w2.heap.size ≤ w.heap.size + 1) from fun h => by
              rcases h with h | h
              · exact L0.out.ne (by decide) iq h
              · omega)
            have hlow := hid (show ∀ k, k < w.heap.size → ¬ (vq.ownBlock = some k ∨ w2.heap.size ≤ k) from fun k hk h => by
              rcases h with h | h
              · have := (Ints_lt iq k h).1
                omega
              · omega)
            have hrlo := hid (show ∀ k, vr.ownBlock = some k → w.heap.size ≤ k from fun k hk => by have := (Ints_lt ir k hk).1; omega)
            obtain ⟨aq, cq, rfl, -⟩ := Ints_form iq
            obtain ⟨ar, cr, rfl, -⟩ := Ints_form ir
            clear iq ir hd b1
            have q0 := L1.out.c0
            go_wp2_with fail
            clear q0 q5
            (with_reducible refine (bigInt_set _ true _ _ q hq0.out _ F1.out).mono ?_)
            rintro e w5 ⟨z, rfl, iz, oz, b5⟩
            rw [hZ2.out] at iz
            rw [hZ2.out, ← HGS.out]
            have LA := hid (LA.out.old b5)
            have B1 := hid (B1.out.trans (b5.mono B1.out.size))
            have IR := hid (Ints_old IR.out b5)
            have n1 := LA.out.ne (by decide) iz
            have n2 := LA.out.ne (by decide) IR.out
            have RR := hid (show FdP gs (gzl Z) R w (.returned (.tuple #[.agg #[.bool gs, z], .slice ar (rep r.toNat).length cr])) ((w5.setCell ⟨w.heap.size + 1, 0, none⟩ (.bool gs)).setCell ⟨w.heap.size + 1, 1, none⟩ z) from
              FdP_mk rfl rfl hR2.out (Ints_rebase (Ints_set (Ints_set iz n1) n1) (fun k hk => Classical.byContradiction fun h => hlow.out k (by omega) (oz k hk))) (Ints_rebase (Ints_set (Ints_set IR.out n2) n2) hrlo.out) (fun k hk h => hap.out k h (oz k hk)) ((B1.out.setCell (by simp) _).setCell (by simp) _))
            obtain ⟨az, cz, rfl, -⟩ := Ints_form iz
            have f0 := LA.out.f0 0
            have f1 := LA.out.f0 1
            have p0 := LA.out.c0
            have p1 := LA.out.c1
            clear iz oz b5 n1 n2
            go_wp2
            exact bodyPost_ret (v := .tuple #[.agg #[.bool gs, .slice az (gzl Z).length cz], .slice ar (rep r.toNat).length cr]) (by simp [results, Tryz.results133, go_sem, p0, p1]) rfl RR.out
          · have hx := hid (fd_up (V := val A) hm.out (fun h => hrr (HRR.out.trans h)))
            have hZ2 := hid (show sval true (q + 1) = Z by rw [HZ.out, hY.out.1, hx.out.1, HQ.out])
            have hR2 := hid (show rep (val M - r).toNat = R by rw [HR.out, hY.out.2, hx.out.2, HRR.out])
            have hlz : (0 : Int) < ((rep r.toNat).length : Int) := by have := HRL.out hrr; omega
            clear hrr
            have KSUB := hid (fun (W : World) (x : Value) (b3 : Nat) (h : Ints W b2 (.slice a' M.length c') M) (h' : Ints W b3 x (rep r.toNat)) => impl_NatSub _ x M (rep r.toNat) hM (by have := hr1.out; have := nok_lt nM.out; have := rep_len (V := r) (by omega); omega) _ _ W h h')
            rw [subR_yes nM.out (nok_iff.2 ⟨rep_len (V := r) (by have := hr1.out; have := nok_lt nM.out; omega), Can_rep _⟩) (by rw [val_rep' hr0.out]; exact Int.le_of_lt hr1.out), val_rep' hr0.out] at KSUB
            go_enter Tryz.func133, Tryz.ntmps133
            go_wp2_with fail
            change Calls _ _ _ (W2 w true (.slice a A.length c) 25) _
            (with_reducible refine (KA.out _ I1.out).mono ?_)
            rintro e w1 ⟨rfl, b1⟩
            have B0 := hid (B0.out.trans (b1.mono B0.out.size))
            have I1 := hid (Ints_old I1.out b1)
            have I2 := hid (Ints_old I2.out b1)
            have L1 := hid (L1.out.old b1)
            have L0 := hid (L0.out.old b1)
            clear b1
            go_wp2_with fail
            (with_reducible refine (KB.out _ I2.out).mono ?_)
            rintro e w2 ⟨rfl, rfl⟩
            have q0 := L1.out.c0
            have q1 := L1.out.c1
            go_wp2_with fail
            (with_reducible refine (KD.out _ I1.out I2.out).mono ?_)
            clear q0 q1
            rintro e w2 ⟨vq, vr, rfl, iq, ir, hd, b1⟩
            have hlt0 := L0.out.lt
            have I2old := hid I2.out
            have L1 := hid (L1.out.old b1)
            have L0 := hid (L0.out.old b1)
            have B0 := hid (B0.out.trans (b1.mono B0.out.size))
            have I2 := hid (Ints_old I2.out b1)
            have hs12 : w1.heap.size ≤ w2.heap.size := b1.size
            have q5 := L1.out.c0
            have F1 := hid (show IsNat (wholeQ true) (w2.alloc (.cells #[vq, .bool true] 92)) (fun k => vq.ownBlock = some k ∨ w2.heap.size ≤ k) w2.heap.size vq (rep q.toNat) from
              ⟨heap_alloc_new w2 _, .inr (Nat.le_refl _), Ints_base (addPre iq) (Nat.zero_le _), fun k hk => .inl hk⟩)
            have B1 := hid (B0.out.alloc B0.out.size (.cells #[vq, .bool true] 92))
            have LA := hid (L0.out.new1 (o := .cells #[vq, .bool true] 92))
            have L1 := hid (L1.out.new1 (o := .cells #[vq, .bool true] 92))
            have IR := hid (addPre (o := .cells #[vq, .bool true] 92) ir)
            have I2 := hid (addPre (o := .cells #[vq, .bool true] 92) I2.out)
            have hap := hid (show ∀ k, vr.ownBlock = some k → ¬ (vq.ownBlock = some k ∨ w2.heap.size ≤ k) from fun k hk h => by
              rcases h with h | h
              · exact hd k h hk
              · have := (Ints_lt ir k hk).2
                omega)
            have hapL := hid (show ¬ (vq.ownBlock = some (w.heap.size + 1) ∨ w2.heap.size ≤ w.heap.size + 1) from fun h => by
              rcases h with h | h
              · exact L0.out.ne (by decide) iq h
              · omega)
            have hlow := hid (show ∀ k, k < w.heap.size → ¬ (vq.ownBlock = some k ∨ w2.heap.size ≤ k) from fun k hk h => by
              rcases h with h | h
              · have := (Ints_lt iq k h).1
                omega
              · omega)
            have hrlo := hid (show ∀ k, vr.ownBlock = some k → w.heap.size ≤ k from fun k hk => by have := (Ints_lt ir k hk).1; omega)
            obtain ⟨aq, cq, rfl, -⟩ := Ints_form iq
            obtain ⟨ar, cr, rfl, -⟩ := Ints_form ir
            have hM2 := hid (show ∀ k, (Value.slice a' M.length c').ownBlock = some k → ¬ ((Value.slice aq (rep q.toNat).length cq).ownBlock = some k ∨ w2.heap.size ≤ k) from fun k hk h => by
              have h5 := (Ints_lt I2old.out k hk).2
              rcases h with h | h
              · have := (Ints_lt iq k h).1
                omega
              · omega)
            clear iq ir hd b1
            have q0 := L1.out.c0
            go_wp2_with fail
            clear q0 q5
            (with_reducible refine (carry_one _ _ _ q hq0.out (by omega) _ F1.out (fun k hk => by simp at hk; exact .inr (by omega))).mono ?_)
            rintro e w3 ⟨rfl, ⟨y, h3⟩, o3⟩
            have LA := hid (LA.out.only o3 hapL.out)
            have IR := hid (Ints_only IR.out o3 hap.out)
            have I2 := hid (Ints_only I2.out o3 hM2.out)
            have B1 := hid (B1.out.trans (o3.below hlow.out))
            have F1 := hid (h3.sub (T := fun k => ((Value.slice aq (rep q.toNat).length cq).ownBlock = some k ∨ w2.heap.size ≤ k) ∧ k < w3.heap.size) ⟨h3.mine, h3.lt⟩ (fun k hk => ⟨h3.own k hk, (Ints_lt h3.ints k hk).2⟩))
            have hs3 := hid (show w2.heap.size < w3.heap.size by have := o3.size; simp at this; omega)
            clear h3 o3
            go_wp2_with fail
            (with_reducible refine (KSUB.out _ _ _ I2.out IR.out).mono ?_)
            rintro e w4 ⟨vs, rfl, is, b4⟩
            have LA := hid (LA.out.old b4)
            have B1 := hid (B1.out.trans (b4.mono B1.out.size))
            have F1 := hid (F1.out.old b4)
            have hrlo := hid (show ∀ k, vs.ownBlock = some k → w.heap.size ≤ k from fun k hk => by have := (Ints_lt is k hk).1; have := hs3.out; omega)
            have hap := hid (show ∀ k, vs.ownBlock = some k → ¬ (((Value.slice aq (rep q.toNat).length cq).ownBlock = some k ∨ w2.heap.size ≤ k) ∧ k < w3.heap.size) from fun k hk h => by have := (Ints_lt is k hk).1; omega)
            have hlow := hid (show ∀ k, k < w.heap.size → ¬ (((Value.slice aq (rep q.toNat).length cq).ownBlock = some k ∨ w2.heap.size ≤ k) ∧ k < w3.heap.size) from fun k hk h => hlow.out k hk h.1)
            have IR := hid is
            obtain ⟨asl, cs, rfl, -⟩ := Ints_form is
            clear is b4
            go_wp2_with fail
            (with_reducible refine (bigInt_set _ true _ _ (q + 1) (by have := hq0.out; omega) _ F1.out).mono ?_)
            rintro e w5 ⟨z, rfl, iz, oz, b5⟩
            rw [hZ2.out] at iz
            rw [hZ2.out, ← HGS.out]
            have LA := hid (LA.out.old b5)
            have B1 := hid (B1.out.trans (b5.mono B1.out.size))
            have IR := hid (Ints_old IR.out b5)
            have n1 := LA.out.ne (by decide) iz
            have n2 := LA.out.ne (by decide) IR.out
            have RR := hid (show FdP gs (gzl Z) R w (.returned (.tuple #[.agg #[.bool gs, z], .slice asl (rep (val M - r).toNat).length cs])) ((w5.setCell ⟨w.heap.size + 1, 0, none⟩ (.bool gs)).setCell ⟨w.heap.size + 1, 1, none⟩ z) from
              FdP_mk rfl rfl hR2.out (Ints_rebase (Ints_set (Ints_set iz n1) n1) (fun k hk => Classical.byContradiction fun h => hlow.out k (by omega) (oz k hk))) (Ints_rebase (Ints_set (Ints_set IR.out n2) n2) hrlo.out) (fun k hk h => hap.out k h (oz k hk)) ((B1.out.setCell (by simp) _).setCell (by simp) _))
            obtain ⟨az, cz, rfl, -⟩ := Ints_form iz
            have f0 := LA.out.f0 0
            have f1 := LA.out.f0 1
            have p0 := LA.out.c0
            have p1 := LA.out.c1
            clear iz oz b5 n1 n2
            go_wp2
            exact bodyPost_ret (v := .tuple #[.agg #[.bool gs, .slice az (gzl Z).length cz], .slice asl (rep (val M - r).toNat).length cs]) (by simp [results, Tryz.results133, go_sem, p0, p1]) rfl RR.out
end Go.Proofs.YtookglpeieennaaGreat
