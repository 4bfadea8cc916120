/- The text of a row, both sides. -/
import Derived.Test.YthkehmnodcmlcaaGreatDoorRwb
import Derived.Test.YthkehmnodcmlcaaGreatDoorTft
import Derived.Deep.RegionLaw
import Derived.Deep.RegionHeld3
import Derived.Deep.DeepCutAuto
namespace Go.Proofs.YthkehmnodcmlcaaGreatDoor
open Go.RowKit
open Go.Lib (hid)
set_option linter.unusedVariables false
set_option linter.unusedSimpArgs false

def fmtS (x : Int) : ByteArray := if x = 1 then ⟨#[60, 61]⟩ else if x = 2 then ⟨#[62, 61]⟩ else if x = 3 then ⟨#[61]⟩ else ⟨#[]⟩
set_option maxRecDepth 100000 in
set_option maxHeartbeats 6400000 in
theorem impl_FormatSense (x : Int) (w : World) : Calls Tryz.prog 69 #[.int .i64 x] w (RetB (.string (fmtS x)) w) := by
  by_cases h1 : x = 1
  · subst h1
    go_enter Tryz.func69, Tryz.ntmps69
    go_wp2
    go_ret
    exact ⟨rfl, Below.refl _ _⟩
  have u1 : (x == 1) = false := beq_eq_false_iff_ne.2 h1
  by_cases h2 : x = 2
  · subst h2
    go_enter Tryz.func69, Tryz.ntmps69
    go_wp2
    go_ret
    exact ⟨rfl, Below.refl _ _⟩
  have u2 : (x == 2) = false := beq_eq_false_iff_ne.2 h2
  by_cases h3 : x = 3
  · subst h3
    go_enter Tryz.func69, Tryz.ntmps69
    go_wp2
    go_ret
    exact ⟨rfl, Below.refl _ _⟩
  have u3 : (x == 3) = false := beq_eq_false_iff_ne.2 h3
  have HF := hid (show fmtS x = ⟨#[]⟩ by unfold fmtS; rw [if_neg h1, if_neg h2, if_neg h3])
  rw [HF.out]
  go_enter Tryz.func69, Tryz.ntmps69
  go_wp2
  go_ret
  exact ⟨rfl, Below.refl _ _⟩
set_option maxRecDepth 100000 in
set_option maxHeartbeats 6400000 in
theorem spec_FormatSense (x : Int) (w : World) : Calls Tryz.prog 28 #[.int .i64 x] w (RetB (.string (fmtS x)) w) := by
  by_cases hx : 1 ≤ x ∧ x ≤ 3
  · have h3 : x = 1 ∨ x = 2 ∨ x = 3 := by omega
    rcases h3 with rfl | rfl | rfl
    all_goals
      go_enter Tryz.func28, Tryz.ntmps28
      go_wp2_with fail
      (with_reducible refine (l01In_any _ 1 3 _).mono ?_)
      rintro e w1 ⟨rfl, rfl⟩
      go_wp2
      go_ret
      exact ⟨rfl, (Below.refl _ _).alloc (Nat.le_refl _) _⟩
  · have HF := hid (show fmtS x = ⟨#[]⟩ by unfold fmtS; rw [if_neg (by omega), if_neg (by omega), if_neg (by omega)])
    have HB := hid (show (decide (1 ≤ x) && decide (x ≤ 3)) = false by
      rw [Bool.eq_false_iff]; intro h; simp only [Bool.and_eq_true, decide_eq_true_eq] at h; exact hx h)
    have KL := hid (fun (W : World) => l01In_any x 1 3 W)
    rw [HB.out] at KL
    rw [HF.out]
    clear hx
    go_enter Tryz.func28, Tryz.ntmps28
    go_wp2_with fail
    (with_reducible refine (KL.out _).mono ?_)
    rintro e w1 ⟨rfl, rfl⟩
    go_wp2
    go_ret
    exact ⟨rfl, Below.refl _ _⟩
/-- Names that a call holds. -/
structure NmS (w : World) (g : Nat) (N : List ByteArray) : Prop where
  lt : g < w.heap.size
  c : ∀ i (h : i < N.length), w.cell? ⟨g, i, none⟩ = some (.string N[i])
theorem NmS.old {w w' : World} {g : Nat} {N : List ByteArray} (h : NmS w g N) (hb : Below w.heap.size w w') : NmS w' g N :=
  ⟨Nat.lt_of_lt_of_le h.lt hb.size, fun i hi => (hb.cell (p := ⟨g, i, none⟩) h.lt).trans (h.c i hi)⟩
def spS (x : Int) : ByteArray := (ByteArray.mk #[32] ++ fmtS x) ++ ByteArray.mk #[32]
/-- The text of a row (the empty text stands for a row that is none). -/
def fmtW (T0 : List Tq) (x : Int) (s : Bool) (A D : List Int) (N : List ByteArray) : ByteArray := if rowOk T0 x s A D (N.length : Int) = true then (fmtT T0 N ++ spS x) ++ fmtR s A D else ByteArray.mk #[]
theorem fmtS_size (x : Int) : (fmtS x).size ≤ 2 := by
  unfold fmtS
  split
  · decide
  · split
    · decide
    · split <;> decide
theorem spS_size (x : Int) : (spS x).size ≤ 4 := by
  unfold spS
  rw [ByteArray.size_append, ByteArray.size_append]
  have h1 := fmtS_size x
  have h2 : (ByteArray.mk #[32]).size = 1 := rfl
  omega
theorem fmtT_size {T0 : List Tq} {N : List ByteArray} (hN : ∀ x ∈ N, x.size ≤ 1048576) : (fmtT T0 N).size ≤ 67108864 := by
  unfold fmtT
  split
  · next h =>
    have hl := tok_len h
    split
    · show (1 : Nat) ≤ _; omega
    · have h1 := joinK_size (L := ttx N T0) (sep := ByteArray.mk #[32, 43, 32]) T0.length (by rw [ttx_len]; exact Nat.le_refl _)
      rw [List.take_of_length_le (by rw [ttx_len]; exact Nat.le_refl _)] at h1
      have h2 := ttx_sum hN T0
      have h3 : (ByteArray.mk #[32, 43, 32]).size = 3 := rfl
      rw [h3] at h1
      omega
  · show (0 : Nat) ≤ _; omega
theorem fmtW_assoc (T S R : ByteArray) (x : Int) (hS : S = fmtS x) : (((T ++ ByteArray.mk #[32]) ++ S) ++ ByteArray.mk #[32]) ++ R = (T ++ spS x) ++ R := by
  subst hS
  unfold spS
  simp only [ByteArray.append_assoc]
set_option maxRecDepth 100000 in
set_option maxHeartbeats 12800000 in
theorem impl_spacedSense (x : Int) (w : World) : Calls Tryz.prog 34 #[.int .i64 x] w (StrP (spS x) w) := by
  have hz := fmtS_size x
  have KF := hid (fun (W : World) => impl_FormatSense x W)
  obtain ⟨R, hR⟩ : ∃ R, R = spS x := ⟨_, rfl⟩
  rw [← hR]
  have HR := hid hR
  clear hR
  obtain ⟨sx, hsx⟩ : ∃ sx, fmtS x = sx := ⟨_, rfl⟩
  rw [hsx] at KF hz
  have HX := hid hsx
  clear hsx
  have f1 : (9223372036854775807 < 1 + sx.size) = False := eq_false (by omega)
  have f2 : (9223372036854775807 < 1 + sx.size + 1) = False := eq_false (by omega)
  have f3 : sx.size ≤ 9223372036854775806 := by omega
  have f4 : (9223372036854775806 < sx.size) = False := eq_false (by omega)
  have f5 : 1 + sx.size ≤ 9223372036854775806 := by omega
  have f6 : (9223372036854775806 < 1 + sx.size) = False := eq_false (by omega)
  have f7 : (9223372036854775807 < sx.size + 1) = False := eq_false (by omega)
  go_enter Tryz.func34, Tryz.ntmps34
  go_wp2_with fail
  (with_reducible refine (KF.out _).mono ?_)
  rintro e w1 ⟨rfl, bb⟩
  have B := hid bb
  clear bb
  go_wp2
  go_ret
  exact StrP_mk (by rw [HR.out]; unfold spS; rw [HX.out]) B.out
set_option maxRecDepth 100000 in
set_option maxHeartbeats 12800000 in
theorem impl_FormatRow {t v u : Value} {T0 : List Tq} {A D : List Int} {gN cN : Nat} {N : List ByteArray} (x : Int) (s : Bool) (hK : SmT T0) (la : A.length ≤ 1048576) (ld : D.length ≤ 1048576) (hN : N.length ≤ 1048576) (hNs : ∀ x ∈ N, x.size ≤ 1048576) (w : World) (h : RwW w t v u T0 A D) (hn : NmS w gN N) (hp : Pow10 w) :
    Calls Tryz.prog 11 #[.agg #[t, .int .i64 x, .bool s, v, u], .slice (some ⟨gN, 0, none⟩) N.length cN] w (StrP (fmtW T0 x s A D N) w) := by
  obtain ⟨a1, c1, b1, d1, e1, f1, rfl, rfl, rfl⟩ := h.form
  have B := hid (below_new' (w := w) (o := .cells #[.slice a1 T0.length c1, .int .i64 x, .bool s, .slice b1 A.length d1, .slice e1 D.length f1] 39))
  have LX := hid (LocA.new (w := w) (T := 39) (cs := #[.slice a1 T0.length c1, .int .i64 x, .bool s, .slice b1 A.length d1, .slice e1 D.length f1]))
  have H := hid (h.old B.out)
  have HN := hid (hn.old B.out)
  have PP := hid (hp.old B.out)
  clear hp
  clear h hn
  have KO := hid (fun (W : World) (g : RwW W (.slice a1 T0.length c1) (.slice b1 A.length d1) (.slice e1 D.length f1) T0 A D) => impl_RowOk x s hK la ld (N.length : Int) (by omega) (by omega) W g)
  have hzT := fmtT_size (T0 := T0) hNs
  have hzR := fmtR_size (s := s) (A := A) (D := D)
  have hzS := spS_size x
  have hzF := fmtS_size x
  have KT := hid (fun (W : World) (g : RwW W (.slice a1 T0.length c1) (.slice b1 A.length d1) (.slice e1 D.length f1) T0 A D) (n : NmS W gN N) (hp : Pow10 W) => show Calls Tryz.prog 33 #[.slice a1 T0.length c1, .slice (some ⟨gN, 0, none⟩) N.length cN] W (StrP (fmtT T0 N) W) from by
    obtain ⟨⟨_, _, _, y⟩, -⟩ := g
    exact impl_FormatTerms hK hN hNs W y n.lt n.c hp)
  have KQ := hid (fun (W : World) (g : RwW W (.slice a1 T0.length c1) (.slice b1 A.length d1) (.slice e1 D.length f1) T0 A D) (hp : Pow10 W) => impl_FormatRat s (.slice b1 A.length d1) (.slice e1 D.length f1) A D W (g.rl la ld) hp)
  have KS := hid (fun (W : World) => impl_spacedSense x W)
  obtain ⟨R, hR⟩ : ∃ R, R = fmtW T0 x s A D N := ⟨_, rfl⟩
  rw [← hR]
  have HR := hid hR
  clear hR
  obtain ⟨tx, htx⟩ : ∃ tx, fmtT T0 N = tx := ⟨_, rfl⟩
  obtain ⟨rx, hrx⟩ : ∃ rx, fmtR s A D = rx := ⟨_, rfl⟩
  obtain ⟨sx, hsx⟩ : ∃ sx, spS x = sx := ⟨_, rfl⟩
  rw [htx] at KT hzT
  rw [hrx] at KQ hzR
  rw [hsx] at KS hzS
  have HTX := hid (And.intro htx (And.intro hrx hsx))
  clear htx hrx hsx
  generalize hW : w.alloc (.cells #[.slice a1 T0.length c1, .int .i64 x, .bool s, .slice b1 A.length d1, .slice e1 D.length f1] 39) = W0 at B LX H HN PP
  have HW := hid hW
  clear hW
  cases ho : rowOk T0 x s A D N.length with
  | false =>
    rw [ho] at KO
    go_enter Tryz.func11, Tryz.ntmps11
    go_wp2_with fail
    rw [HW.out]
    (with_reducible refine (KO.out _ H.out).mono ?_)
    rintro e w1 ⟨rfl, bb⟩
    have H := hid (H.out.old bb)
    have HN := hid (HN.out.old bb)
    have LX := hid (LX.out.old bb)
    have PP := hid (PP.out.old bb)
    have B := hid (B.out.trans (bb.mono B.out.size))
    clear bb
    go_wp2
    go_ret
    exact StrP_mk (by rw [HR.out, fmtW, ho]; rfl) B.out
  | true =>
    rw [ho] at KO
    go_enter Tryz.func11, Tryz.ntmps11
    go_wp2_with fail
    rw [HW.out]
    (with_reducible refine (KO.out _ H.out).mono ?_)
    rintro e w1 ⟨rfl, bb⟩
    have H := hid (H.out.old bb)
    have HN := hid (HN.out.old bb)
    have LX := hid (LX.out.old bb)
    have PP := hid (PP.out.old bb)
    have B := hid (B.out.trans (bb.mono B.out.size))
    clear bb
    have H := hid (H.out.old (Below_drew1 (Below.refl _ _)))
    have HN := hid (HN.out.old (Below_drew1 (Below.refl _ _)))
    have LX := hid (LX.out.old (Below_drew1 (Below.refl _ _)))
    have PP := hid (PP.out.old (Below_drew1 (Below.refl _ _)))
    have B := hid (Below_drew1 B.out)
    have q0 := LX.out.c 0 (v := .slice a1 T0.length c1) rfl
    have q1 := LX.out.c 1 (v := .int .i64 x) rfl
    have q2 := LX.out.c 2 (v := .bool s) rfl
    have q3 := LX.out.c 3 (v := .slice b1 A.length d1) rfl
    have q4 := LX.out.c 4 (v := .slice e1 D.length f1) rfl
    have f0 : (9223372036854775807 < tx.size + sx.size) = False := eq_false (by omega)
    have ff1 : tx.size + sx.size ≤ 9223372036854775807 := by omega
    have f2 : (9223372036854775807 < tx.size + sx.size + rx.size) = False := eq_false (by omega)
    have f3 : tx.size + sx.size + rx.size ≤ 9223372036854775807 := by omega
    go_wp2_with fail
    refine wp_region_held_drew (S := (fun w' => w'.cell? ⟨w.heap.size, 0, none⟩ = some (.slice a1 T0.length c1) ∧ w'.cell? ⟨w.heap.size, 1, none⟩ = some (.int .i64 x) ∧ w'.cell? ⟨w.heap.size, 2, none⟩ = some (.bool s) ∧ w'.cell? ⟨w.heap.size, 3, none⟩ = some (.slice b1 A.length d1) ∧ w'.cell? ⟨w.heap.size, 4, none⟩ = some (.slice e1 D.length f1))) (by kernel_rfl) (by first | (with_reducible exact ⟨q0, q1, q2, q3, q4⟩) | ((try dsimp only); with_reducible exact ⟨q0, q1, q2, q3, q4⟩)) (fun hHeld => ?_)
    refine wpAnyH_take (i := 0) (oi := _) (v := ?_) rfl (by kernel_rfl) (by kernel_rfl) (by kernel_rfl) (fun _ _ _ h => h) (Or.inl ⟨by rfl, ?_⟩) (by assumption) ?_
    rotate_left
    · (intro w hSw; (try dsimp only at hSw); go_simp; try (with_reducible rfl))
    try simp only [Act.put, List.setIfInBounds_toArray, List.set_cons_zero, List.set_cons_succ, List.getElem_toArray, List.getElem_cons_zero]
    refine wpAnyH_take (i := 1) (oi := _) (v := ?_) rfl (by kernel_rfl) (by kernel_rfl) (by kernel_rfl) (fun _ _ _ h => h) (Or.inl ⟨by rfl, ?_⟩) (by assumption) ?_
    rotate_left
    · (intro w hSw; (try dsimp only at hSw); go_simp; try (with_reducible rfl))
    try simp only [Act.put, List.setIfInBounds_toArray, List.set_cons_zero, List.set_cons_succ, List.getElem_toArray, List.getElem_cons_zero, List.getElem_cons_succ]
    refine wpAnyH_take (i := 2) (oi := _) (v := ?_) rfl (by kernel_rfl) (by kernel_rfl) (by kernel_rfl) (fun _ _ _ h => h) (Or.inl ⟨by rfl, ?_⟩) (by assumption) ?_
    rotate_left
    · (intro w hSw; (try dsimp only at hSw); go_simp; try (with_reducible rfl))
    try simp only [Act.put, List.setIfInBounds_toArray, List.set_cons_zero, List.set_cons_succ, List.getElem_toArray, List.getElem_cons_zero, List.getElem_cons_succ]
    refine wpAnyH_take (i := 4) (oi := _) (v := ?_) rfl (by kernel_rfl) (by kernel_rfl) (by kernel_rfl) (fun _ _ _ h => h) (Or.inl ⟨by rfl, ?_⟩) (by assumption) ?_
    rotate_left
    · (intro w hSw; (try dsimp only at hSw); go_simp; try (with_reducible rfl))
    try simp only [Act.put, List.setIfInBounds_toArray, List.set_cons_zero, List.set_cons_succ, List.getElem_toArray, List.getElem_cons_zero, List.getElem_cons_succ]
    refine wpAnyH_take (i := 5) (oi := _) (v := ?_) rfl (by kernel_rfl) (by kernel_rfl) (by kernel_rfl) (fun _ _ _ h => h) (Or.inl ⟨by rfl, ?_⟩) (by assumption) ?_
    rotate_left
    · (intro w hSw; (try dsimp only at hSw); go_simp; try (with_reducible rfl))
    try simp only [Act.put, List.setIfInBounds_toArray, List.set_cons_zero, List.set_cons_succ, List.getElem_toArray, List.getElem_cons_zero, List.getElem_cons_succ]
    refine wpAnyH_take (i := 8) (oi := _) (v := ?_) rfl (by kernel_rfl) (by kernel_rfl) (by kernel_rfl) (fun _ _ _ h => h) (Or.inl ⟨by rfl, ?_⟩) (by assumption) ?_
    rotate_left
    · (intro w hSw; (try dsimp only at hSw); go_simp; try (with_reducible rfl))
    try simp only [Act.put, List.setIfInBounds_toArray, List.set_cons_zero, List.set_cons_succ, List.getElem_toArray, List.getElem_cons_zero, List.getElem_cons_succ]
    refine wpAnyH_take (i := 9) (oi := _) (v := ?_) rfl (by kernel_rfl) (by kernel_rfl) (by kernel_rfl) (fun _ _ _ h => h) (Or.inl ⟨by rfl, ?_⟩) (by assumption) ?_
    rotate_left
    · (intro w hSw; (try dsimp only at hSw); go_simp; try (with_reducible rfl))
    try simp only [Act.put, List.setIfInBounds_toArray, List.set_cons_zero, List.set_cons_succ, List.getElem_toArray, List.getElem_cons_zero, List.getElem_cons_succ]
    refine wpAnyH_ready (rs := [3]) (by kernel_rfl) (by simp) ?_
    refine AllReadyH.cons (o := _) rfl (fun K hK => ?_) AllReadyH.nil
    go_simp
    (with_reducible refine (KT.out _ H.out HN.out PP.out).mono ?_)
    rintro e w2 ⟨rfl, bb⟩
    have H := hid (H.out.old bb)
    have HN := hid (HN.out.old bb)
    have LX := hid (LX.out.old bb)
    have PP := hid (PP.out.old bb)
    have B := hid (B.out.trans (bb.mono B.out.size))
    have q0 := LX.out.c 0 (v := .slice a1 T0.length c1) rfl
    have q1 := LX.out.c 1 (v := .int .i64 x) rfl
    have q2 := LX.out.c 2 (v := .bool s) rfl
    have q3 := LX.out.c 3 (v := .slice b1 A.length d1) rfl
    have q4 := LX.out.c 4 (v := .slice e1 D.length f1) rfl
    clear bb
    go_wp2_with fail
    refine hK.out _ _ ?_ (fun hHeld => ?_)
    · first | (with_reducible exact ⟨q0, q1, q2, q3, q4⟩) | ((try dsimp only); with_reducible exact ⟨q0, q1, q2, q3, q4⟩)
    refine wpAnyH_ready (rs := [6]) (by kernel_rfl) (by simp) ?_
    refine AllReadyH.cons (o := _) rfl (fun K hK => ?_) AllReadyH.nil
    go_simp
    (with_reducible refine (KS.out _).mono ?_)
    rintro e w3 ⟨rfl, bb⟩
    have H := hid (H.out.old bb)
    have HN := hid (HN.out.old bb)
    have LX := hid (LX.out.old bb)
    have PP := hid (PP.out.old bb)
    have B := hid (B.out.trans (bb.mono B.out.size))
    have q0 := LX.out.c 0 (v := .slice a1 T0.length c1) rfl
    have q1 := LX.out.c 1 (v := .int .i64 x) rfl
    have q2 := LX.out.c 2 (v := .bool s) rfl
    have q3 := LX.out.c 3 (v := .slice b1 A.length d1) rfl
    have q4 := LX.out.c 4 (v := .slice e1 D.length f1) rfl
    clear bb
    go_wp2_with fail
    refine hK.out _ _ ?_ (fun hHeld => ?_)
    · first | (with_reducible exact ⟨q0, q1, q2, q3, q4⟩) | ((try dsimp only); with_reducible exact ⟨q0, q1, q2, q3, q4⟩)
    refine wpAnyH_take (i := 7) (oi := _) (v := ?_) rfl (by kernel_rfl) (by kernel_rfl) (by kernel_rfl) (fun _ _ _ h => h) (Or.inl ⟨by rfl, ?_⟩) (by assumption) ?_
    rotate_left
    · (intro w hSw; (try dsimp only at hSw); go_simp; try (with_reducible rfl))
    try simp only [Act.put, List.setIfInBounds_toArray, List.set_cons_zero, List.set_cons_succ, List.getElem_toArray, List.getElem_cons_zero, List.getElem_cons_succ]
    refine wpAnyH_ready (rs := [10]) (by kernel_rfl) (by simp) ?_
    refine AllReadyH.cons (o := _) rfl (fun K hK => ?_) AllReadyH.nil
    go_simp
    (with_reducible refine (KQ.out _ H.out PP.out).mono ?_)
    rintro e w4 ⟨rfl, bb⟩
    have H := hid (H.out.old bb)
    have HN := hid (HN.out.old bb)
    have LX := hid (LX.out.old bb)
    have PP := hid (PP.out.old bb)
    have B := hid (B.out.trans (bb.mono B.out.size))
    have q0 := LX.out.c 0 (v := .slice a1 T0.length c1) rfl
    have q1 := LX.out.c 1 (v := .int .i64 x) rfl
    have q2 := LX.out.c 2 (v := .bool s) rfl
    have q3 := LX.out.c 3 (v := .slice b1 A.length d1) rfl
    have q4 := LX.out.c 4 (v := .slice e1 D.length f1) rfl
    clear bb
    go_wp2_with fail
    refine hK.out _ _ ?_ (fun hHeld => ?_)
    · first | (with_reducible exact ⟨q0, q1, q2, q3, q4⟩) | ((try dsimp only); with_reducible exact ⟨q0, q1, q2, q3, q4⟩)
    refine wpAnyH_take (i := 11) (oi := _) (v := ?_) rfl (by kernel_rfl) (by kernel_rfl) (by kernel_rfl) (fun _ _ _ h => h) (Or.inl ⟨by rfl, ?_⟩) (by assumption) ?_
    rotate_left
    · (intro w hSw; (try dsimp only at hSw); go_simp; try (with_reducible rfl))
    try simp only [Act.put, List.setIfInBounds_toArray, List.set_cons_zero, List.set_cons_succ, List.getElem_toArray, List.getElem_cons_zero, List.getElem_cons_succ]
    refine wpAnyH_take (i := 12) (oi := _) (v := ?_) rfl (by kernel_rfl) (by kernel_rfl) (by kernel_rfl) (fun _ _ _ h => h) (Or.inl ⟨by rfl, ?_⟩) (by assumption) ?_
    rotate_left
    · (intro w hSw; (try dsimp only at hSw); go_simp; try (with_reducible rfl))
    try simp only [Act.put, List.setIfInBounds_toArray, List.set_cons_zero, List.set_cons_succ, List.getElem_toArray, List.getElem_cons_zero, List.getElem_cons_succ]
    refine wpAnyH_done (by kernel_rfl) ?_ _
    clear q0 q1 q2 q3 q4
    go_wp2
    go_ret
    exact StrP_mk (by rw [HR.out, fmtW, if_pos ho, HTX.out.1, HTX.out.2.1, HTX.out.2.2]) B.out
set_option maxRecDepth 100000 in
set_option maxHeartbeats 12800000 in
theorem spec_FormatRow {t v u : Value} {T0 : List Tq} {A D : List Int} {gN cN : Nat} {N : List ByteArray} (x : Int) (s : Bool) (hK : SmT T0) (la : A.length ≤ 1048576) (ld : D.length ≤ 1048576) (hN : N.length ≤ 1048576) (hNs : ∀ x ∈ N, x.size ≤ 1048576) (w : World) (h : RwW w t v u T0 A D) (hn : NmS w gN N) :
    Calls Tryz.prog 8 #[.agg #[t, .int .i64 x, .bool s, v, u], .slice (some ⟨gN, 0, none⟩) N.length cN] w (StrP (fmtW T0 x s A D N) w) := by
  obtain ⟨a1, c1, b1, d1, e1, f1, rfl, rfl, rfl⟩ := h.form
  have B := hid (below_new' (w := w) (o := .cells #[.slice a1 T0.length c1, .int .i64 x, .bool s, .slice b1 A.length d1, .slice e1 D.length f1] 39))
  have LX := hid (LocA.new (w := w) (T := 39) (cs := #[.slice a1 T0.length c1, .int .i64 x, .bool s, .slice b1 A.length d1, .slice e1 D.length f1]))
  have H := hid (h.old B.out)
  have HN := hid (hn.old B.out)
  clear h hn
  have KO := hid (fun (W : World) (g : RwW W (.slice a1 T0.length c1) (.slice b1 A.length d1) (.slice e1 D.length f1) T0 A D) => spec_RowOk x s hK la ld (N.length : Int) (by omega) (by omega) W g)
  have hzT := fmtT_size (T0 := T0) hNs
  have hzR := fmtR_size (s := s) (A := A) (D := D)
  have hzS := spS_size x
  have hzF := fmtS_size x
  have KT := hid (fun (W : World) (g : RwW W (.slice a1 T0.length c1) (.slice b1 A.length d1) (.slice e1 D.length f1) T0 A D) (n : NmS W gN N) => show Calls Tryz.prog 27 #[.slice a1 T0.length c1, .slice (some ⟨gN, 0, none⟩) N.length cN] W (StrP (fmtT T0 N) W) from by
    obtain ⟨⟨_, _, _, y⟩, -⟩ := g
    exact spec_FormatTerms hK hN hNs W y n.lt n.c)
  have KQ := hid (fun (W : World) (g : RwW W (.slice a1 T0.length c1) (.slice b1 A.length d1) (.slice e1 D.length f1) T0 A D) => spec_FormatRat s (.slice b1 A.length d1) (.slice e1 D.length f1) A D W (g.rl la ld))
  have KS := hid (fun (W : World) => spec_FormatSense x W)
  obtain ⟨R, hR⟩ : ∃ R, R = fmtW T0 x s A D N := ⟨_, rfl⟩
  rw [← hR]
  have HR := hid hR
  clear hR
  obtain ⟨tx, htx⟩ : ∃ tx, fmtT T0 N = tx := ⟨_, rfl⟩
  obtain ⟨rx, hrx⟩ : ∃ rx, fmtR s A D = rx := ⟨_, rfl⟩
  obtain ⟨sx, hsx⟩ : ∃ sx, fmtS x = sx := ⟨_, rfl⟩
  rw [htx] at KT hzT
  rw [hrx] at KQ hzR
  rw [hsx] at KS hzF
  have HTX := hid (And.intro htx (And.intro hrx hsx))
  clear htx hrx hsx
  generalize hW : w.alloc (.cells #[.slice a1 T0.length c1, .int .i64 x, .bool s, .slice b1 A.length d1, .slice e1 D.length f1] 39) = W0 at B LX H HN
  have HW := hid hW
  clear hW
  cases ho : rowOk T0 x s A D N.length with
  | false =>
    rw [ho] at KO
    go_enter Tryz.func8, Tryz.ntmps8
    go_wp2_with fail
    rw [HW.out]
    (with_reducible refine (KO.out _ H.out).mono ?_)
    rintro e w1 ⟨rfl, bb⟩
    have H := hid (H.out.old bb)
    have HN := hid (HN.out.old bb)
    have LX := hid (LX.out.old bb)
    have B := hid (B.out.trans (bb.mono B.out.size))
    clear bb
    go_wp2
    go_ret
    exact StrP_mk (by rw [HR.out, fmtW, ho]; rfl) B.out
  | true =>
    rw [ho] at KO
    go_enter Tryz.func8, Tryz.ntmps8
    go_wp2_with fail
    rw [HW.out]
    (with_reducible refine (KO.out _ H.out).mono ?_)
    rintro e w1 ⟨rfl, bb⟩
    have H := hid (H.out.old bb)
    have HN := hid (HN.out.old bb)
    have LX := hid (LX.out.old bb)
    have B := hid (B.out.trans (bb.mono B.out.size))
    clear bb
    have H := hid (H.out.old (Below_drew1 (Below.refl _ _)))
    have HN := hid (HN.out.old (Below_drew1 (Below.refl _ _)))
    have LX := hid (LX.out.old (Below_drew1 (Below.refl _ _)))
    have B := hid (Below_drew1 B.out)
    have q0 := LX.out.c 0 (v := .slice a1 T0.length c1) rfl
    have q1 := LX.out.c 1 (v := .int .i64 x) rfl
    have q2 := LX.out.c 2 (v := .bool s) rfl
    have q3 := LX.out.c 3 (v := .slice b1 A.length d1) rfl
    have q4 := LX.out.c 4 (v := .slice e1 D.length f1) rfl
    have f0 : (9223372036854775807 < tx.size + 1) = False := eq_false (by omega)
    have ff1 : tx.size + 1 ≤ 9223372036854775807 := by omega
    have f2 : (9223372036854775806 < tx.size) = False := eq_false (by omega)
    have f3 : tx.size ≤ 9223372036854775806 := by omega
    have f4 : (9223372036854775807 < tx.size + 1 + sx.size) = False := eq_false (by omega)
    have f5 : tx.size + 1 + sx.size ≤ 9223372036854775807 := by omega
    have f6 : (9223372036854775807 < tx.size + 1 + sx.size + 1) = False := eq_false (by omega)
    have f7 : tx.size + 1 + sx.size + 1 ≤ 9223372036854775807 := by omega
    have f8 : (9223372036854775806 < tx.size + 1 + sx.size) = False := eq_false (by omega)
    have f9 : tx.size + 1 + sx.size ≤ 9223372036854775806 := by omega
    have f10 : (9223372036854775807 < tx.size + 1 + sx.size + 1 + rx.size) = False := eq_false (by omega)
    have f11 : tx.size + 1 + sx.size + 1 + rx.size ≤ 9223372036854775807 := by omega
    go_wp2_with fail
    refine wp_region_held_drew (S := (fun w' => w'.cell? ⟨w.heap.size, 0, none⟩ = some (.slice a1 T0.length c1) ∧ w'.cell? ⟨w.heap.size, 1, none⟩ = some (.int .i64 x) ∧ w'.cell? ⟨w.heap.size, 2, none⟩ = some (.bool s) ∧ w'.cell? ⟨w.heap.size, 3, none⟩ = some (.slice b1 A.length d1) ∧ w'.cell? ⟨w.heap.size, 4, none⟩ = some (.slice e1 D.length f1))) (by kernel_rfl) (by first | (with_reducible exact ⟨q0, q1, q2, q3, q4⟩) | ((try dsimp only); with_reducible exact ⟨q0, q1, q2, q3, q4⟩)) (fun hHeld => ?_)
    refine wpAnyH_take (i := 0) (oi := _) (v := ?_) rfl (by kernel_rfl) (by kernel_rfl) (by kernel_rfl) (fun _ _ _ h => h) (Or.inl ⟨by rfl, ?_⟩) (by assumption) ?_
    rotate_left
    · (intro w hSw; (try dsimp only at hSw); go_simp; try (with_reducible rfl))
    try simp only [Act.put, List.setIfInBounds_toArray, List.set_cons_zero, List.set_cons_succ, List.getElem_toArray, List.getElem_cons_zero]
    refine wpAnyH_take (i := 1) (oi := _) (v := ?_) rfl (by kernel_rfl) (by kernel_rfl) (by kernel_rfl) (fun _ _ _ h => h) (Or.inl ⟨by rfl, ?_⟩) (by assumption) ?_
    rotate_left
    · (intro w hSw; (try dsimp only at hSw); go_simp; try (with_reducible rfl))
    try simp only [Act.put, List.setIfInBounds_toArray, List.set_cons_zero, List.set_cons_succ, List.getElem_toArray, List.getElem_cons_zero, List.getElem_cons_succ]
    refine wpAnyH_take (i := 2) (oi := _) (v := ?_) rfl (by kernel_rfl) (by kernel_rfl) (by kernel_rfl) (fun _ _ _ h => h) (Or.inl ⟨by rfl, ?_⟩) (by assumption) ?_
    rotate_left
    · (intro w hSw; (try dsimp only at hSw); go_simp; try (with_reducible rfl))
    try simp only [Act.put, List.setIfInBounds_toArray, List.set_cons_zero, List.set_cons_succ, List.getElem_toArray, List.getElem_cons_zero, List.getElem_cons_succ]
    refine wpAnyH_take (i := 5) (oi := _) (v := ?_) rfl (by kernel_rfl) (by kernel_rfl) (by kernel_rfl) (fun _ _ _ h => h) (Or.inl ⟨by rfl, ?_⟩) (by assumption) ?_
    rotate_left
    · (intro w hSw; (try dsimp only at hSw); go_simp; try (with_reducible rfl))
    try simp only [Act.put, List.setIfInBounds_toArray, List.set_cons_zero, List.set_cons_succ, List.getElem_toArray, List.getElem_cons_zero, List.getElem_cons_succ]
    refine wpAnyH_take (i := 6) (oi := _) (v := ?_) rfl (by kernel_rfl) (by kernel_rfl) (by kernel_rfl) (fun _ _ _ h => h) (Or.inl ⟨by rfl, ?_⟩) (by assumption) ?_
    rotate_left
    · (intro w hSw; (try dsimp only at hSw); go_simp; try (with_reducible rfl))
    try simp only [Act.put, List.setIfInBounds_toArray, List.set_cons_zero, List.set_cons_succ, List.getElem_toArray, List.getElem_cons_zero, List.getElem_cons_succ]
    refine wpAnyH_take (i := 10) (oi := _) (v := ?_) rfl (by kernel_rfl) (by kernel_rfl) (by kernel_rfl) (fun _ _ _ h => h) (Or.inl ⟨by rfl, ?_⟩) (by assumption) ?_
    rotate_left
    · (intro w hSw; (try dsimp only at hSw); go_simp; try (with_reducible rfl))
    try simp only [Act.put, List.setIfInBounds_toArray, List.set_cons_zero, List.set_cons_succ, List.getElem_toArray, List.getElem_cons_zero, List.getElem_cons_succ]
    refine wpAnyH_take (i := 11) (oi := _) (v := ?_) rfl (by kernel_rfl) (by kernel_rfl) (by kernel_rfl) (fun _ _ _ h => h) (Or.inl ⟨by rfl, ?_⟩) (by assumption) ?_
    rotate_left
    · (intro w hSw; (try dsimp only at hSw); go_simp; try (with_reducible rfl))
    try simp only [Act.put, List.setIfInBounds_toArray, List.set_cons_zero, List.set_cons_succ, List.getElem_toArray, List.getElem_cons_zero, List.getElem_cons_succ]
    refine wpAnyH_ready (rs := [3]) (by kernel_rfl) (by simp) ?_
    refine AllReadyH.cons (o := _) rfl (fun K hK => ?_) AllReadyH.nil
    go_simp
    (with_reducible refine (KT.out _ H.out HN.out).mono ?_)
    rintro e w2 ⟨rfl, bb⟩
    have H := hid (H.out.old bb)
    have HN := hid (HN.out.old bb)
    have LX := hid (LX.out.old bb)
    have B := hid (B.out.trans (bb.mono B.out.size))
    have q0 := LX.out.c 0 (v := .slice a1 T0.length c1) rfl
    have q1 := LX.out.c 1 (v := .int .i64 x) rfl
    have q2 := LX.out.c 2 (v := .bool s) rfl
    have q3 := LX.out.c 3 (v := .slice b1 A.length d1) rfl
    have q4 := LX.out.c 4 (v := .slice e1 D.length f1) rfl
    clear bb
    go_wp2_with fail
    refine hK.out _ _ ?_ (fun hHeld => ?_)
    · first | (with_reducible exact ⟨q0, q1, q2, q3, q4⟩) | ((try dsimp only); with_reducible exact ⟨q0, q1, q2, q3, q4⟩)
    refine wpAnyH_take (i := 4) (oi := _) (v := ?_) rfl (by kernel_rfl) (by kernel_rfl) (by kernel_rfl) (fun _ _ _ h => h) (Or.inl ⟨by rfl, ?_⟩) (by assumption) ?_
    rotate_left
    · (intro w hSw; (try dsimp only at hSw); go_simp; try (with_reducible rfl))
    try simp only [Act.put, List.setIfInBounds_toArray, List.set_cons_zero, List.set_cons_succ, List.getElem_toArray, List.getElem_cons_zero, List.getElem_cons_succ]
    refine wpAnyH_ready (rs := [7]) (by kernel_rfl) (by simp) ?_
    refine AllReadyH.cons (o := _) rfl (fun K hK => ?_) AllReadyH.nil
    go_simp
    (with_reducible refine (KS.out _).mono ?_)
    rintro e w3 ⟨rfl, bb⟩
    have H := hid (H.out.old bb)
    have HN := hid (HN.out.old bb)
    have LX := hid (LX.out.old bb)
    have B := hid (B.out.trans (bb.mono B.out.size))
    have q0 := LX.out.c 0 (v := .slice a1 T0.length c1) rfl
    have q1 := LX.out.c 1 (v := .int .i64 x) rfl
    have q2 := LX.out.c 2 (v := .bool s) rfl
    have q3 := LX.out.c 3 (v := .slice b1 A.length d1) rfl
    have q4 := LX.out.c 4 (v := .slice e1 D.length f1) rfl
    clear bb
    go_wp2_with fail
    refine hK.out _ _ ?_ (fun hHeld => ?_)
    · first | (with_reducible exact ⟨q0, q1, q2, q3, q4⟩) | ((try dsimp only); with_reducible exact ⟨q0, q1, q2, q3, q4⟩)
    refine wpAnyH_take (i := 8) (oi := _) (v := ?_) rfl (by kernel_rfl) (by kernel_rfl) (by kernel_rfl) (fun _ _ _ h => h) (Or.inl ⟨by rfl, ?_⟩) (by assumption) ?_
    rotate_left
    · (intro w hSw; (try dsimp only at hSw); go_simp; try (with_reducible rfl))
    try simp only [Act.put, List.setIfInBounds_toArray, List.set_cons_zero, List.set_cons_succ, List.getElem_toArray, List.getElem_cons_zero, List.getElem_cons_succ]
    refine wpAnyH_take (i := 9) (oi := _) (v := ?_) rfl (by kernel_rfl) (by kernel_rfl) (by kernel_rfl) (fun _ _ _ h => h) (Or.inl ⟨by rfl, ?_⟩) (by assumption) ?_
    rotate_left
    · (intro w hSw; (try dsimp only at hSw); go_simp; try (with_reducible rfl))
    try simp only [Act.put, List.setIfInBounds_toArray, List.set_cons_zero, List.set_cons_succ, List.getElem_toArray, List.getElem_cons_zero, List.getElem_cons_succ]
    refine wpAnyH_ready (rs := [12]) (by kernel_rfl) (by simp) ?_
    refine AllReadyH.cons (o := _) rfl (fun K hK => ?_) AllReadyH.nil
    go_simp
    (with_reducible refine (KQ.out _ H.out).mono ?_)
    rintro e w4 ⟨rfl, bb⟩
    have H := hid (H.out.old bb)
    have HN := hid (HN.out.old bb)
    have LX := hid (LX.out.old bb)
    have B := hid (B.out.trans (bb.mono B.out.size))
    have q0 := LX.out.c 0 (v := .slice a1 T0.length c1) rfl
    have q1 := LX.out.c 1 (v := .int .i64 x) rfl
    have q2 := LX.out.c 2 (v := .bool s) rfl
    have q3 := LX.out.c 3 (v := .slice b1 A.length d1) rfl
    have q4 := LX.out.c 4 (v := .slice e1 D.length f1) rfl
    clear bb
    go_wp2_with fail
    refine hK.out _ _ ?_ (fun hHeld => ?_)
    · first | (with_reducible exact ⟨q0, q1, q2, q3, q4⟩) | ((try dsimp only); with_reducible exact ⟨q0, q1, q2, q3, q4⟩)
    refine wpAnyH_take (i := 13) (oi := _) (v := ?_) rfl (by kernel_rfl) (by kernel_rfl) (by kernel_rfl) (fun _ _ _ h => h) (Or.inl ⟨by rfl, ?_⟩) (by assumption) ?_
    rotate_left
    · (intro w hSw; (try dsimp only at hSw); go_simp; try (with_reducible rfl))
    try simp only [Act.put, List.setIfInBounds_toArray, List.set_cons_zero, List.set_cons_succ, List.getElem_toArray, List.getElem_cons_zero, List.getElem_cons_succ]
    refine wpAnyH_take (i := 14) (oi := _) (v := ?_) rfl (by kernel_rfl) (by kernel_rfl) (by kernel_rfl) (fun _ _ _ h => h) (Or.inl ⟨by rfl, ?_⟩) (by assumption) ?_
    rotate_left
    · (intro w hSw; (try dsimp only at hSw); go_simp; try (with_reducible rfl))
    try simp only [Act.put, List.setIfInBounds_toArray, List.set_cons_zero, List.set_cons_succ, List.getElem_toArray, List.getElem_cons_zero, List.getElem_cons_succ]
    refine wpAnyH_done (by kernel_rfl) ?_ _
    clear q0 q1 q2 q3 q4
    go_wp2
    go_ret
    exact StrP_mk (by rw [HR.out, fmtW, if_pos ho, HTX.out.1, HTX.out.2.1]; exact fmtW_assoc _ _ _ x HTX.out.2.2.symm) B.out
end Go.Proofs.YthkehmnodcmlcaaGreatDoor
