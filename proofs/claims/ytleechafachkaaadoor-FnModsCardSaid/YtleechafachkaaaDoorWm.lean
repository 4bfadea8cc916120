/- The program's product of two structs. -/
import Derived.Test.YtleechafachkaaaDoorWl
import Derived.Deep.RegionHeld3
namespace Go.Proofs.YtleechafachkaaaDoor
open Go.RowKit
open Go.Lib (hid)
set_option linter.unusedVariables false

theorem sval_mul {s t : Bool} {x y : Int} : sval s x * sval t y = sval (s != t) (x * y) := by cases s <;> cases t <;> simp [sval, Int.neg_mul, Int.mul_neg]
/-- The magnitude that a capped product stands for. -/
def capV (V : Int) : Int := if V < pw 60 then V else 0
theorem capV_nonneg {V : Int} (h : 0 ≤ V) : 0 ≤ capV V := by unfold capV; split <;> omega
theorem capV_rep {V : Int} : capped V = rep (capV V).toNat := by unfold capped capV; split <;> simp [rep_zero]
theorem gzs_capV {s : Bool} {V : Int} (h : 0 ≤ V) : gzs (sval s (capV V)) = gzs (sval s V) := by
  unfold capV
  split
  · rfl
  · next hb => rw [gzs_big (Z := sval s V) (by rw [sval_abs h]; omega)]; cases s <;> simp [sval, gzs]
theorem gzl_capV {s : Bool} {V : Int} (h : 0 ≤ V) : gzl (sval s (capV V)) = gzl (sval s V) := by
  unfold capV
  split
  · rfl
  · next hb => rw [gzl_big (Z := sval s V) (by rw [sval_abs h]; omega)]; cases s <;> simp [sval, gzl_zero]
theorem cell_set2 {w : World} {b N i : Nat} {u v : Value} (h : b ≠ N) : ((w.setCell ⟨N, 0, none⟩ u).setCell ⟨N, 1, none⟩ v).cell? ⟨b, i, none⟩ = w.cell? ⟨b, i, none⟩ := World.cell?_of_block (w := w) (a := ⟨b, i, none⟩) ((set_block _ _ _ _ _ h).trans (set_block _ _ _ _ _ h))
theorem cell_of {w : World} {N : Nat} {u v : Value} {T : TypeId} (h : w.heap[N]? = some (.cells #[u, v] T (0, 0))) : w.cell? ⟨N, 0, none⟩ = some u := by simp [World.cell?, h]
theorem cell_of1 {w : World} {N : Nat} {u v : Value} {T : TypeId} (h : w.heap[N]? = some (.cells #[u, v] T (0, 0))) : w.cell? ⟨N, 1, none⟩ = some v := by simp [World.cell?, h]
theorem free_of {w : World} {N : Nat} {u v : Value} {T : TypeId} (h : w.heap[N]? = some (.cells #[u, v] T (0, 0))) (i : Nat) : w.frozen? ⟨N, i, none⟩ = false := by simp [World.frozen?, h]
theorem bigInt_cap (lo : Nat) (s : Bool) (N : Nat) (v : Value) (V : Int) (h0 : 0 ≤ V) (w : World) (h : IsNat (wholeQ s) w (fun k => lo ≤ k) N v (capped V)) :
    Calls Tryd.prog 33 #[.pointer (some ⟨N, 0, none⟩)] w (GivB lo (gzs (sval s V)) (gzl (sval s V)) w) := by
  rw [← gzs_capV h0, ← gzl_capV h0]
  exact bigInt_own lo s N v _ (capV_nonneg h0) w (by rw [← capV_rep]; exact h)
/-- A whole in a block that the call has laid before. -/
theorem IsNat_laid {w w1 : World} {N B : Nat} {s : Bool} {v : Value} {L : List Int} (h0 : w1.heap[N]? = some (.cells #[.slice none 0 0, .bool false] 58 (0, 0))) (hN : w.heap.size ≤ N) (h : Ints w1 B v L) (hb : Below w.heap.size w w1) (hB : w.heap.size ≤ B) :
    IsNat (wholeQ s) ((w1.setCell ⟨N, 0, none⟩ v).setCell ⟨N, 1, none⟩ (.bool s)) (fun k => w.heap.size ≤ k) N v L ∧ Below w.heap.size w ((w1.setCell ⟨N, 0, none⟩ v).setCell ⟨N, 1, none⟩ (.bool s)) := by
  have hne : v.ownBlock ≠ some N := by
    rcases h.2 with ⟨rfl, _⟩ | ⟨g, cap, cur, rfl, h2, h3, _⟩
    · simp [Value.ownBlock]
    · intro he
      have : g = N := by simpa [Value.ownBlock] using he
      subst this
      rw [h3] at h0
      simp at h0
  refine ⟨⟨?_, hN, Ints_base (Ints_set (Ints_set h hne) hne) (Nat.zero_le _), fun k hk => by have := (Ints_lt h k hk).1; omega⟩, (hb.setCell hN _).setCell hN _⟩
  simp [World.setCell, Array.getElem?_modify, h0, Rest.obj, wholeQ]

set_option maxRecDepth 100000 in
set_option maxHeartbeats 3200000 in
theorem impl_BigIntMul (s t : Bool) (v u : Value) (A B : List Int) (hA : A.length ≤ 1073741824) (hB : B.length ≤ 1073741824) (b1 b2 : Nat) (w : World) (h1 : Ints w b1 v A) (h2 : Ints w b2 u B) :
    Calls Tryd.prog 9 #[.agg #[.bool s, v], .agg #[.bool t, u]] w (OwnG (gzs (bin (fun x y => x * y) s A t B)) (gzl (bin (fun x y => x * y) s A t B)) w) := by
  obtain ⟨Z, hZ⟩ : ∃ Z, Z = bin (fun x y => x * y) s A t B := ⟨_, rfl⟩
  have HZ := hid hZ
  rw [← hZ]
  clear hZ
  obtain ⟨gs, hgs⟩ : ∃ g, g = gzs Z := ⟨_, rfl⟩
  rw [← hgs]
  have HGS := hid hgs
  clear hgs
  have KA := hid (fun (W : World) (h : Ints W b1 v A) => impl_BigIntOk_own s v A hA b1 W h)
  have KB := hid (fun (W : World) (h : Ints W b2 u B) => impl_BigIntOk_own t u B hB b2 W h)
  have B0 := hid (W3_below (w := w) (s := s) (v := v) (t := t) (u := u) (T := 25))
  have L1 := hid (W3_1 (w := w) (s := s) (v := v) (t := t) (u := u) (T := 25))
  have L2 := hid (W3_2 (w := w) (s := s) (v := v) (t := t) (u := u) (T := 25))
  have L3 := hid (W3_3 (w := w) (s := s) (v := v) (t := t) (u := u) (T := 25))
  have I1 := hid (Ints_old h1 B0.out)
  have I2 := hid (Ints_old h2 B0.out)
  obtain ⟨a, c, rfl, -⟩ := Ints_form h1
  obtain ⟨a', c', rfl, -⟩ := Ints_form h2
  clear h1 h2
  cases e1 : bok s A with
  | false =>
    have hE := hid (HZ.out.trans (bin_no (.inl e1)))
    rw [e1] at KA
    clear e1
    go_enter Tryd.func9, Tryd.ntmps9
    go_wp2_with fail
    change Calls _ _ _ (W3 w s (.slice a A.length c) t (.slice a' B.length c') 25) _
    refine (KA.out _ I1.out).mono ?_
    rintro e w1 ⟨rfl, b1⟩
    have B0 := hid (B0.out.trans (b1.mono B0.out.size))
    have L3 := hid (L3.out.old b1)
    clear b1
    have f0 := L3.out.f0 0
    have f1 := L3.out.f0 1
    have p0 := L3.out.c0
    have p1 := L3.out.c1
    have R := hid (OwnG_zero (T := 25) HGS.out rfl hE.out rfl B0.out)
    clear hE
    go_wp2
    exact bodyPost_ret (v := .agg #[.bool false, .slice none 0 0]) (by simp [results, Tryd.results9, go_sem, p0, p1]) rfl R.out
  | true =>
    rw [e1] at KA
    cases e2 : bok t B with
    | false =>
      have hE := hid (HZ.out.trans (bin_no (.inr e2)))
      rw [e2] at KB
      clear e1 e2
      go_enter Tryd.func9, Tryd.ntmps9
      go_wp2_with fail
      change Calls _ _ _ (W3 w s (.slice a A.length c) t (.slice a' B.length c') 25) _
      refine (KA.out _ I1.out).mono ?_
      rintro e w1 ⟨rfl, b1⟩
      have B0 := hid (B0.out.trans (b1.mono B0.out.size))
      have I2 := hid (Ints_old I2.out b1)
      have L2 := hid (L2.out.old b1)
      have L3 := hid (L3.out.old b1)
      have q0 := L2.out.c0
      have q1 := L2.out.c1
      clear b1
      go_wp2_with fail
      refine (KB.out _ I2.out).mono ?_
      rintro e w2 ⟨rfl, b1⟩
      have B0 := hid (B0.out.trans (b1.mono B0.out.size))
      have L3 := hid (L3.out.old b1)
      clear b1 q0 q1
      have f0 := L3.out.f0 0
      have f1 := L3.out.f0 1
      have p0 := L3.out.c0
      have p1 := L3.out.c1
      have R := hid (OwnG_zero (T := 25) HGS.out rfl hE.out rfl B0.out)
      clear hE
      go_wp2
      exact bodyPost_ret (v := .agg #[.bool false, .slice none 0 0]) (by simp [results, Tryd.results9, go_sem, p0, p1]) rfl R.out
    | true =>
      have hE := hid (HZ.out.trans (bin_yes e1 e2))
      rw [e2] at KB
      have nA := hid (bok_iff.1 e1).1
      have nB := hid (bok_iff.1 e2).1
      clear e1 e2
      go_enter Tryd.func9, Tryd.ntmps9
      go_wp2_with fail
      change Calls _ _ _ (W3 w s (.slice a A.length c) t (.slice a' B.length c') 25) _
      refine (KA.out _ I1.out).mono ?_
      rintro e w1 ⟨rfl, b1⟩
      have B0 := hid (B0.out.trans (b1.mono B0.out.size))
      have I1 := hid (Ints_old I1.out b1)
      have I2 := hid (Ints_old I2.out b1)
      have L1 := hid (L1.out.old b1)
      have L2 := hid (L2.out.old b1)
      have L3 := hid (L3.out.old b1)
      have q0 := L2.out.c0
      have q1 := L2.out.c1
      clear b1
      go_wp2_with fail
      refine (KB.out _ I2.out).mono ?_
      rintro e w2 ⟨rfl, b1⟩
      have B0 := hid (B0.out.trans (b1.mono B0.out.size))
      have I1 := hid (Ints_old I1.out b1)
      have I2 := hid (Ints_old I2.out b1)
      have L1 := hid (L1.out.old b1)
      have L2 := hid (L2.out.old b1)
      have L3 := hid (L3.out.old b1)
      clear b1 q0 q1
      have q0 := L2.out.c0
      have q1 := L2.out.c1
      have q2 := L1.out.c0
      have q3 := L1.out.c1
      have KM := hid (fun (W : World) (h : Ints W b1 (.slice a A.length c) A) (h' : Ints W b2 (.slice a' B.length c') B) => impl_NatMul _ _ A B hA hB _ _ W h h')
      rw [mulR_yes nA.out nB.out] at KM
      have hE2 := hid (hE.out.trans sval_mul)
      have J1 := hid (show Ints w2.drew b1 (.slice a A.length c) A from I1.out)
      have J2 := hid (show Ints w2.drew b2 (.slice a' B.length c') B from I2.out)
      have M1 := hid (show Loc 25 w2.drew w.heap.size s (.slice a A.length c) from L1.out)
      have M2 := hid (show Loc 25 w2.drew (w.heap.size + 1) t (.slice a' B.length c') from L2.out)
      have M3 := hid (show Loc 25 w2.drew (w.heap.size + 1 + 1) false (.slice none 0 0) from L3.out)
      have BD := hid (show Below w.heap.size w w2.drew from Below_drew1 B0.out)
      have q0 : w2.drew.cell? ⟨w.heap.size + 1, 0, none⟩ = _ := M2.out.c0
      have q1 : w2.drew.cell? ⟨w.heap.size + 1, 1, none⟩ = _ := M2.out.c1
      have q2 : w2.drew.cell? ⟨w.heap.size, 0, none⟩ = _ := M1.out.c0
      have q3 : w2.drew.cell? ⟨w.heap.size, 1, none⟩ = _ := M1.out.c1
      have P1 := hid (show Ints (w2.alloc (.cells #[.slice none 0 0, .bool false] 58)).drew b1 (.slice a A.length c) A from addPre I1.out)
      have P2 := hid (show Ints (w2.alloc (.cells #[.slice none 0 0, .bool false] 58)).drew b2 (.slice a' B.length c') B from addPre I2.out)
      have O1 := hid (show Loc 25 (w2.alloc (.cells #[.slice none 0 0, .bool false] 58)).drew w.heap.size s (.slice a A.length c) from L1.out.new1)
      have O2 := hid (show Loc 25 (w2.alloc (.cells #[.slice none 0 0, .bool false] 58)).drew (w.heap.size + 1) t (.slice a' B.length c') from L2.out.new1)
      have O3 := hid (show Loc 25 (w2.alloc (.cells #[.slice none 0 0, .bool false] 58)).drew (w.heap.size + 1 + 1) false (.slice none 0 0) from L3.out.new1)
      have N0 := hid (show w2.heap.size < (w2.alloc (.cells #[.slice none 0 0, .bool false] 58)).drew.heap.size ∧ (w2.alloc (.cells #[.slice none 0 0, .bool false] 58)).drew.heap[w2.heap.size]? = some (.cells #[.slice none 0 0, .bool false] 58 (0, 0)) from ⟨by show w2.heap.size < (w2.alloc _).heap.size; simp, heap_alloc_new w2 _⟩)
      have ZZ := hid (show w.heap.size ≠ w2.heap.size ∧ w.heap.size + 1 ≠ w2.heap.size from ⟨by have := L1.out.lt; omega, by have := L2.out.lt; omega⟩)
      have BA := hid (show Below w.heap.size w (w2.alloc (.cells #[.slice none 0 0, .bool false] 58)).drew from Below_drew1 (B0.out.alloc B0.out.size _))
      go_wp2_with fail
      go_region_held3 (fun w' => w'.cell? ⟨w.heap.size, 0, none⟩ = some (.bool s) ∧ w'.cell? ⟨w.heap.size, 1, none⟩ = some (.slice a A.length c) ∧ w'.cell? ⟨w.heap.size + 1, 0, none⟩ = some (.bool t) ∧ w'.cell? ⟨w.heap.size + 1, 1, none⟩ = some (.slice a' B.length c'))
        (first | exact ⟨q2, q3, q0, q1⟩ | exact ⟨p2, p3, p0, p1⟩ | exact ⟨(cell_set2 ZZ.out.1).trans p2, (cell_set2 ZZ.out.1).trans p3, (cell_set2 ZZ.out.2).trans p0, (cell_set2 ZZ.out.2).trans p1⟩ | go_keep)
        (first | (go_at_call 32; (with_reducible refine (KM.out _ J1.out J2.out).mono ?_); rintro e w3 ⟨x, rfl, ix, bx⟩; have p0 := (M2.out.old bx).c0; have p1 := (M2.out.old bx).c1; have p2 := (M1.out.old bx).c0; have p3 := (M1.out.old bx).c1; have IX := hid ix; have BX := hid bx; obtain ⟨ax, cx, rfl, -⟩ := Ints_form ix; clear ix bx) | (go_at_call 32; (with_reducible refine (KM.out _ P1.out P2.out).mono ?_); rintro e w3 ⟨x, rfl, ix, bx⟩; have p0 := (O2.out.old bx).c0; have p1 := (O2.out.old bx).c1; have p2 := (O1.out.old bx).c0; have p3 := (O1.out.old bx).c1; have H0 := hid ((bx.block _ N0.out.1).trans N0.out.2); have r0 := cell_of H0.out; have r1 := cell_of1 H0.out; have r2 := free_of H0.out 0; have r3 := free_of H0.out 1; have IX := hid ix; have BX := hid bx; obtain ⟨ax, cx, rfl, -⟩ := Ints_form ix; clear ix bx))
      all_goals
        first
        | (have F := IsNat_whole (s := !(s == t)) IX.out (BD.out.trans (BX.out.mono BD.out.size)) BD.out.size
           have F1 := hid F.1
           have BF := hid F.2
           have LF := hid ((M3.out.old BX.out).new1 (o := .cells #[.slice ax (capped (val A * val B)).length cx, .bool (!(s == t))] 58))
           clear F)
        | (have F := IsNat_laid (s := !(s == t)) H0.out (show w.heap.size ≤ w2.heap.size from B0.out.size) IX.out (BA.out.trans (BX.out.mono BA.out.size)) BA.out.size
           have F1 := hid F.1
           have BF := hid F.2
           have LF := hid (show Loc 25 ((w3.setCell ⟨w2.heap.size, 0, none⟩ (.slice ax (capped (val A * val B)).length cx)).setCell ⟨w2.heap.size, 1, none⟩ (.bool (!(s == t)))) (w.heap.size + 1 + 1) false (.slice none 0 0) from
             (O3.out.old BX.out).block ((set_block _ _ _ _ _ (by have := L3.out.lt; omega)).trans (set_block _ _ _ _ _ (by have := L3.out.lt; omega))))
           clear F)
        have hP := hid (Int.mul_nonneg (val_nonneg (nok_lim nA.out)) (val_nonneg (nok_lim nB.out)))
        clear q0 q1 q2 q3 p0 p1 p2 p3
        try clear r0 r1 r2 r3
        go_wp2_with fail
        refine (bigInt_cap _ _ _ _ _ hP.out _ F1.out).mono ?_
        rintro e w5 ⟨r, rfl, ir, b5⟩
        rw [show (!(s == t)) = (s != t) from rfl, ← hE2.out] at ir
        rw [show (!(s == t)) = (s != t) from rfl, ← hE2.out, ← HGS.out]
        have LF := hid (LF.out.old b5)
        have BF := hid (BF.out.trans (b5.mono BF.out.size))
        have R := hid (OwnG_out2 (s := gs) (Nat.le_refl _) rfl LF.out (by decide) ir BF.out)
        obtain ⟨ar, cr, rfl, -⟩ := Ints_form ir
        have f0 := LF.out.f0 0
        have f1 := LF.out.f0 1
        have g0 := LF.out.c0
        have g1 := LF.out.c1
        clear ir b5
        go_wp2
        exact bodyPost_ret (v := .agg #[.bool gs, .slice ar _ cr]) (by simp [results, Tryd.results9, go_sem, g0, g1]) rfl R.out

end Go.Proofs.YtleechafachkaaaDoor
