/- Merged: Vdt Vdu. -/
import Derived.Test.YtamhmpjadnfpdaaGreatVy
import Derived.Test.YtamhmpjadnfpdaaGreatVs
import Derived.Deep.RegionHeld3
import Derived.Deep.DeepCutAuto
/- Scalar products: the mathematics, the closure. -/
namespace Go.Proofs.YtamhmpjadnfpdaaGreat
open Go.RowKit
open Go.Lib (hid)
set_option linter.unusedVariables false

def dacc (ps : List (Option Rat)) : Option Rat := ps.foldl (fun acc o => bq addF acc o) (some ((0 : Int) : Rat))
theorem dacc_take {ps : List (Option Rat)} {k : Nat} (h : k < ps.length) : dacc (ps.take (k + 1)) = bq addF (dacc (ps.take k)) ps[k] := by
  unfold dacc
  rw [List.take_succ_eq_append_getElem h, List.foldl_append]; rfl
theorem bq_none_r (f : Rat → Rat → Option Rat) (o : Option Rat) : bq f o none = none := by cases o <;> rfl
theorem bq_none_l (f : Rat → Rat → Option Rat) (o : Option Rat) : bq f none o = none := by cases o <;> rfl
theorem fold_none : ∀ ps : List (Option Rat), ps.foldl (fun acc o => bq addF acc o) none = none
  | [] => rfl
  | o :: ps => by simp only [List.foldl_cons, bq_none_l]; exact fold_none ps
theorem dacc_none {ps : List (Option Rat)} {k : Nat} (h : k < ps.length) (hn : ps[k] = none) : dacc ps = none := by
  have h1 := dacc_take h
  rw [hn, bq_none_r] at h1
  have h2 : dacc ps = (ps.drop (k + 1)).foldl (fun acc o => bq addF acc o) (dacc (ps.take (k + 1))) := by
    unfold dacc
    rw [← List.foldl_append, List.take_append_drop]
  rw [h2, h1]
  exact fold_none _
/-- The scalar product, if there is one. -/
def dotO (K L : List Fq) : Option Rat := if K.length = L.length ∧ K.length ≤ 40 then dacc (zw mulF K L) else none
theorem oks_none {K : List Fq} (h : oks (vals K) = false) (h4 : K.length ≤ 40) : ∃ (k : Nat) (hk : k < K.length), K[k].o = none := by
  apply Classical.byContradiction
  intro hc
  have : oks (vals K) = true := oks_yes h4 fun k hk => by
    cases e : K[k].o with
    | none => exact absurd ⟨k, hk, e⟩ hc
    | some x => rfl
  rw [this] at h
  cases h
theorem dot_no {K L : List Fq} (hl : K.length = L.length) (h : oks (vals K) = false ∨ oks (vals L) = false) : dotO K L = none := by
  unfold dotO
  by_cases h4 : K.length ≤ 40
  · rw [if_pos ⟨hl, h4⟩]
    have hz := zw_len (f := mulF) hl
    rcases h with h | h
    · obtain ⟨k, hk, e⟩ := oks_none h h4
      exact dacc_none (k := k) (by rw [hz]; exact hk) (by rw [zw_at hk (by omega) (by rw [hz]; exact hk), e, bq_none_l])
    · obtain ⟨k, hk, e⟩ := oks_none h (by omega)
      exact dacc_none (k := k) (by rw [hz]; omega) (by rw [zw_at (by omega) hk (by rw [hz]; omega), e, bq_none_r])
  · rw [if_neg (by omega)]
theorem dacc_fit {ps : List (Option Rat)} (k : Nat) : fitO (dacc (ps.take k)) := by
  induction k with
  | zero => simp only [List.take_zero, dacc, List.foldl_nil]; exact fitO_zero
  | succ k ih =>
    by_cases h : k < ps.length
    · rw [dacc_take h]; exact fitO_bq fitO_add _ _
    · rw [List.take_of_length_le (by omega)]
      rw [List.take_of_length_le (by omega)] at ih
      exact ih
theorem fitO_dot (K L : List Fq) : fitO (dotO K L) := by
  unfold dotO
  split
  · have := dacc_fit (ps := zw mulF K L) (zw mulF K L).length
    rwa [List.take_length] at this
  · exact fitO_none
set_option maxRecDepth 100000 in
set_option maxHeartbeats 12800000 in
theorem stepDot_w {s : Bool} {a : Option Addr} {n c : Nat} {b : Option Addr} {m d : Nat} {t : Bool} {a' : Option Addr} {n' c' : Nat} {b' : Option Addr} {m' d' : Nat} {sz : Bool} {az : Option Addr} {nz cz : Nat} {bz : Option Addr} {mz dz : Nat} {o : Option Rat} {o' : Option Rat} {oz : Option Rat}  (w : World) (h : RA w s (.slice a n c) (.slice b m d) o) (h' : RA w t (.slice a' n' c') (.slice b' m' d') o') (hz : RA w sz (.slice az nz cz) (.slice bz mz dz) oz) :
    Calls Tryz.prog 143 #[.agg #[.bool s, .slice a n c, .slice b m d], .agg #[.bool t, .slice a' n' c', .slice b' m' d'], .agg #[.bool sz, .slice az nz cz, .slice bz mz dz]] w (RatO true (bq addF o (bq mulF o' oz)) w) := by
  obtain ⟨Q, hQ⟩ : ∃ Q, Q = RatO true (bq addF o (bq mulF o' oz)) w := ⟨_, rfl⟩
  rw [← hQ]
  have HQ := hid hQ
  clear hQ
  have B := hid (show Below w.heap.size w ((((w.alloc (.cells #[.bool s, .slice a n c, .slice b m d] 49)).alloc (.cells #[.bool t, .slice a' n' c', .slice b' m' d'] 49)).alloc (.cells #[.bool sz, .slice az nz cz, .slice bz mz dz] 49)).alloc (.cells #[.bool false, .slice none 0 0, .slice none 0 0] 49)) from ((((Below.refl _ _).alloc (Nat.le_refl _) _).alloc (by simp) _).alloc (by simp; try omega) _).alloc (by simp; try omega) _)
  have LX := hid (show LocA 49 ((((w.alloc (.cells #[.bool s, .slice a n c, .slice b m d] 49)).alloc (.cells #[.bool t, .slice a' n' c', .slice b' m' d'] 49)).alloc (.cells #[.bool sz, .slice az nz cz, .slice bz mz dz] 49)).alloc (.cells #[.bool false, .slice none 0 0, .slice none 0 0] 49)) (w.heap.size) #[.bool s, .slice a n c, .slice b m d] from (LocA.at (by simp)).new1.new1.new1)
  have LY := hid (show LocA 49 ((((w.alloc (.cells #[.bool s, .slice a n c, .slice b m d] 49)).alloc (.cells #[.bool t, .slice a' n' c', .slice b' m' d'] 49)).alloc (.cells #[.bool sz, .slice az nz cz, .slice bz mz dz] 49)).alloc (.cells #[.bool false, .slice none 0 0, .slice none 0 0] 49)) (w.heap.size + 1) #[.bool t, .slice a' n' c', .slice b' m' d'] from (LocA.at (by simp)).new1.new1)
  have LZ := hid (show LocA 49 ((((w.alloc (.cells #[.bool s, .slice a n c, .slice b m d] 49)).alloc (.cells #[.bool t, .slice a' n' c', .slice b' m' d'] 49)).alloc (.cells #[.bool sz, .slice az nz cz, .slice bz mz dz] 49)).alloc (.cells #[.bool false, .slice none 0 0, .slice none 0 0] 49)) (w.heap.size + 1 + 1) #[.bool sz, .slice az nz cz, .slice bz mz dz] from (LocA.at (by simp)).new1)
  have LR := hid (show LocA 49 ((((w.alloc (.cells #[.bool s, .slice a n c, .slice b m d] 49)).alloc (.cells #[.bool t, .slice a' n' c', .slice b' m' d'] 49)).alloc (.cells #[.bool sz, .slice az nz cz, .slice bz mz dz] 49)).alloc (.cells #[.bool false, .slice none 0 0, .slice none 0 0] 49)) (w.heap.size + 1 + 1 + 1) #[.bool false, .slice none 0 0, .slice none 0 0] from LocA.at (by simp))
  have X := hid (h.old B.out)
  have Y := hid (h'.old B.out)
  have Z := hid (hz.old B.out)
  clear h h' hz
  generalize hW : (((w.alloc (.cells #[.bool s, .slice a n c, .slice b m d] 49)).alloc (.cells #[.bool t, .slice a' n' c', .slice b' m' d'] 49)).alloc (.cells #[.bool sz, .slice az nz cz, .slice bz mz dz] 49)).alloc (.cells #[.bool false, .slice none 0 0, .slice none 0 0] 49) = W0 at B X LX Y LY Z LZ LR
  have HW := hid hW
  clear hW
  have hs0 := B.out.size
  have hw0 := LR.out.lt
  go_enter Tryz.func143, Tryz.ntmps143
  go_wp2_with fail
  rw [HW.out]
  have LX := hid (LX.out.old (Below_drew1 (Below.refl _ _)))
  have LY := hid (LY.out.old (Below_drew1 (Below.refl _ _)))
  have LZ := hid (LZ.out.old (Below_drew1 (Below.refl _ _)))
  have LR := hid (LR.out.old (Below_drew1 (Below.refl _ _)))
  have X := hid (X.out.old (Below_drew1 (Below.refl _ _)))
  have Y := hid (Y.out.old (Below_drew1 (Below.refl _ _)))
  have Z := hid (Z.out.old (Below_drew1 (Below.refl _ _)))
  have B := hid (Below_drew1 B.out)
  have q0 := LX.out.c 0 (v := .bool s) rfl
  have q1 := LX.out.c 1 (v := .slice a n c) rfl
  have q2 := LX.out.c 2 (v := .slice b m d) rfl
  have q3 := LY.out.c 0 (v := .bool t) rfl
  have q4 := LY.out.c 1 (v := .slice a' n' c') rfl
  have q5 := LY.out.c 2 (v := .slice b' m' d') rfl
  have q6 := LZ.out.c 0 (v := .bool sz) rfl
  have q7 := LZ.out.c 1 (v := .slice az nz cz) rfl
  have q8 := LZ.out.c 2 (v := .slice bz mz dz) rfl
  have hlX := LX.out.lt
  have hlY := LY.out.lt
  have hlZ := LZ.out.lt
  go_region_held3 (fun w' => w'.cell? ⟨w.heap.size, 0, none⟩ = some (.bool s) ∧ w'.cell? ⟨w.heap.size, 1, none⟩ = some (.slice a n c) ∧ w'.cell? ⟨w.heap.size, 2, none⟩ = some (.slice b m d) ∧ w'.cell? ⟨w.heap.size + 1, 0, none⟩ = some (.bool t) ∧ w'.cell? ⟨w.heap.size + 1, 1, none⟩ = some (.slice a' n' c') ∧ w'.cell? ⟨w.heap.size + 1, 2, none⟩ = some (.slice b' m' d') ∧ w'.cell? ⟨w.heap.size + 1 + 1, 0, none⟩ = some (.bool sz) ∧ w'.cell? ⟨w.heap.size + 1 + 1, 1, none⟩ = some (.slice az nz cz) ∧ w'.cell? ⟨w.heap.size + 1 + 1, 2, none⟩ = some (.slice bz mz dz)) (first | with_reducible exact ⟨q0, q1, q2, q3, q4, q5, q6, q7, q8⟩ | ((with_reducible refine ⟨(cell_set3 ?_).trans q0, (cell_set3 ?_).trans q1, (cell_set3 ?_).trans q2, (cell_set3 ?_).trans q3, (cell_set3 ?_).trans q4, (cell_set3 ?_).trans q5, (cell_set3 ?_).trans q6, (cell_set3 ?_).trans q7, (cell_set3 ?_).trans q8⟩) <;> omega) | go_keep) (first | (go_at_call 53; (with_reducible refine (mul_o Y.out Z.out).mono ?_); rintro e w1 ⟨s1, a1, n1, c1, b1, m1, d1, rfl, hr, hb⟩; have M := hid (hr.base B.out.size); have LX := hid (LX.out.old hb); have LY := hid (LY.out.old hb); have LZ := hid (LZ.out.old hb); have LR := hid (LR.out.old hb); have X := hid (X.out.old hb); have Y := hid (Y.out.old hb); have Z := hid (Z.out.old hb); (try have R1 := hid (R1.out.old hb)); have B := hid (B.out.trans (hb.mono B.out.size)); clear hr hb; have q0 := LX.out.c 0 (v := .bool s) rfl; have q1 := LX.out.c 1 (v := .slice a n c) rfl; have q2 := LX.out.c 2 (v := .slice b m d) rfl; have q3 := LY.out.c 0 (v := .bool t) rfl; have q4 := LY.out.c 1 (v := .slice a' n' c') rfl; have q5 := LY.out.c 2 (v := .slice b' m' d') rfl; have q6 := LZ.out.c 0 (v := .bool sz) rfl; have q7 := LZ.out.c 1 (v := .slice az nz cz) rfl; have q8 := LZ.out.c 2 (v := .slice bz mz dz) rfl) | (go_at_call 144; (with_reducible refine (add_o X.out M.out.ra).mono ?_); rintro e w2 ⟨s2, a2, n2, c2, b2, m2, d2, rfl, hr, hb⟩; have R1 := hid (hr.base B.out.size); have LX := hid (LX.out.old hb); have LY := hid (LY.out.old hb); have LZ := hid (LZ.out.old hb); have LR := hid (LR.out.old hb); have X := hid (X.out.old hb); have Y := hid (Y.out.old hb); have Z := hid (Z.out.old hb); (try have M := hid (M.out.old hb)); have B := hid (B.out.trans (hb.mono B.out.size)); clear hr hb; have q0 := LX.out.c 0 (v := .bool s) rfl; have q1 := LX.out.c 1 (v := .slice a n c) rfl; have q2 := LX.out.c 2 (v := .slice b m d) rfl; have q3 := LY.out.c 0 (v := .bool t) rfl; have q4 := LY.out.c 1 (v := .slice a' n' c') rfl; have q5 := LY.out.c 2 (v := .slice b' m' d') rfl; have q6 := LZ.out.c 0 (v := .bool sz) rfl; have q7 := LZ.out.c 1 (v := .slice az nz cz) rfl; have q8 := LZ.out.c 2 (v := .slice bz mz dz) rfl; have f0 := LR.out.f 0; have f1 := LR.out.f 1; have f2 := LR.out.f 2; have p0 := LR.out.c 0 rfl; have p1 := LR.out.c 1 rfl; have p2 := LR.out.c 2 rfl; have R := hid (q_of HQ.out (RO.out (w := w) (N := w.heap.size + 1 + 1 + 1) R1.out (Nat.le_refl _) (by omega) LR.out (by decide) B.out))))
  clear q0 q1 q2 q3 q4 q5 q6 q7 q8
  go_wp2
  exact bodyPost_ret (v := .agg #[.bool s2, .slice a2 n2 c2, .slice b2 m2 d2]) (by simp [results, Tryz.results143, go_sem, p0, p1, p2]) rfl R.out
end Go.Proofs.YtamhmpjadnfpdaaGreat

/- Scalar products (the program). -/
namespace Go.Proofs.YtamhmpjadnfpdaaGreat
open Go.RowKit
open Go.Lib (hid)
set_option linter.unusedVariables false

/-- What a call gives: a fraction's struct whose slices lie from l0 on. -/
def DotR (l0 : Nat) (o : Option Rat) (w : World) (e : Ending) (w' : World) : Prop := ∃ s a n c b m d, e = .returned (.agg #[.bool s, .slice a n c, .slice b m d]) ∧ RO true w' l0 s (.slice a n c) (.slice b m d) o ∧ Below w.heap.size w w'
set_option maxRecDepth 100000 in
set_option maxHeartbeats 6400000 in
theorem combineR_w  {a : Option Addr} {n c : Nat} {b : Option Addr} {m d : Nat} {K L : List Fq} {lo hi lo' hi' l0 : Nat} {s : Bool} {a0 : Option Addr} {n0 c0 : Nat} {b0 : Option Addr} {m0 d0 : Nat} (hK : Sm K) (hL : Sm L) (w : World) (h : VW w a n K lo hi) (h' : VW w b m L lo' hi')
    (hr : RO true w l0 s (.slice a0 n0 c0) (.slice b0 m0 d0) (some ((0 : Int) : Rat))) (hl0 : l0 ≤ w.heap.size) :
    Calls Tryz.prog 142 #[.slice a n c, .slice b m d, .agg #[.bool s, .slice a0 n0 c0, .slice b0 m0 d0], .func (.func 143) #[] #[]] w (DotR l0 (dotO K L) w) := by
  have BW := hid (below_new2 (w := w) (o := .cells #[.bool s, .slice a0 n0 c0, .slice b0 m0 d0] 49) (o' := .cells #[.bool false, .slice none 0 0, .slice none 0 0] 49))
  have HV := hid h
  have HW := hid h'
  have HR0 := hid (hr.old BW.out)
  have L6 := hid ((LocA.at (T := 49) (w := w) (b := w.heap.size) (cs := #[.bool s, .slice a0 n0 c0, .slice b0 m0 d0]) rfl).new1 (o := .cells #[.bool false, .slice none 0 0, .slice none 0 0] 49))
  have L8 := hid (LocA.at (T := 49) (w := w.alloc (.cells #[.bool s, .slice a0 n0 c0, .slice b0 m0 d0] 49)) (b := w.heap.size + 1) (cs := #[.bool false, .slice none 0 0, .slice none 0 0]) (by simp))
  obtain rfl := h.num
  obtain rfl := h'.num
  clear h h' hr
  have HS := hid (show ((w.alloc (.cells #[.bool s, .slice a0 n0 c0, .slice b0 m0 d0] 49)).alloc (.cells #[.bool false, .slice none 0 0, .slice none 0 0] 49)).heap.size = w.heap.size + 2 by simp)
  have hkl := hK.2
  have hll := hL.2
  by_cases hne : K.length = L.length
  · by_cases h40 : K.length ≤ 40
    · have HZ := hid (zw_len (f := mulF) hne)
      have HA := hid (fun k (h : k < K.length) (h' : k < L.length) (hz : k < (zw mulF K L).length) => zw_at (f := mulF) h h' hz)
      have HD := hid (show dotO K L = dacc (zw mulF K L) by unfold dotO; rw [if_pos ⟨hne, h40⟩])
      rw [HD.out]
      clear HD
      generalize zw mulF K L = os at HZ HA ⊢
      have HN := hid hne
      rw [← hne] at HW ⊢
      clear hne
      have h4 : decide ((40 : Int) < K.length) = false := decide_eq_false (by omega)
      clear h40
      go_enter Tryz.func142, Tryz.ntmps142
      go_wp2
      generalize (w.alloc (.cells #[.bool s, .slice a0 n0 c0, .slice b0 m0 d0] 49)).alloc (.cells #[.bool false, .slice none 0 0, .slice none 0 0] 49) = W at BW HR0 L6 L8 HS ⊢
      go_loopw [24] (fun i wr => ∃ (k : Nat) (sa : Bool) (aa : Option Addr) (na ca : Nat) (ba : Option Addr) (ma da : Nat), k ≤ K.length ∧ i = .int .i64 k ∧ Hid (LocA 49 wr w.heap.size #[.bool sa, .slice aa na ca, .slice ba ma da]) ∧ Hid (LocA 49 wr (w.heap.size + 1) #[.bool false, .slice none 0 0, .slice none 0 0]) ∧ Hid (RO true wr l0 sa (.slice aa na ca) (.slice ba ma da) (dacc (os.take k))) ∧ Hid (Below w.heap.size w wr) ∧ Hid (w.heap.size + 2 ≤ wr.heap.size)  ) (fun i _ => K.length - (intOf i).toNat)
      case atStart => exact ⟨0, s, a0, n0, c0, b0, m0, d0, Nat.zero_le _, rfl, L6, L8, HR0, BW, hid (by rw [HS.out]; exact Nat.le_refl _)⟩
      case round =>
        obtain ⟨k, sa, aa, na, ca, ba, ma, da, hk, rfl, hL6, hL8, hR, HB, HZ2⟩ := hrel
        by_cases hlt : k < K.length
        · have hlt2 : k < L.length := by rw [← HN.out]; exact hlt
          have X := hid (HV.out.old HB.out)
          have Y := hid (HW.out.old HB.out)
          obtain ⟨g1, p1, a31, n31, c31, b31, m31, d31, rfl, hg1, q01, q11, q21, R1⟩ := X.out.at hK hlt
          obtain ⟨⟨s1, A1, D1⟩, hf1⟩ : ∃ f, K[k]'(hlt) = f := ⟨_, rfl⟩
          simp only [hf1] at q01 R1
          have HF1 := hid hf1
          clear hf1
          obtain ⟨o1, ho1⟩ : ∃ o, Fq.o ⟨s1, A1, D1⟩ = o := ⟨_, rfl⟩
          have HO1 := hid (show (K[k]'(hlt)).o = o1 by rw [HF1.out, ho1])
          have RX1 := hid (show RA wr s1 (.slice a31 n31 c31) (.slice b31 m31 d31) o1 from ⟨A1, D1, R1, ho1⟩)
          clear ho1 R1
          obtain ⟨g2, p2, a32, n32, c32, b32, m32, d32, rfl, hg2, q02, q12, q22, R2⟩ := Y.out.at hL hlt2
          obtain ⟨⟨s2, A2, D2⟩, hf2⟩ : ∃ f, L[k]'(hlt2) = f := ⟨_, rfl⟩
          simp only [hf2] at q02 R2
          have HF2 := hid hf2
          clear hf2
          obtain ⟨o2, ho2⟩ : ∃ o, Fq.o ⟨s2, A2, D2⟩ = o := ⟨_, rfl⟩
          have HO2 := hid (show (L[k]'(hlt2)).o = o2 by rw [HF2.out, ho2])
          have RX2 := hid (show RA wr s2 (.slice a32 n32 c32) (.slice b32 m32 d32) o2 from ⟨A2, D2, R2, ho2⟩)
          clear ho2 R2
          have HOO := hid (show os[k]'(by rw [HZ.out]; exact hlt) = bq mulF o1 o2 by rw [HA.out k hlt hlt2 (by rw [HZ.out]; exact hlt), HO1.out, HO2.out])
          have HDK := hid (show dacc (os.take (k + 1)) = bq addF (dacc (os.take k)) (bq mulF o1 o2) by rw [dacc_take (by rw [HZ.out]; exact hlt), HOO.out])
          have KF := hid (stepDot_w wr.drew (hR.out.ra.old (Below_drew1 (Below.refl _ _))) (RX1.out.old (Below_drew1 (Below.refl _ _))) (RX2.out.old (Below_drew1 (Below.refl _ _))))
          have L6D := hid (hL6.out.old (Below_drew1 (Below.refl _ _)))
          have L8D := hid (hL8.out.old (Below_drew1 (Below.refl _ _)))
          have HBD := hid (Below_drew1 HB.out)
          have HZD := hid (show w.heap.size + 2 ≤ wr.drew.heap.size from HZ2.out)
          have x0 := hL6.out.c 0 (v := .bool sa) rfl
          have x1 := hL6.out.c 1 (v := .slice aa na ca) rfl
          have x2 := hL6.out.c 2 (v := .slice ba ma da) rfl
          rw [← HDK.out] at KF
          obtain ⟨on, hon⟩ : ∃ on, on = dacc (os.take (k + 1)) := ⟨_, rfl⟩
          rw [← hon] at KF
          have HON := hid hon
          have a1' : (0 : Int) ≤ k := by omega
          have a2 : (k : Int) < K.length := by omega
          clear hon
          go_wp2_with fail
          go_still_tail 10, (by kernel_rfl)
          change wpList _ _ _ _ _ wr.drew
          clear x0 x1 x2 q01 q11 q21 q02 q12 q22
          generalize wr.drew = wd at KF L6D L8D HBD HZD ⊢
          go_wp2_with fail
          (with_reducible refine (KF.out).mono ?_)
          rintro e w2 ⟨s4, a4, n4, c4, b4, m4, d4, rfl, hr, hb⟩
          have hz2 := hb.size
          have L6E := hid (L6D.out.old hb)
          have L8E := hid (L8D.out.old hb)
          have HBE := hid (HBD.out.trans (hb.mono HBD.out.size))
          have y0 := L6E.out.c 0 (v := .bool sa) rfl
          have y1 := L6E.out.c 1 (v := .slice aa na ca) rfl
          have y2 := L6E.out.c 2 (v := .slice ba ma da) rfl
          have f0 := L6E.out.f 0
          have f1 := L6E.out.f 1
          have f2 := L6E.out.f 2
          have hlw := HZD.out
          have hbd := HBD.out.size
          have LN := hid (((L6E.out.set (i := 0) (x := .bool s4)).set (i := 1) (x := .slice a4 n4 c4)).set (i := 2) (x := .slice b4 m4 d4))
          have L8N := hid (((L8E.out.setne (N := w.heap.size) (i := 0) (x := .bool s4) (by omega)).setne (N := w.heap.size) (i := 1) (x := .slice a4 n4 c4) (by omega)).setne (N := w.heap.size) (i := 2) (x := .slice b4 m4 d4) (by omega))
          have RN := hid ((((hr.base (show l0 ≤ wd.heap.size by omega)).set L6E.out (by decide) (i := 0) (y := .bool s4)).set (L6E.out.set (i := 0) (x := .bool s4)) (by decide) (i := 1) (y := .slice a4 n4 c4)).set ((L6E.out.set (i := 0) (x := .bool s4)).set (i := 1) (x := .slice a4 n4 c4)) (by decide) (i := 2) (y := .slice b4 m4 d4))
          have HBN := hid (((HBE.out.setCell (p := ⟨w.heap.size, 0, none⟩) (Nat.le_refl _) (.bool s4)).setCell (p := ⟨w.heap.size, 1, none⟩) (Nat.le_refl _) (.slice a4 n4 c4)).setCell (p := ⟨w.heap.size, 2, none⟩) (Nat.le_refl _) (.slice b4 m4 d4))
          have HZN := hid (show w.heap.size + 2 ≤ (((w2.setCell ⟨w.heap.size, 0, none⟩ (.bool s4)).setCell ⟨w.heap.size, 1, none⟩ (.slice a4 n4 c4)).setCell ⟨w.heap.size, 2, none⟩ (.slice b4 m4 d4)).heap.size by simp only [size_set]; omega)
          clear hr hb hlw hbd
          go_wp2
          go_roundw
          case rel => exact ⟨k + 1, s4, a4, n4, c4, b4, m4, d4, by omega, by go_num, LN, L8N, hid (by rw [← HON.out]; exact RN.out), HBN, HZN⟩
          case measure => simp [intOf]; omega
        · obtain rfl : k = K.length := by omega
          have x0 := hL6.out.c 0 (v := .bool sa) rfl
          have x1 := hL6.out.c 1 (v := .slice aa na ca) rfl
          have x2 := hL6.out.c 2 (v := .slice ba ma da) rfl
          have f0 := hL8.out.f 0
          have f1 := hL8.out.f 1
          have f2 := hL8.out.f 2
          have p0 := hL8.out.c 0 rfl
          have p1 := hL8.out.c 1 rfl
          have p2 := hL8.out.c 2 rfl
          have RN := hid (((hR.out.set hL8.out (by decide) (i := 0) (y := .bool sa)).set (hL8.out.set (i := 0) (x := .bool sa)) (by decide) (i := 1) (y := .slice aa na ca)).set ((hL8.out.set (i := 0) (x := .bool sa)).set (i := 1) (x := .slice aa na ca)) (by decide) (i := 2) (y := .slice ba ma da))
          have HBN := hid (((HB.out.setCell (p := ⟨w.heap.size + 1, 0, none⟩) (by simp) (.bool sa)).setCell (p := ⟨w.heap.size + 1, 1, none⟩) (by simp) (.slice aa na ca)).setCell (p := ⟨w.heap.size + 1, 2, none⟩) (by simp) (.slice ba ma da))
          have HE := hid (show dacc (os.take K.length) = dacc os by rw [List.take_of_length_le (by rw [HZ.out]; exact Nat.le_refl _)])
          rw [HE.out] at RN
          have R := hid (show DotR l0 (dacc os) w (.returned (.agg #[.bool sa, .slice aa na ca, .slice ba ma da])) _ from ⟨_, _, _, _, _, _, _, rfl, RN.out, HBN.out⟩)
          go_wp2
          exact bodyPost_ret (v := .agg #[.bool sa, .slice aa na ca, .slice ba ma da]) (by simp [results, Tryz.results142, go_sem, p0, p1, p2]) rfl R.out
    · have HD := hid (show dotO K L = none by unfold dotO; rw [if_neg (by omega)])
      have h4 : decide ((40 : Int) < K.length) = true := decide_eq_true (by omega)
      have e0 : ((K.length : Int) != (L.length : Int)) = false := by simp [hne]
      rw [HD.out]
      rw [← hne] at e0 ⊢
      clear hne e0
      have BZ := hid (BW.out.alloc BW.out.size (.cells #[.bool false, .slice none 0 0, .slice none 0 0] 49))
      have L8Z := hid (L8.out.new1 (o := .cells #[.bool false, .slice none 0 0, .slice none 0 0] 49))
      have f0 := L8Z.out.f 0
      have f1 := L8Z.out.f 1
      have f2 := L8Z.out.f 2
      have p0 := L8Z.out.c 0 rfl
      have p1 := L8Z.out.c 1 rfl
      have p2 := L8Z.out.c 2 rfl
      have R := hid (show DotR l0 none w (.returned (.agg #[.bool false, .slice none 0 0, .slice none 0 0])) _ from ⟨false, none, 0, 0, none, 0, 0, rfl, RO_none, BZ.out⟩)
      go_enter Tryz.func142, Tryz.ntmps142
      go_wp2
      exact bodyPost_ret (v := .agg #[.bool false, .slice none 0 0, .slice none 0 0]) (by simp [results, Tryz.results142, go_sem, p0, p1, p2]) rfl R.out
  · have HD := hid (show dotO K L = none by unfold dotO; rw [if_neg (by omega)])
    obtain ⟨e1, e2⟩ := ne_facts hne
    rw [HD.out]
    clear hne
    have BZ := hid (BW.out.alloc BW.out.size (.cells #[.bool false, .slice none 0 0, .slice none 0 0] 49))
    have L8Z := hid (L8.out.new1 (o := .cells #[.bool false, .slice none 0 0, .slice none 0 0] 49))
    have f0 := L8Z.out.f 0
    have f1 := L8Z.out.f 1
    have f2 := L8Z.out.f 2
    have p0 := L8Z.out.c 0 rfl
    have p1 := L8Z.out.c 1 rfl
    have p2 := L8Z.out.c 2 rfl
    have R := hid (show DotR l0 none w (.returned (.agg #[.bool false, .slice none 0 0, .slice none 0 0])) _ from ⟨false, none, 0, 0, none, 0, 0, rfl, RO_none, BZ.out⟩)
    go_enter Tryz.func142, Tryz.ntmps142
    go_wp2
    exact bodyPost_ret (v := .agg #[.bool false, .slice none 0 0, .slice none 0 0]) (by simp [results, Tryz.results142, go_sem, p0, p1, p2]) rfl R.out
theorem combineR {p q : Bool} {a : Option Addr} {n c : Nat} {b : Option Addr} {m d : Nat} {K L : List Fq} {lo hi lo' hi' l0 : Nat} {s : Bool} {a0 : Option Addr} {n0 c0 : Nat} {b0 : Option Addr} {m0 d0 : Nat} (hK : Sm K) (hL : Sm L) (w : World) (h : VK p w (.slice a n c) K lo hi) (h' : VK q w (.slice b m d) L lo' hi')
    (hr : RO true w l0 s (.slice a0 n0 c0) (.slice b0 m0 d0) (some ((0 : Int) : Rat))) (hl0 : l0 ≤ w.heap.size) :
    Calls Tryz.prog 142 #[.slice a n c, .slice b m d, .agg #[.bool s, .slice a0 n0 c0, .slice b0 m0 d0], .func (.func 143) #[] #[]] w (DotR l0 (dotO K L) w) :=
  combineR_w hK hL w h.vw h'.vw hr hl0
set_option maxRecDepth 100000 in
set_option maxHeartbeats 6400000 in
theorem impl_VecDot_w  {a : Option Addr} {n c : Nat} {b : Option Addr} {m d : Nat} {K L : List Fq} {lo hi lo' hi' : Nat} (hK : Sm K) (hL : Sm L) (w : World) (h : VW w a n K lo hi) (h' : VW w b m L lo' hi') :
    Calls Tryz.prog 99 #[.slice a n c, .slice b m d] w (RatO true (dotO K L) w) := by
  have BW := hid (below_new' (w := w) (o := .cells #[.bool false, .slice none 0 0, .slice none 0 0] 49))
  have HV := hid (h.old BW.out)
  have HW := hid (h'.old BW.out)
  have L4 := hid (LocA.at (T := 49) (w := w) (b := w.heap.size) (cs := #[.bool false, .slice none 0 0, .slice none 0 0]) rfl)
  clear h h'
  have HS := hid (show (w.alloc (.cells #[.bool false, .slice none 0 0, .slice none 0 0] 49)).heap.size = w.heap.size + 1 by simp)
  generalize hW : w.alloc (.cells #[.bool false, .slice none 0 0, .slice none 0 0] 49) = W at BW HV HW L4 HS
  have HWW := hid hW
  clear hW
  go_enter Tryz.func99, Tryz.ntmps99
  go_wp2_with fail
  rw [HWW.out]
  (with_reducible refine (int_o 0 (by decide) (by decide) _).mono ?_)
  rintro e w2 ⟨s4, a4, n4, c4, b4, m4, d4, rfl, hr, hb⟩
  have KC := hid (combineR_w (c := c) (d := d) hK hL w2 (HV.out.old hb) (HW.out.old hb) hr hb.size)
  have HB := hid (BW.out.trans (hb.mono BW.out.size))
  have L4 := hid (L4.out.old hb)
  have hz2 : w.heap.size ≤ W.heap.size := by have := HS.out; omega
  clear hr hb
  go_wp2_with fail
  (with_reducible refine (KC.out).mono ?_)
  rintro e w3 ⟨s5, a5, n5, c5, b5, m5, d5, rfl, hr, hb⟩
  have L4 := hid (L4.out.old hb)
  have HB3 := hid (HB.out.trans (hb.mono HB.out.size))
  have f0 := L4.out.f 0
  have f1 := L4.out.f 1
  have f2 := L4.out.f 2
  have p0 := L4.out.c 0 rfl
  have p1 := L4.out.c 1 rfl
  have p2 := L4.out.c 2 rfl
  have R := hid (RO.out (w := w) (N := w.heap.size) hr hz2 (Nat.le_refl _) L4.out (by decide) HB3.out)
  clear hr hb
  go_wp2
  exact bodyPost_ret (v := .agg #[.bool s5, .slice a5 n5 c5, .slice b5 m5 d5]) (by simp [results, Tryz.results99, go_sem, p0, p1, p2]) rfl R.out
theorem impl_VecDot {p q : Bool} {a : Option Addr} {n c : Nat} {b : Option Addr} {m d : Nat} {K L : List Fq} {lo hi lo' hi' : Nat} (hK : Sm K) (hL : Sm L) (w : World) (h : VK p w (.slice a n c) K lo hi) (h' : VK q w (.slice b m d) L lo' hi') :
    Calls Tryz.prog 99 #[.slice a n c, .slice b m d] w (RatO true (dotO K L) w) :=
  impl_VecDot_w hK hL w h.vw h'.vw
end Go.Proofs.YtamhmpjadnfpdaaGreat
