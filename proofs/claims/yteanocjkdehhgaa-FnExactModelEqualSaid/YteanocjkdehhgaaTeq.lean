/- Lists of terms that are equal (the program and the reference). -/
import Derived.Test.YteanocjkdehhgaaTok
import Derived.Test.YteanocjkdehhgaaVw
import Derived.Deep.RegionHeld3
import Derived.Deep.DeepCutAuto
namespace Go.Proofs.Yteanocjkdehhgaa
open Go.RowKit
open Go.Lib (hid)
set_option linter.unusedVariables false

def eqQ (f g : Tq) : Bool := decide (f.c = g.c) && eqF f.f g.f
def eqT : List Tq → List Tq → Bool
  | [], [] => true
  | f :: K, g :: L => eqQ f g && eqT K L
  | _, _ => false
theorem eqT_len : ∀ {K L : List Tq}, K.length ≠ L.length → eqT K L = false
  | [], [], h => absurd rfl h
  | [], _ :: _, _ => rfl
  | _ :: _, [], _ => rfl
  | f :: K, g :: L, h => by
    have := eqT_len (K := K) (L := L) (fun e => h (by simp [e]))
    simp [eqT, this]
theorem eqT_no : ∀ {K L : List Tq} {k : Nat} (h : k < K.length) (h' : k < L.length), eqQ K[k] L[k] = false → eqT K L = false
  | f :: K, g :: L, 0, _, _, e => by simp only [List.getElem_cons_zero] at e; simp [eqT, e]
  | f :: K, g :: L, k + 1, h, h', e => by
    have := eqT_no (K := K) (L := L) (k := k) (by simpa using h) (by simpa using h') (by simpa using e)
    simp [eqT, this]
theorem eqT_yes : ∀ {K L : List Tq}, K.length = L.length → (∀ k (h : k < K.length) (h' : k < L.length), eqQ K[k] L[k] = true) → eqT K L = true
  | [], [], _, _ => rfl
  | [], _ :: _, h, _ => by simp at h
  | _ :: _, [], h, _ => by simp at h
  | f :: K, g :: L, h, ha => by
    have h0 := ha 0 (by simp) (by simp)
    have h1 := eqT_yes (K := K) (L := L) (by simpa using h) (fun k h2 h3 => ha (k + 1) (Nat.succ_lt_succ h2) (Nat.succ_lt_succ h3))
    simp only [List.getElem_cons_zero] at h0
    simp [eqT, h0, h1]
set_option maxRecDepth 100000 in
set_option maxHeartbeats 6400000 in
theorem closure_eq (x1 : Int) (s1 : Bool) (v1 u1 : Value) (A1 D1 : List Int) (x2 : Int) (s2 : Bool) (v2 u2 : Value) (A2 D2 : List Int) (w : World) (h1 : RL w v1 u1 A1 D1) (h2 : RL w v2 u2 A2 D2) :
    Calls Try.prog 109 #[.agg #[.int .i64 x1, .bool s1, v1, u1], .agg #[.int .i64 x2, .bool s2, v2, u2]] w (RetB (.bool (eqQ ⟨x1, s1, A1, D1⟩ ⟨x2, s2, A2, D2⟩)) w) := by
  have B := hid (below_new2 (w := w) (o := .cells #[.int .i64 x1, .bool s1, v1, u1] 132) (o' := .cells #[.int .i64 x2, .bool s2, v2, u2] 132))
  have KE := hid (fun (W : World) (hb : Below w.heap.size w W) => impl_RatEqual s1 s2 v1 u1 v2 u2 A1 D1 A2 D2 W (h1.old hb) (h2.old hb))
  obtain ⟨a1, c1, b1, d1, rfl, rfl⟩ := h1.form
  obtain ⟨a2, c2, b2, d2, rfl, rfl⟩ := h2.form
  have HE := hid (show eqQ ⟨x1, s1, A1, D1⟩ ⟨x2, s2, A2, D2⟩ = (decide (x1 = x2) && ((s1 == s2) && decide (A1 = A2) && decide (D1 = D2))) from rfl)
  clear h1 h2
  generalize eqQ ⟨x1, s1, A1, D1⟩ ⟨x2, s2, A2, D2⟩ = R at HE ⊢
  generalize ((s1 == s2) && decide (A1 = A2) && decide (D1 = D2)) = q at KE HE
  have L1 := hid ((LocA.at (T := 132) (w := w) (b := w.heap.size) (cs := #[.int .i64 x1, .bool s1, .slice a1 A1.length c1, .slice b1 D1.length d1]) rfl).new1 (o := .cells #[.int .i64 x2, .bool s2, .slice a2 A2.length c2, .slice b2 D2.length d2] 132))
  have L2 := hid (LocA.at (T := 132) (w := w.alloc (.cells #[.int .i64 x1, .bool s1, .slice a1 A1.length c1, .slice b1 D1.length d1] 132)) (b := w.heap.size + 1) (cs := #[.int .i64 x2, .bool s2, .slice a2 A2.length c2, .slice b2 D2.length d2]) (by simp))
  by_cases hx : x1 = x2
  · have hR := hid (show R = q by rw [HE.out, decide_eq_true hx, Bool.true_and])
    rw [hR.out]
    subst hx
    go_enter Try.func109, Try.ntmps109
    go_wp2_with fail
    (with_reducible refine (KE.out _ B.out).mono ?_)
    rintro e w2 ⟨rfl, hb⟩
    have HB := hid (B.out.trans (hb.mono B.out.size))
    clear hb
    go_wp2
    go_ret
    exact ⟨rfl, HB.out⟩
  · have hx1 : (x1 == x2) = false := by simp [hx]
    have hR := hid (show R = false by rw [HE.out, decide_eq_false hx, Bool.false_and])
    rw [hR.out]
    go_enter Try.func109, Try.ntmps109
    go_wp2
    go_ret
    exact ⟨rfl, B.out⟩
set_option maxRecDepth 100000 in
set_option maxHeartbeats 6400000 in
theorem EqualFuncT_eq {p q : Bool} {a : Option Addr} {n c : Nat} {b : Option Addr} {m d : Nat} {K L : List Tq} {lo hi lo' hi' : Nat} (hK : SmT K) (hL : SmT L) (w : World) (h : TK p w (.slice a n c) K lo hi) (h' : TK q w (.slice b m d) L lo' hi') :
    Calls Try.prog 108 #[.slice a n c, .slice b m d, .func (.func 109) #[] #[]] w (RetB (.bool (eqT K L)) w) := by
  have HV := hid h
  have HW := hid h'
  obtain rfl := h.num
  obtain rfl := h'.num
  clear h h'
  have hkl := hK.2
  have hll := hL.2
  by_cases hne : K.length = L.length
  · obtain ⟨B0, hB0⟩ : ∃ B, B = eqT K L := ⟨_, rfl⟩
    rw [← hB0]
    have HB0 := hid hB0
    clear hB0
    have HN := hid hne
    rw [← hne] at HW ⊢
    clear hne
    go_enter Try.func108, Try.ntmps108
    go_wp2
    go_loopw [17] (fun i wr => ∃ k : Nat, k ≤ K.length ∧ i = .int .i64 k ∧ Hid (∀ j (h : j < K.length) (h' : j < L.length), j < k → eqQ K[j] L[j] = true) ∧ Below w.heap.size w wr) (fun i _ => K.length - (intOf i).toNat)
    case atStart => exact ⟨0, Nat.zero_le _, rfl, hid (fun j h h' hj => absurd hj (by omega)), Below.refl _ _⟩
    case round =>
      obtain ⟨k, hk, rfl, hA, hbel⟩ := hrel
      by_cases hlt : k < K.length
      · have hlt2 : k < L.length := by rw [← HN.out]; exact hlt
        have X := hid (HV.out.old hbel)
        have Y := hid (HW.out.old hbel)
        obtain ⟨g1, a31, n31, c31, b31, m31, d31, rfl, hg1, qc1, q01, q11, q21, R1⟩ := X.out.at hK hlt
        obtain ⟨⟨x1, s1, A1, D1⟩, hf1⟩ : ∃ f, K[k]'(hlt) = f := ⟨_, rfl⟩
        simp only [hf1] at qc1 q01 R1
        have HF1 := hid hf1
        clear hf1
        obtain ⟨o1, ho1⟩ : ∃ o, Tq.o ⟨x1, s1, A1, D1⟩ = o := ⟨_, rfl⟩
        have HO1 := hid (show (K[k]'(hlt)).o = o1 by rw [HF1.out, ho1])
        have HX1 := hid (show (K[k]'(hlt)).c = x1 by rw [HF1.out])
        have RX1 := hid (show RA wr s1 (.slice a31 n31 c31) (.slice b31 m31 d31) o1 from ⟨A1, D1, R1, ho1⟩)
        have RLX1 := hid R1
        have RN1 := hid R1.nums
        clear ho1 R1
        obtain ⟨g2, a32, n32, c32, b32, m32, d32, rfl, hg2, qc2, q02, q12, q22, R2⟩ := Y.out.at hL hlt2
        obtain ⟨⟨x2, s2, A2, D2⟩, hf2⟩ : ∃ f, L[k]'(hlt2) = f := ⟨_, rfl⟩
        simp only [hf2] at qc2 q02 R2
        have HF2 := hid hf2
        clear hf2
        obtain ⟨o2, ho2⟩ : ∃ o, Tq.o ⟨x2, s2, A2, D2⟩ = o := ⟨_, rfl⟩
        have HO2 := hid (show (L[k]'(hlt2)).o = o2 by rw [HF2.out, ho2])
        have HX2 := hid (show (L[k]'(hlt2)).c = x2 by rw [HF2.out])
        have RX2 := hid (show RA wr s2 (.slice a32 n32 c32) (.slice b32 m32 d32) o2 from ⟨A2, D2, R2, ho2⟩)
        have RLX2 := hid R2
        have RN2 := hid R2.nums
        clear ho2 R2
        have HB := hid ((hbel.alloc hbel.size (.cells #[.int .i64 x1, .bool s1, .slice a31 n31 c31, .slice b31 m31 d31] 132)).alloc (by have := hbel.size; simp; omega) (.cells #[.int .i64 x2, .bool s2, .slice a32 n32 c32, .slice b32 m32 d32] 132))
        have a1' : (0 : Int) ≤ k := by omega
        have a2 : (k : Int) < K.length := by omega
        clear hbel
        obtain ⟨ef, hef⟩ : ∃ ef, eqQ ⟨x1, s1, A1, D1⟩ ⟨x2, s2, A2, D2⟩ = ef := ⟨_, rfl⟩
        cases ef with
        | false =>
          have KO := hid (fun (W : World) (hb : Below wr.heap.size wr W) => closure_eq x1 s1 _ _ A1 D1 x2 s2 _ _ A2 D2 W (RLX1.out.old hb) (RLX2.out.old hb))
          simp only [hef] at KO
          go_wp2_with fail
          (with_reducible refine (KO.out _ (Below.alloc below_new' (by simp) _)).mono ?_)
          rintro e w2 ⟨rfl, hb⟩
          have HB := hid (HB.out.trans (hb.mono (by have := HB.out.size; simp at this ⊢; omega)))
          clear hb qc1 q01 q11 q21 qc2 q02 q12 q22
          go_wp2
          go_ret
          exact ⟨bool_ret (by rw [HB0.out, eqT_no hlt hlt2 (by rw [HF1.out, HF2.out]; exact hef)]), HB.out⟩
        | true =>
          have KO := hid (fun (W : World) (hb : Below wr.heap.size wr W) => closure_eq x1 s1 _ _ A1 D1 x2 s2 _ _ A2 D2 W (RLX1.out.old hb) (RLX2.out.old hb))
          simp only [hef] at KO
          go_wp2_with fail
          (with_reducible refine (KO.out _ (Below.alloc below_new' (by simp) _)).mono ?_)
          rintro e w2 ⟨rfl, hb⟩
          have HB := hid (HB.out.trans (hb.mono (by have := HB.out.size; simp at this ⊢; omega)))
          clear hb qc1 q01 q11 q21 qc2 q02 q12 q22
          go_wp2
          go_roundw
          case rel => exact ⟨k + 1, by omega, by go_num, hid (fun j h h' hj => by
            rcases Nat.lt_or_eq_of_le (Nat.le_of_lt_succ hj) with hj' | rfl
            · exact hA.out j h h' hj'
            · rw [HF1.out, HF2.out]; exact hef), HB.out⟩
          case measure => simp [intOf]; omega
      · have HB := hid hbel
        clear hbel
        go_wp2
        go_ret
        exact ⟨bool_ret (by rw [HB0.out, eqT_yes HN.out (fun j h h' => hA.out j h h' (by omega))]), HB.out⟩
  · rw [eqT_len hne]
    obtain ⟨e1, e2⟩ := ne_facts hne
    go_enter Try.func108, Try.ntmps108
    go_wp2
    go_ret
    exact ⟨rfl, Below.refl _ _⟩
set_option maxRecDepth 100000 in
set_option maxHeartbeats 6400000 in
theorem spec_TermsEqual {p q : Bool} {a : Option Addr} {n c : Nat} {b : Option Addr} {m d : Nat} {K L : List Tq} {lo hi lo' hi' : Nat} (hK : SmT K) (hL : SmT L) (w : World) (h : TK p w (.slice a n c) K lo hi) (h' : TK q w (.slice b m d) L lo' hi') :
    Calls Try.prog 65 #[.slice a n c, .slice b m d] w (RetB (.bool (eqT K L)) w) := by
  have HV := hid h
  have HW := hid h'
  obtain rfl := h.num
  obtain rfl := h'.num
  clear h h'
  have hkl := hK.2
  have hll := hL.2
  by_cases hne : K.length = L.length
  · obtain ⟨B0, hB0⟩ : ∃ B, B = eqT K L := ⟨_, rfl⟩
    rw [← hB0]
    have HB0 := hid hB0
    clear hB0
    have HN := hid hne
    rw [← hne] at HW ⊢
    clear hne
    go_enter Try.func65, Try.ntmps65
    go_wp2
    go_loopw [14] (fun i wr => ∃ k : Nat, k ≤ K.length ∧ i = .int .i64 k ∧ Hid (∀ j (h : j < K.length) (h' : j < L.length), j < k → eqQ K[j] L[j] = true) ∧ Below w.heap.size w wr) (fun i _ => K.length - (intOf i).toNat)
    case atStart => exact ⟨0, Nat.zero_le _, rfl, hid (fun j h h' hj => absurd hj (by omega)), Below.refl _ _⟩
    case round =>
      obtain ⟨k, hk, rfl, hA, hbel⟩ := hrel
      by_cases hlt : k < K.length
      · have hlt2 : k < L.length := by rw [← HN.out]; exact hlt
        have X := hid (HV.out.old hbel)
        have Y := hid (HW.out.old hbel)
        obtain ⟨g1, a31, n31, c31, b31, m31, d31, rfl, hg1, qc1, q01, q11, q21, R1⟩ := X.out.at hK hlt
        obtain ⟨⟨x1, s1, A1, D1⟩, hf1⟩ : ∃ f, K[k]'(hlt) = f := ⟨_, rfl⟩
        simp only [hf1] at qc1 q01 R1
        have HF1 := hid hf1
        clear hf1
        obtain ⟨o1, ho1⟩ : ∃ o, Tq.o ⟨x1, s1, A1, D1⟩ = o := ⟨_, rfl⟩
        have HO1 := hid (show (K[k]'(hlt)).o = o1 by rw [HF1.out, ho1])
        have HX1 := hid (show (K[k]'(hlt)).c = x1 by rw [HF1.out])
        have RX1 := hid (show RA wr s1 (.slice a31 n31 c31) (.slice b31 m31 d31) o1 from ⟨A1, D1, R1, ho1⟩)
        have RLX1 := hid R1
        have RN1 := hid R1.nums
        clear ho1 R1
        obtain ⟨g2, a32, n32, c32, b32, m32, d32, rfl, hg2, qc2, q02, q12, q22, R2⟩ := Y.out.at hL hlt2
        obtain ⟨⟨x2, s2, A2, D2⟩, hf2⟩ : ∃ f, L[k]'(hlt2) = f := ⟨_, rfl⟩
        simp only [hf2] at qc2 q02 R2
        have HF2 := hid hf2
        clear hf2
        obtain ⟨o2, ho2⟩ : ∃ o, Tq.o ⟨x2, s2, A2, D2⟩ = o := ⟨_, rfl⟩
        have HO2 := hid (show (L[k]'(hlt2)).o = o2 by rw [HF2.out, ho2])
        have HX2 := hid (show (L[k]'(hlt2)).c = x2 by rw [HF2.out])
        have RX2 := hid (show RA wr s2 (.slice a32 n32 c32) (.slice b32 m32 d32) o2 from ⟨A2, D2, R2, ho2⟩)
        have RLX2 := hid R2
        have RN2 := hid R2.nums
        clear ho2 R2
        have HB := hid (hbel.alloc hbel.size (.cells #[.int .i64 x1, .bool s1, .slice a31 n31 c31, .slice b31 m31 d31] 132))
        have LT0 := hid (LocA.new (w := wr) (T := 132) (cs := #[.int .i64 x1, .bool s1, .slice a31 n31 c31, .slice b31 m31 d31]))
        have hBW := hid (show Below wr.heap.size wr ((wr.alloc (.cells #[.int .i64 x1, .bool s1, .slice a31 n31 c31, .slice b31 m31 d31] 132)).drew) from Below_drew1 below_new')
        have a1' : (0 : Int) ≤ k := by omega
        have a2 : (k : Int) < K.length := by omega
        clear hbel
        have KO := hid (fun (W : World) (hb : Below wr.heap.size wr W) => spec_RatEqual s1 s2 _ _ _ _ A1 D1 A2 D2 W (RLX1.out.old hb) (RLX2.out.old hb))
        have HE := hid (show eqQ ⟨x1, s1, A1, D1⟩ ⟨x2, s2, A2, D2⟩ = (decide (x1 = x2) && ((s1 == s2) && decide (A1 = A2) && decide (D1 = D2))) from rfl)
        generalize ((s1 == s2) && decide (A1 = A2) && decide (D1 = D2)) = q at KO HE
        by_cases hx : x1 = x2
        · have hq := hid (show eqQ ⟨x1, s1, A1, D1⟩ ⟨x2, s2, A2, D2⟩ = q by rw [HE.out, decide_eq_true hx, Bool.true_and])
          subst hx
          cases q with
          | false =>
            have hef := hq.out
            go_wp2_with fail
            have LT := hid (LT0.out.old (Below_drew1 (Below.refl _ _)))
            have HB := hid (Below_drew1 HB.out)
            have p0 := LT.out.c 0 rfl
            have p1 := LT.out.c 1 rfl
            have p2 := LT.out.c 2 rfl
            have p3 := LT.out.c 3 rfl
            have p4 := (hBW.out.cell (p := ⟨g2, k * 4, none⟩) hg2).trans qc2
            have p5 := (hBW.out.cell (p := ⟨g2, k * 4 + 1, none⟩) hg2).trans q02
            have p6 := (hBW.out.cell (p := ⟨g2, k * 4 + 2, none⟩) hg2).trans q12
            have p7 := (hBW.out.cell (p := ⟨g2, k * 4 + 3, none⟩) hg2).trans q22
            have hg3 := hid (Nat.lt_of_lt_of_le hg2 hBW.out.size)
            clear qc1 q01 q11 q21 qc2 q02 q12 q22
            refine wp_region_held_drew (S := (fun w' => w'.cell? ⟨wr.heap.size, 0, none⟩ = some (.int .i64 x1) ∧ w'.cell? ⟨wr.heap.size, 1, none⟩ = some (.bool s1) ∧ w'.cell? ⟨wr.heap.size, 2, none⟩ = some (.slice a31 n31 c31) ∧ w'.cell? ⟨wr.heap.size, 3, none⟩ = some (.slice b31 m31 d31) ∧ w'.cell? ⟨g2, k * 4, none⟩ = some (.int .i64 x1) ∧ w'.cell? ⟨g2, k * 4 + 1, none⟩ = some (.bool s2) ∧ w'.cell? ⟨g2, k * 4 + 2, none⟩ = some (.slice a32 n32 c32) ∧ w'.cell? ⟨g2, k * 4 + 3, none⟩ = some (.slice b32 m32 d32))) (by kernel_rfl) (by first | ((first | with_reducible exact ⟨p0, p1, p2, p3, p4, p5, p6, p7⟩ | exact ⟨p0, p1, p2, p3, p4, p5, p6, p7⟩)) | ((try dsimp only); (first | with_reducible exact ⟨p0, p1, p2, p3, p4, p5, p6, p7⟩ | exact ⟨p0, p1, p2, p3, p4, p5, p6, p7⟩))) (fun hHeld => ?_)
            refine wpAnyH_take (i := 0) (oi := _) (v := ?_) rfl (by kernel_rfl) (by kernel_rfl) (by kernel_rfl) (fun _ _ _ h => h) (Or.inl ⟨by rfl, ?_⟩) (by assumption) ?_
            rotate_left
            · (intro w hSw; (try dsimp only at hSw); go_simp; try (with_reducible rfl))
            try simp only [Act.put, List.setIfInBounds_toArray, List.set_cons_zero, List.set_cons_succ, List.getElem_toArray, List.getElem_cons_zero]
            refine wpAnyH_take (i := 1) (oi := _) (v := ?_) rfl (by kernel_rfl) (by kernel_rfl) (by kernel_rfl) (fun _ _ _ h => h) (Or.inl ⟨by rfl, ?_⟩) (by assumption) ?_
            rotate_left
            · (intro w hSw; (try dsimp only at hSw); go_simp; try (with_reducible rfl))
            try simp only [Act.put, List.setIfInBounds_toArray, List.set_cons_zero, List.set_cons_succ, List.getElem_toArray, List.getElem_cons_zero, List.getElem_cons_succ]
            refine wpAnyH_take (i := 2) (oi := _) (v := ?_) rfl (by kernel_rfl) (by kernel_rfl) (by kernel_rfl) (fun _ _ _ h => h) (Or.inl ⟨by rfl, ?_⟩) (by assumption) ?_
            rotate_left
            · (intro w hSw; (try dsimp only at hSw); go_simp; try (with_reducible rfl))
            try simp only [Act.put, List.setIfInBounds_toArray, List.set_cons_zero, List.set_cons_succ, List.getElem_toArray, List.getElem_cons_zero, List.getElem_cons_succ]
            refine wpAnyH_take (i := 3) (oi := _) (v := ?_) rfl (by kernel_rfl) (by kernel_rfl) (by kernel_rfl) (fun _ _ _ h => h) (Or.inl ⟨by rfl, ?_⟩) (by assumption) ?_
            rotate_left
            · (intro w hSw; (try dsimp only at hSw); go_simp; try (with_reducible rfl))
            try simp only [Act.put, List.setIfInBounds_toArray, List.set_cons_zero, List.set_cons_succ, List.getElem_toArray, List.getElem_cons_zero, List.getElem_cons_succ]
            refine wpAnyH_take (i := 4) (oi := _) (v := ?_) rfl (by kernel_rfl) (by kernel_rfl) (by kernel_rfl) (fun _ _ _ h => h) (Or.inl ⟨by rfl, ?_⟩) (by assumption) ?_
            rotate_left
            · (intro w hSw; (try dsimp only at hSw); go_simp; try (with_reducible rfl))
            try simp only [Act.put, List.setIfInBounds_toArray, List.set_cons_zero, List.set_cons_succ, List.getElem_toArray, List.getElem_cons_zero, List.getElem_cons_succ]
            refine wpAnyH_take (i := 5) (oi := _) (v := ?_) rfl (by kernel_rfl) (by kernel_rfl) (by kernel_rfl) (fun _ _ _ h => h) (Or.inl ⟨by rfl, ?_⟩) (by assumption) ?_
            rotate_left
            · (intro w hSw; (try dsimp only at hSw); go_simp; try (with_reducible rfl))
            try simp only [Act.put, List.setIfInBounds_toArray, List.set_cons_zero, List.set_cons_succ, List.getElem_toArray, List.getElem_cons_zero, List.getElem_cons_succ]
            refine wpAnyH_take (i := 6) (oi := _) (v := ?_) rfl (by kernel_rfl) (by kernel_rfl) (by kernel_rfl) (fun _ _ _ h => h) (Or.inl ⟨by rfl, ?_⟩) (by assumption) ?_
            rotate_left
            · (intro w hSw; (try dsimp only at hSw); go_simp; try (with_reducible rfl))
            try simp only [Act.put, List.setIfInBounds_toArray, List.set_cons_zero, List.set_cons_succ, List.getElem_toArray, List.getElem_cons_zero, List.getElem_cons_succ]
            refine wpAnyH_take (i := 7) (oi := _) (v := ?_) rfl (by kernel_rfl) (by kernel_rfl) (by kernel_rfl) (fun _ _ _ h => h) (Or.inl ⟨by rfl, ?_⟩) (by assumption) ?_
            rotate_left
            · (intro w hSw; (try dsimp only at hSw); go_simp; try (with_reducible rfl))
            try simp only [Act.put, List.setIfInBounds_toArray, List.set_cons_zero, List.set_cons_succ, List.getElem_toArray, List.getElem_cons_zero, List.getElem_cons_succ]
            refine wpAnyH_take (i := 8) (oi := _) (v := ?_) rfl (by kernel_rfl) (by kernel_rfl) (by kernel_rfl) (fun _ _ _ h => h) (Or.inl ⟨by rfl, ?_⟩) (by assumption) ?_
            rotate_left
            · (intro w hSw; (try dsimp only at hSw); go_simp; try (with_reducible rfl))
            try simp only [Act.put, List.setIfInBounds_toArray, List.set_cons_zero, List.set_cons_succ, List.getElem_toArray, List.getElem_cons_zero, List.getElem_cons_succ]
            refine wpAnyH_take (i := 9) (oi := _) (v := ?_) rfl (by kernel_rfl) (by kernel_rfl) (by kernel_rfl) (fun _ _ _ h => h) (Or.inl ⟨by rfl, ?_⟩) (by assumption) ?_
            rotate_left
            · (intro w hSw; (try dsimp only at hSw); go_simp; try (with_reducible rfl))
            try simp only [Act.put, List.setIfInBounds_toArray, List.set_cons_zero, List.set_cons_succ, List.getElem_toArray, List.getElem_cons_zero, List.getElem_cons_succ]
            refine wpAnyH_take (i := 10) (oi := _) (v := ?_) rfl (by kernel_rfl) (by kernel_rfl) (by kernel_rfl) (fun _ _ _ h => h) (Or.inl ⟨by rfl, ?_⟩) (by assumption) ?_
            rotate_left
            · (intro w hSw; (try dsimp only at hSw); go_simp; try (with_reducible rfl))
            try simp only [Act.put, List.setIfInBounds_toArray, List.set_cons_zero, List.set_cons_succ, List.getElem_toArray, List.getElem_cons_zero, List.getElem_cons_succ]
            refine wpAnyH_take (i := 11) (oi := _) (v := ?_) rfl (by kernel_rfl) (by kernel_rfl) (by kernel_rfl) (fun _ _ _ h => h) (Or.inl ⟨by rfl, ?_⟩) (by assumption) ?_
            rotate_left
            · (intro w hSw; (try dsimp only at hSw); go_simp; try (with_reducible rfl))
            try simp only [Act.put, List.setIfInBounds_toArray, List.set_cons_zero, List.set_cons_succ, List.getElem_toArray, List.getElem_cons_zero, List.getElem_cons_succ]
            refine wpAnyH_take (i := 12) (oi := _) (v := ?_) rfl (by kernel_rfl) (by kernel_rfl) (by kernel_rfl) (fun _ _ _ h => h) (Or.inl ⟨by rfl, ?_⟩) (by assumption) ?_
            rotate_left
            · (intro w hSw; (try dsimp only at hSw); go_simp; try (with_reducible rfl))
            try simp only [Act.put, List.setIfInBounds_toArray, List.set_cons_zero, List.set_cons_succ, List.getElem_toArray, List.getElem_cons_zero, List.getElem_cons_succ]
            refine wpAnyH_take (i := 13) (oi := _) (v := ?_) rfl (by kernel_rfl) (by kernel_rfl) (by kernel_rfl) (fun _ _ _ h => h) (Or.inl ⟨by rfl, ?_⟩) (by assumption) ?_
            rotate_left
            · (intro w hSw; (try dsimp only at hSw); go_simp; try (with_reducible rfl))
            try simp only [Act.put, List.setIfInBounds_toArray, List.set_cons_zero, List.set_cons_succ, List.getElem_toArray, List.getElem_cons_zero, List.getElem_cons_succ]
            refine wpAnyH_take (i := 14) (oi := _) (v := ?_) rfl (by kernel_rfl) (by kernel_rfl) (by kernel_rfl) (fun _ _ _ h => h) (Or.inl ⟨by rfl, ?_⟩) (by assumption) ?_
            rotate_left
            · (intro w hSw; (try dsimp only at hSw); go_simp; try (with_reducible rfl))
            try simp only [Act.put, List.setIfInBounds_toArray, List.set_cons_zero, List.set_cons_succ, List.getElem_toArray, List.getElem_cons_zero, List.getElem_cons_succ]
            refine wpAnyH_take (i := 15) (oi := _) (v := ?_) rfl (by kernel_rfl) (by kernel_rfl) (by kernel_rfl) (fun _ _ _ h => h) (Or.inl ⟨by rfl, ?_⟩) (by assumption) ?_
            rotate_left
            · (intro w hSw; (try dsimp only at hSw); go_simp; try (with_reducible rfl))
            try simp only [Act.put, List.setIfInBounds_toArray, List.set_cons_zero, List.set_cons_succ, List.getElem_toArray, List.getElem_cons_zero, List.getElem_cons_succ]
            refine wpAnyH_ready (rs := [16]) (by kernel_rfl) (by simp) ?_
            refine AllReadyH.cons (o := _) rfl (fun K hK => ?_) AllReadyH.nil
            go_simp
            (with_reducible refine (KO.out _ (Below_drew1 below_new')).mono ?_)
            rintro e w2 ⟨rfl, hb⟩
            have LT := hid (LT.out.old hb)
            have p0 := LT.out.c 0 rfl
            have p1 := LT.out.c 1 rfl
            have p2 := LT.out.c 2 rfl
            have p3 := LT.out.c 3 rfl
            have p4 := (hb.cell (p := ⟨g2, k * 4, none⟩) hg3.out).trans p4
            have p5 := (hb.cell (p := ⟨g2, k * 4 + 1, none⟩) hg3.out).trans p5
            have p6 := (hb.cell (p := ⟨g2, k * 4 + 2, none⟩) hg3.out).trans p6
            have p7 := (hb.cell (p := ⟨g2, k * 4 + 3, none⟩) hg3.out).trans p7
            have HB := hid (HB.out.trans (hb.mono HB.out.size))
            clear hb
            go_wp2_with fail
            refine hK.out _ _ ?_ (fun hHeld => ?_)
            · first | ((first | with_reducible exact ⟨p0, p1, p2, p3, p4, p5, p6, p7⟩ | exact ⟨p0, p1, p2, p3, p4, p5, p6, p7⟩)) | ((try dsimp only); (first | with_reducible exact ⟨p0, p1, p2, p3, p4, p5, p6, p7⟩ | exact ⟨p0, p1, p2, p3, p4, p5, p6, p7⟩))
            refine wpAnyH_take (i := 17) (oi := _) (v := ?_) rfl (by kernel_rfl) (by kernel_rfl) (by kernel_rfl) (fun _ _ _ h => h) (Or.inl ⟨by rfl, ?_⟩) (by assumption) ?_
            rotate_left
            · (intro w hSw; (try dsimp only at hSw); go_simp; try (with_reducible rfl))
            try simp only [Act.put, List.setIfInBounds_toArray, List.set_cons_zero, List.set_cons_succ, List.getElem_toArray, List.getElem_cons_zero, List.getElem_cons_succ]
            refine wpAnyH_take (i := 18) (oi := _) (v := ?_) rfl (by kernel_rfl) (by kernel_rfl) (by kernel_rfl) (fun _ _ _ h => h) (Or.inl ⟨by rfl, ?_⟩) (by assumption) ?_
            rotate_left
            · (intro w hSw; (try dsimp only at hSw); go_simp; try (with_reducible rfl))
            try simp only [Act.put, List.setIfInBounds_toArray, List.set_cons_zero, List.set_cons_succ, List.getElem_toArray, List.getElem_cons_zero, List.getElem_cons_succ]
            refine wpAnyH_done (by kernel_rfl) ?_ _
            try clear p0 p1 p2 p3 p4 p5 p6 p7
            go_wp2
            go_ret
            exact ⟨bool_ret (by rw [HB0.out, eqT_no hlt hlt2 (by rw [HF1.out, HF2.out]; exact hef)]), HB.out⟩
          | true =>
            have hef := hq.out
            go_wp2_with fail
            have LT := hid (LT0.out.old (Below_drew1 (Below.refl _ _)))
            have HB := hid (Below_drew1 HB.out)
            have p0 := LT.out.c 0 rfl
            have p1 := LT.out.c 1 rfl
            have p2 := LT.out.c 2 rfl
            have p3 := LT.out.c 3 rfl
            have p4 := (hBW.out.cell (p := ⟨g2, k * 4, none⟩) hg2).trans qc2
            have p5 := (hBW.out.cell (p := ⟨g2, k * 4 + 1, none⟩) hg2).trans q02
            have p6 := (hBW.out.cell (p := ⟨g2, k * 4 + 2, none⟩) hg2).trans q12
            have p7 := (hBW.out.cell (p := ⟨g2, k * 4 + 3, none⟩) hg2).trans q22
            have hg3 := hid (Nat.lt_of_lt_of_le hg2 hBW.out.size)
            clear qc1 q01 q11 q21 qc2 q02 q12 q22
            refine wp_region_held_drew (S := (fun w' => w'.cell? ⟨wr.heap.size, 0, none⟩ = some (.int .i64 x1) ∧ w'.cell? ⟨wr.heap.size, 1, none⟩ = some (.bool s1) ∧ w'.cell? ⟨wr.heap.size, 2, none⟩ = some (.slice a31 n31 c31) ∧ w'.cell? ⟨wr.heap.size, 3, none⟩ = some (.slice b31 m31 d31) ∧ w'.cell? ⟨g2, k * 4, none⟩ = some (.int .i64 x1) ∧ w'.cell? ⟨g2, k * 4 + 1, none⟩ = some (.bool s2) ∧ w'.cell? ⟨g2, k * 4 + 2, none⟩ = some (.slice a32 n32 c32) ∧ w'.cell? ⟨g2, k * 4 + 3, none⟩ = some (.slice b32 m32 d32))) (by kernel_rfl) (by first | ((first | with_reducible exact ⟨p0, p1, p2, p3, p4, p5, p6, p7⟩ | exact ⟨p0, p1, p2, p3, p4, p5, p6, p7⟩)) | ((try dsimp only); (first | with_reducible exact ⟨p0, p1, p2, p3, p4, p5, p6, p7⟩ | exact ⟨p0, p1, p2, p3, p4, p5, p6, p7⟩))) (fun hHeld => ?_)
            refine wpAnyH_take (i := 0) (oi := _) (v := ?_) rfl (by kernel_rfl) (by kernel_rfl) (by kernel_rfl) (fun _ _ _ h => h) (Or.inl ⟨by rfl, ?_⟩) (by assumption) ?_
            rotate_left
            · (intro w hSw; (try dsimp only at hSw); go_simp; try (with_reducible rfl))
            try simp only [Act.put, List.setIfInBounds_toArray, List.set_cons_zero, List.set_cons_succ, List.getElem_toArray, List.getElem_cons_zero]
            refine wpAnyH_take (i := 1) (oi := _) (v := ?_) rfl (by kernel_rfl) (by kernel_rfl) (by kernel_rfl) (fun _ _ _ h => h) (Or.inl ⟨by rfl, ?_⟩) (by assumption) ?_
            rotate_left
            · (intro w hSw; (try dsimp only at hSw); go_simp; try (with_reducible rfl))
            try simp only [Act.put, List.setIfInBounds_toArray, List.set_cons_zero, List.set_cons_succ, List.getElem_toArray, List.getElem_cons_zero, List.getElem_cons_succ]
            refine wpAnyH_take (i := 2) (oi := _) (v := ?_) rfl (by kernel_rfl) (by kernel_rfl) (by kernel_rfl) (fun _ _ _ h => h) (Or.inl ⟨by rfl, ?_⟩) (by assumption) ?_
            rotate_left
            · (intro w hSw; (try dsimp only at hSw); go_simp; try (with_reducible rfl))
            try simp only [Act.put, List.setIfInBounds_toArray, List.set_cons_zero, List.set_cons_succ, List.getElem_toArray, List.getElem_cons_zero, List.getElem_cons_succ]
            refine wpAnyH_take (i := 3) (oi := _) (v := ?_) rfl (by kernel_rfl) (by kernel_rfl) (by kernel_rfl) (fun _ _ _ h => h) (Or.inl ⟨by rfl, ?_⟩) (by assumption) ?_
            rotate_left
            · (intro w hSw; (try dsimp only at hSw); go_simp; try (with_reducible rfl))
            try simp only [Act.put, List.setIfInBounds_toArray, List.set_cons_zero, List.set_cons_succ, List.getElem_toArray, List.getElem_cons_zero, List.getElem_cons_succ]
            refine wpAnyH_take (i := 4) (oi := _) (v := ?_) rfl (by kernel_rfl) (by kernel_rfl) (by kernel_rfl) (fun _ _ _ h => h) (Or.inl ⟨by rfl, ?_⟩) (by assumption) ?_
            rotate_left
            · (intro w hSw; (try dsimp only at hSw); go_simp; try (with_reducible rfl))
            try simp only [Act.put, List.setIfInBounds_toArray, List.set_cons_zero, List.set_cons_succ, List.getElem_toArray, List.getElem_cons_zero, List.getElem_cons_succ]
            refine wpAnyH_take (i := 5) (oi := _) (v := ?_) rfl (by kernel_rfl) (by kernel_rfl) (by kernel_rfl) (fun _ _ _ h => h) (Or.inl ⟨by rfl, ?_⟩) (by assumption) ?_
            rotate_left
            · (intro w hSw; (try dsimp only at hSw); go_simp; try (with_reducible rfl))
            try simp only [Act.put, List.setIfInBounds_toArray, List.set_cons_zero, List.set_cons_succ, List.getElem_toArray, List.getElem_cons_zero, List.getElem_cons_succ]
            refine wpAnyH_take (i := 6) (oi := _) (v := ?_) rfl (by kernel_rfl) (by kernel_rfl) (by kernel_rfl) (fun _ _ _ h => h) (Or.inl ⟨by rfl, ?_⟩) (by assumption) ?_
            rotate_left
            · (intro w hSw; (try dsimp only at hSw); go_simp; try (with_reducible rfl))
            try simp only [Act.put, List.setIfInBounds_toArray, List.set_cons_zero, List.set_cons_succ, List.getElem_toArray, List.getElem_cons_zero, List.getElem_cons_succ]
            refine wpAnyH_take (i := 7) (oi := _) (v := ?_) rfl (by kernel_rfl) (by kernel_rfl) (by kernel_rfl) (fun _ _ _ h => h) (Or.inl ⟨by rfl, ?_⟩) (by assumption) ?_
            rotate_left
            · (intro w hSw; (try dsimp only at hSw); go_simp; try (with_reducible rfl))
            try simp only [Act.put, List.setIfInBounds_toArray, List.set_cons_zero, List.set_cons_succ, List.getElem_toArray, List.getElem_cons_zero, List.getElem_cons_succ]
            refine wpAnyH_take (i := 8) (oi := _) (v := ?_) rfl (by kernel_rfl) (by kernel_rfl) (by kernel_rfl) (fun _ _ _ h => h) (Or.inl ⟨by rfl, ?_⟩) (by assumption) ?_
            rotate_left
            · (intro w hSw; (try dsimp only at hSw); go_simp; try (with_reducible rfl))
            try simp only [Act.put, List.setIfInBounds_toArray, List.set_cons_zero, List.set_cons_succ, List.getElem_toArray, List.getElem_cons_zero, List.getElem_cons_succ]
            refine wpAnyH_take (i := 9) (oi := _) (v := ?_) rfl (by kernel_rfl) (by kernel_rfl) (by kernel_rfl) (fun _ _ _ h => h) (Or.inl ⟨by rfl, ?_⟩) (by assumption) ?_
            rotate_left
            · (intro w hSw; (try dsimp only at hSw); go_simp; try (with_reducible rfl))
            try simp only [Act.put, List.setIfInBounds_toArray, List.set_cons_zero, List.set_cons_succ, List.getElem_toArray, List.getElem_cons_zero, List.getElem_cons_succ]
            refine wpAnyH_take (i := 10) (oi := _) (v := ?_) rfl (by kernel_rfl) (by kernel_rfl) (by kernel_rfl) (fun _ _ _ h => h) (Or.inl ⟨by rfl, ?_⟩) (by assumption) ?_
            rotate_left
            · (intro w hSw; (try dsimp only at hSw); go_simp; try (with_reducible rfl))
            try simp only [Act.put, List.setIfInBounds_toArray, List.set_cons_zero, List.set_cons_succ, List.getElem_toArray, List.getElem_cons_zero, List.getElem_cons_succ]
            refine wpAnyH_take (i := 11) (oi := _) (v := ?_) rfl (by kernel_rfl) (by kernel_rfl) (by kernel_rfl) (fun _ _ _ h => h) (Or.inl ⟨by rfl, ?_⟩) (by assumption) ?_
            rotate_left
            · (intro w hSw; (try dsimp only at hSw); go_simp; try (with_reducible rfl))
            try simp only [Act.put, List.setIfInBounds_toArray, List.set_cons_zero, List.set_cons_succ, List.getElem_toArray, List.getElem_cons_zero, List.getElem_cons_succ]
            refine wpAnyH_take (i := 12) (oi := _) (v := ?_) rfl (by kernel_rfl) (by kernel_rfl) (by kernel_rfl) (fun _ _ _ h => h) (Or.inl ⟨by rfl, ?_⟩) (by assumption) ?_
            rotate_left
            · (intro w hSw; (try dsimp only at hSw); go_simp; try (with_reducible rfl))
            try simp only [Act.put, List.setIfInBounds_toArray, List.set_cons_zero, List.set_cons_succ, List.getElem_toArray, List.getElem_cons_zero, List.getElem_cons_succ]
            refine wpAnyH_take (i := 13) (oi := _) (v := ?_) rfl (by kernel_rfl) (by kernel_rfl) (by kernel_rfl) (fun _ _ _ h => h) (Or.inl ⟨by rfl, ?_⟩) (by assumption) ?_
            rotate_left
            · (intro w hSw; (try dsimp only at hSw); go_simp; try (with_reducible rfl))
            try simp only [Act.put, List.setIfInBounds_toArray, List.set_cons_zero, List.set_cons_succ, List.getElem_toArray, List.getElem_cons_zero, List.getElem_cons_succ]
            refine wpAnyH_take (i := 14) (oi := _) (v := ?_) rfl (by kernel_rfl) (by kernel_rfl) (by kernel_rfl) (fun _ _ _ h => h) (Or.inl ⟨by rfl, ?_⟩) (by assumption) ?_
            rotate_left
            · (intro w hSw; (try dsimp only at hSw); go_simp; try (with_reducible rfl))
            try simp only [Act.put, List.setIfInBounds_toArray, List.set_cons_zero, List.set_cons_succ, List.getElem_toArray, List.getElem_cons_zero, List.getElem_cons_succ]
            refine wpAnyH_take (i := 15) (oi := _) (v := ?_) rfl (by kernel_rfl) (by kernel_rfl) (by kernel_rfl) (fun _ _ _ h => h) (Or.inl ⟨by rfl, ?_⟩) (by assumption) ?_
            rotate_left
            · (intro w hSw; (try dsimp only at hSw); go_simp; try (with_reducible rfl))
            try simp only [Act.put, List.setIfInBounds_toArray, List.set_cons_zero, List.set_cons_succ, List.getElem_toArray, List.getElem_cons_zero, List.getElem_cons_succ]
            refine wpAnyH_ready (rs := [16]) (by kernel_rfl) (by simp) ?_
            refine AllReadyH.cons (o := _) rfl (fun K hK => ?_) AllReadyH.nil
            go_simp
            (with_reducible refine (KO.out _ (Below_drew1 below_new')).mono ?_)
            rintro e w2 ⟨rfl, hb⟩
            have LT := hid (LT.out.old hb)
            have p0 := LT.out.c 0 rfl
            have p1 := LT.out.c 1 rfl
            have p2 := LT.out.c 2 rfl
            have p3 := LT.out.c 3 rfl
            have p4 := (hb.cell (p := ⟨g2, k * 4, none⟩) hg3.out).trans p4
            have p5 := (hb.cell (p := ⟨g2, k * 4 + 1, none⟩) hg3.out).trans p5
            have p6 := (hb.cell (p := ⟨g2, k * 4 + 2, none⟩) hg3.out).trans p6
            have p7 := (hb.cell (p := ⟨g2, k * 4 + 3, none⟩) hg3.out).trans p7
            have HB := hid (HB.out.trans (hb.mono HB.out.size))
            clear hb
            go_wp2_with fail
            refine hK.out _ _ ?_ (fun hHeld => ?_)
            · first | ((first | with_reducible exact ⟨p0, p1, p2, p3, p4, p5, p6, p7⟩ | exact ⟨p0, p1, p2, p3, p4, p5, p6, p7⟩)) | ((try dsimp only); (first | with_reducible exact ⟨p0, p1, p2, p3, p4, p5, p6, p7⟩ | exact ⟨p0, p1, p2, p3, p4, p5, p6, p7⟩))
            refine wpAnyH_take (i := 17) (oi := _) (v := ?_) rfl (by kernel_rfl) (by kernel_rfl) (by kernel_rfl) (fun _ _ _ h => h) (Or.inl ⟨by rfl, ?_⟩) (by assumption) ?_
            rotate_left
            · (intro w hSw; (try dsimp only at hSw); go_simp; try (with_reducible rfl))
            try simp only [Act.put, List.setIfInBounds_toArray, List.set_cons_zero, List.set_cons_succ, List.getElem_toArray, List.getElem_cons_zero, List.getElem_cons_succ]
            refine wpAnyH_take (i := 18) (oi := _) (v := ?_) rfl (by kernel_rfl) (by kernel_rfl) (by kernel_rfl) (fun _ _ _ h => h) (Or.inl ⟨by rfl, ?_⟩) (by assumption) ?_
            rotate_left
            · (intro w hSw; (try dsimp only at hSw); go_simp; try (with_reducible rfl))
            try simp only [Act.put, List.setIfInBounds_toArray, List.set_cons_zero, List.set_cons_succ, List.getElem_toArray, List.getElem_cons_zero, List.getElem_cons_succ]
            refine wpAnyH_done (by kernel_rfl) ?_ _
            try clear p0 p1 p2 p3 p4 p5 p6 p7
            go_wp2
            go_roundw
            case rel => exact ⟨k + 1, by omega, by go_num, hid (fun j h h' hj => by
              rcases Nat.lt_or_eq_of_le (Nat.le_of_lt_succ hj) with hj' | rfl
              · exact hA.out j h h' hj'
              · rw [HF1.out, HF2.out]; exact hef), HB.out⟩
            case measure => simp [intOf]; omega
        · have hx1 : (x1 != x2) = true := by simp [hx]
          have hx2 : (x1 == x2) = false := by simp [hx]
          have hef := show eqQ ⟨x1, s1, A1, D1⟩ ⟨x2, s2, A2, D2⟩ = false by rw [HE.out, decide_eq_false hx, Bool.false_and]
          go_wp2_with fail
          have LT := hid (LT0.out.old (Below_drew1 (Below.refl _ _)))
          have HB := hid (Below_drew1 HB.out)
          have p0 := LT.out.c 0 rfl
          have p1 := LT.out.c 1 rfl
          have p2 := LT.out.c 2 rfl
          have p3 := LT.out.c 3 rfl
          have p4 := (hBW.out.cell (p := ⟨g2, k * 4, none⟩) hg2).trans qc2
          have p5 := (hBW.out.cell (p := ⟨g2, k * 4 + 1, none⟩) hg2).trans q02
          have p6 := (hBW.out.cell (p := ⟨g2, k * 4 + 2, none⟩) hg2).trans q12
          have p7 := (hBW.out.cell (p := ⟨g2, k * 4 + 3, none⟩) hg2).trans q22
          have hg3 := hid (Nat.lt_of_lt_of_le hg2 hBW.out.size)
          clear qc1 q01 q11 q21 qc2 q02 q12 q22
          refine wp_region_held_drew (S := (fun w' => w'.cell? ⟨wr.heap.size, 0, none⟩ = some (.int .i64 x1) ∧ w'.cell? ⟨wr.heap.size, 1, none⟩ = some (.bool s1) ∧ w'.cell? ⟨wr.heap.size, 2, none⟩ = some (.slice a31 n31 c31) ∧ w'.cell? ⟨wr.heap.size, 3, none⟩ = some (.slice b31 m31 d31) ∧ w'.cell? ⟨g2, k * 4, none⟩ = some (.int .i64 x2) ∧ w'.cell? ⟨g2, k * 4 + 1, none⟩ = some (.bool s2) ∧ w'.cell? ⟨g2, k * 4 + 2, none⟩ = some (.slice a32 n32 c32) ∧ w'.cell? ⟨g2, k * 4 + 3, none⟩ = some (.slice b32 m32 d32))) (by kernel_rfl) (by first | ((first | with_reducible exact ⟨p0, p1, p2, p3, p4, p5, p6, p7⟩ | exact ⟨p0, p1, p2, p3, p4, p5, p6, p7⟩)) | ((try dsimp only); (first | with_reducible exact ⟨p0, p1, p2, p3, p4, p5, p6, p7⟩ | exact ⟨p0, p1, p2, p3, p4, p5, p6, p7⟩))) (fun hHeld => ?_)
          refine wpAnyH_take (i := 0) (oi := _) (v := ?_) rfl (by kernel_rfl) (by kernel_rfl) (by kernel_rfl) (fun _ _ _ h => h) (Or.inl ⟨by rfl, ?_⟩) (by assumption) ?_
          rotate_left
          · (intro w hSw; (try dsimp only at hSw); go_simp; try (with_reducible rfl))
          try simp only [Act.put, List.setIfInBounds_toArray, List.set_cons_zero, List.set_cons_succ, List.getElem_toArray, List.getElem_cons_zero]
          refine wpAnyH_take (i := 1) (oi := _) (v := ?_) rfl (by kernel_rfl) (by kernel_rfl) (by kernel_rfl) (fun _ _ _ h => h) (Or.inl ⟨by rfl, ?_⟩) (by assumption) ?_
          rotate_left
          · (intro w hSw; (try dsimp only at hSw); go_simp; try (with_reducible rfl))
          try simp only [Act.put, List.setIfInBounds_toArray, List.set_cons_zero, List.set_cons_succ, List.getElem_toArray, List.getElem_cons_zero, List.getElem_cons_succ]
          refine wpAnyH_take (i := 2) (oi := _) (v := ?_) rfl (by kernel_rfl) (by kernel_rfl) (by kernel_rfl) (fun _ _ _ h => h) (Or.inl ⟨by rfl, ?_⟩) (by assumption) ?_
          rotate_left
          · (intro w hSw; (try dsimp only at hSw); go_simp; try (with_reducible rfl))
          try simp only [Act.put, List.setIfInBounds_toArray, List.set_cons_zero, List.set_cons_succ, List.getElem_toArray, List.getElem_cons_zero, List.getElem_cons_succ]
          refine wpAnyH_take (i := 3) (oi := _) (v := ?_) rfl (by kernel_rfl) (by kernel_rfl) (by kernel_rfl) (fun _ _ _ h => h) (Or.inl ⟨by rfl, ?_⟩) (by assumption) ?_
          rotate_left
          · (intro w hSw; (try dsimp only at hSw); go_simp; try (with_reducible rfl))
          try simp only [Act.put, List.setIfInBounds_toArray, List.set_cons_zero, List.set_cons_succ, List.getElem_toArray, List.getElem_cons_zero, List.getElem_cons_succ]
          refine wpAnyH_take (i := 4) (oi := _) (v := ?_) rfl (by kernel_rfl) (by kernel_rfl) (by kernel_rfl) (fun _ _ _ h => h) (Or.inl ⟨by rfl, ?_⟩) (by assumption) ?_
          rotate_left
          · (intro w hSw; (try dsimp only at hSw); go_simp; try (with_reducible rfl))
          try simp only [Act.put, List.setIfInBounds_toArray, List.set_cons_zero, List.set_cons_succ, List.getElem_toArray, List.getElem_cons_zero, List.getElem_cons_succ]
          refine wpAnyH_take (i := 5) (oi := _) (v := ?_) rfl (by kernel_rfl) (by kernel_rfl) (by kernel_rfl) (fun _ _ _ h => h) (Or.inl ⟨by rfl, ?_⟩) (by assumption) ?_
          rotate_left
          · (intro w hSw; (try dsimp only at hSw); go_simp; try (with_reducible rfl))
          try simp only [Act.put, List.setIfInBounds_toArray, List.set_cons_zero, List.set_cons_succ, List.getElem_toArray, List.getElem_cons_zero, List.getElem_cons_succ]
          refine wpAnyH_take (i := 6) (oi := _) (v := ?_) rfl (by kernel_rfl) (by kernel_rfl) (by kernel_rfl) (fun _ _ _ h => h) (Or.inl ⟨by rfl, ?_⟩) (by assumption) ?_
          rotate_left
          · (intro w hSw; (try dsimp only at hSw); go_simp; try (with_reducible rfl))
          try simp only [Act.put, List.setIfInBounds_toArray, List.set_cons_zero, List.set_cons_succ, List.getElem_toArray, List.getElem_cons_zero, List.getElem_cons_succ]
          refine wpAnyH_take (i := 7) (oi := _) (v := ?_) rfl (by kernel_rfl) (by kernel_rfl) (by kernel_rfl) (fun _ _ _ h => h) (Or.inl ⟨by rfl, ?_⟩) (by assumption) ?_
          rotate_left
          · (intro w hSw; (try dsimp only at hSw); go_simp; try (with_reducible rfl))
          try simp only [Act.put, List.setIfInBounds_toArray, List.set_cons_zero, List.set_cons_succ, List.getElem_toArray, List.getElem_cons_zero, List.getElem_cons_succ]
          refine wpAnyH_take (i := 8) (oi := _) (v := ?_) rfl (by kernel_rfl) (by kernel_rfl) (by kernel_rfl) (fun _ _ _ h => h) (Or.inl ⟨by rfl, ?_⟩) (by assumption) ?_
          rotate_left
          · (intro w hSw; (try dsimp only at hSw); go_simp; try (with_reducible rfl))
          try simp only [Act.put, List.setIfInBounds_toArray, List.set_cons_zero, List.set_cons_succ, List.getElem_toArray, List.getElem_cons_zero, List.getElem_cons_succ]
          refine wpAnyH_take (i := 9) (oi := _) (v := undef) rfl (by kernel_rfl) (by kernel_rfl) (by kernel_rfl) (fun _ _ _ h => h) (Or.inr ⟨by rfl, rfl⟩) (by assumption) ?_
          try simp only [Act.put, List.setIfInBounds_toArray, List.set_cons_zero, List.set_cons_succ, List.getElem_toArray, List.getElem_cons_zero, List.getElem_cons_succ]
          refine wpAnyH_take (i := 10) (oi := _) (v := undef) rfl (by kernel_rfl) (by kernel_rfl) (by kernel_rfl) (fun _ _ _ h => h) (Or.inr ⟨by rfl, rfl⟩) (by assumption) ?_
          try simp only [Act.put, List.setIfInBounds_toArray, List.set_cons_zero, List.set_cons_succ, List.getElem_toArray, List.getElem_cons_zero, List.getElem_cons_succ]
          refine wpAnyH_take (i := 11) (oi := _) (v := undef) rfl (by kernel_rfl) (by kernel_rfl) (by kernel_rfl) (fun _ _ _ h => h) (Or.inr ⟨by rfl, rfl⟩) (by assumption) ?_
          try simp only [Act.put, List.setIfInBounds_toArray, List.set_cons_zero, List.set_cons_succ, List.getElem_toArray, List.getElem_cons_zero, List.getElem_cons_succ]
          refine wpAnyH_take (i := 12) (oi := _) (v := undef) rfl (by kernel_rfl) (by kernel_rfl) (by kernel_rfl) (fun _ _ _ h => h) (Or.inr ⟨by rfl, rfl⟩) (by assumption) ?_
          try simp only [Act.put, List.setIfInBounds_toArray, List.set_cons_zero, List.set_cons_succ, List.getElem_toArray, List.getElem_cons_zero, List.getElem_cons_succ]
          refine wpAnyH_take (i := 13) (oi := _) (v := undef) rfl (by kernel_rfl) (by kernel_rfl) (by kernel_rfl) (fun _ _ _ h => h) (Or.inr ⟨by rfl, rfl⟩) (by assumption) ?_
          try simp only [Act.put, List.setIfInBounds_toArray, List.set_cons_zero, List.set_cons_succ, List.getElem_toArray, List.getElem_cons_zero, List.getElem_cons_succ]
          refine wpAnyH_take (i := 14) (oi := _) (v := undef) rfl (by kernel_rfl) (by kernel_rfl) (by kernel_rfl) (fun _ _ _ h => h) (Or.inr ⟨by rfl, rfl⟩) (by assumption) ?_
          try simp only [Act.put, List.setIfInBounds_toArray, List.set_cons_zero, List.set_cons_succ, List.getElem_toArray, List.getElem_cons_zero, List.getElem_cons_succ]
          refine wpAnyH_take (i := 15) (oi := _) (v := undef) rfl (by kernel_rfl) (by kernel_rfl) (by kernel_rfl) (fun _ _ _ h => h) (Or.inr ⟨by rfl, rfl⟩) (by assumption) ?_
          try simp only [Act.put, List.setIfInBounds_toArray, List.set_cons_zero, List.set_cons_succ, List.getElem_toArray, List.getElem_cons_zero, List.getElem_cons_succ]
          refine wpAnyH_take (i := 16) (oi := _) (v := undef) rfl (by kernel_rfl) (by kernel_rfl) (by kernel_rfl) (fun _ _ _ h => h) (Or.inr ⟨by rfl, rfl⟩) (by assumption) ?_
          try simp only [Act.put, List.setIfInBounds_toArray, List.set_cons_zero, List.set_cons_succ, List.getElem_toArray, List.getElem_cons_zero, List.getElem_cons_succ]
          refine wpAnyH_take (i := 17) (oi := _) (v := undef) rfl (by kernel_rfl) (by kernel_rfl) (by kernel_rfl) (fun _ _ _ h => h) (Or.inr ⟨by rfl, rfl⟩) (by assumption) ?_
          try simp only [Act.put, List.setIfInBounds_toArray, List.set_cons_zero, List.set_cons_succ, List.getElem_toArray, List.getElem_cons_zero, List.getElem_cons_succ]
          refine wpAnyH_take (i := 18) (oi := _) (v := ?_) rfl (by kernel_rfl) (by kernel_rfl) (by kernel_rfl) (fun _ _ _ h => h) (Or.inl ⟨by rfl, ?_⟩) (by assumption) ?_
          rotate_left
          · (intro w hSw; (try dsimp only at hSw); go_simp; try (with_reducible rfl))
          try simp only [Act.put, List.setIfInBounds_toArray, List.set_cons_zero, List.set_cons_succ, List.getElem_toArray, List.getElem_cons_zero, List.getElem_cons_succ]
          refine wpAnyH_done (by kernel_rfl) ?_ _
          try clear p0 p1 p2 p3 p4 p5 p6 p7
          go_wp2
          go_ret
          exact ⟨bool_ret (by rw [HB0.out, eqT_no hlt hlt2 (by rw [HF1.out, HF2.out]; exact hef)]), HB.out⟩
      · have HB := hid hbel
        clear hbel
        go_wp2
        go_ret
        exact ⟨bool_ret (by rw [HB0.out, eqT_yes HN.out (fun j h h' => hA.out j h h' (by omega))]), HB.out⟩
  · rw [eqT_len hne]
    obtain ⟨e1, e2⟩ := ne_facts hne
    go_enter Try.func65, Try.ntmps65
    go_wp2
    go_ret
    exact ⟨rfl, Below.refl _ _⟩
set_option maxRecDepth 100000 in
set_option maxHeartbeats 6400000 in
theorem impl_TermsEqual {p q : Bool} {a : Option Addr} {n c : Nat} {b : Option Addr} {m d : Nat} {K L : List Tq} {lo hi lo' hi' : Nat} (hK : SmT K) (hL : SmT L) (w : World) (h : TK p w (.slice a n c) K lo hi) (h' : TK q w (.slice b m d) L lo' hi') :
    Calls Try.prog 69 #[.slice a n c, .slice b m d] w (RetB (.bool (eqT K L)) w) := by
  have KE := hid (EqualFuncT_eq hK hL w h h')
  clear h h'
  generalize eqT K L = B0 at KE ⊢
  go_enter Try.func69, Try.ntmps69
  go_wp2_with fail
  (with_reducible refine (KE.out).mono ?_)
  rintro e w2 ⟨rfl, hb⟩
  have HB := hid hb
  clear hb
  go_wp2
  go_ret
  exact ⟨rfl, HB.out⟩
end Go.Proofs.Yteanocjkdehhgaa
