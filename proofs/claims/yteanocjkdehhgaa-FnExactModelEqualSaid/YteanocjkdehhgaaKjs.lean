/- Merged: Kj Kjs. -/
import Derived.Test.YteanocjkdehhgaaKh
import Derived.Test.YteanocjkdehhgaaKg
import Derived.Test.YteanocjkdehhgaaRwc
import Derived.Deep.RegionHeld3
/- Equal columns, slices of columns and of rows, models: the program and the reference. -/
namespace Go.Proofs.Yteanocjkdehhgaa
open Go.RowKit
open Go.Lib (hid)
set_option linter.unusedVariables false

def eqCq (c d : Cq) : Bool := decide (c.n = d.n) && ((c.s == d.s) && decide (c.A = d.A) && decide (c.D = d.D)) && ((c.z == d.z) && decide (c.F = d.F) && decide (c.G = d.G)) && (c.b == d.b)
def eqWq (w v : Wq) : Bool := eqT w.K v.K && decide (w.x = v.x) && ((w.s == v.s) && decide (w.A = v.A) && decide (w.D = v.D))
/-- Two lists are equal, element by element. -/
def eqLs {α : Type} (f : α → α → Bool) : List α → List α → Bool
  | [], [] => true
  | a :: K, b :: L => f a b && eqLs f K L
  | _, _ => false
theorem eqLs_len {α : Type} {f : α → α → Bool} : ∀ {K L : List α}, K.length ≠ L.length → eqLs f K L = false
  | [], [], h => absurd rfl h
  | [], _ :: _, _ => rfl
  | _ :: _, [], _ => rfl
  | a :: K, b :: L, h => by
    have := eqLs_len (f := f) (K := K) (L := L) (fun e => h (by simp [e]))
    simp [eqLs, this]
theorem eqLs_no {α : Type} {f : α → α → Bool} : ∀ {K L : List α} {k : Nat} (h : k < K.length) (h' : k < L.length), f K[k] L[k] = false → eqLs f K L = false
  | a :: K, b :: L, 0, _, _, e => by simp only [List.getElem_cons_zero] at e; simp [eqLs, e]
  | a :: K, b :: L, k + 1, h, h', e => by
    have := eqLs_no (f := f) (K := K) (L := L) (k := k) (by simpa using h) (by simpa using h') (by simpa using e)
    simp [eqLs, this]
theorem eqLs_yes {α : Type} {f : α → α → Bool} : ∀ {K L : List α}, K.length = L.length → (∀ k (h : k < K.length) (h' : k < L.length), f K[k] L[k] = true) → eqLs f K L = true
  | [], [], _, _ => rfl
  | [], _ :: _, h, _ => by simp at h
  | _ :: _, [], h, _ => by simp at h
  | a :: K, b :: L, h, ha => by
    have h0 := ha 0 (by simp) (by simp)
    have h1 := eqLs_yes (f := f) (K := K) (L := L) (by simpa using h) (fun k h2 h3 => ha (k + 1) (Nat.succ_lt_succ h2) (Nat.succ_lt_succ h3))
    simp only [List.getElem_cons_zero] at h0
    simp [eqLs, h0, h1]
theorem bytes_ne {x y : ByteArray} (h : ¬ x = y) : x.toList ≠ y.toList := by
  rw [ByteArray.toList_eq, ByteArray.toList_eq]
  intro e
  exact h (by cases x; cases y; simp only at e; congr 1; exact Array.toList_inj.1 e)
set_option maxRecDepth 100000 in
set_option maxHeartbeats 12800000 in
theorem impl_colEqual (n : ByteArray) (s z b : Bool) (n' : ByteArray) (s' z' b' : Bool) {v1 u1 x1 y1 v2 u2 x2 y2 : Value} {A D F G A' D' F' G' : List Int} (h1 : A.length ≤ 1048576 ∧ D.length ≤ 1048576 ∧ F.length ≤ 1048576 ∧ G.length ≤ 1048576) (h2 : A'.length ≤ 1048576 ∧ D'.length ≤ 1048576 ∧ F'.length ≤ 1048576 ∧ G'.length ≤ 1048576) (w : World) (o1 : ClW w v1 u1 x1 y1 A D F G) (o2 : ClW w v2 u2 x2 y2 A' D' F' G') :
    Calls Try.prog 68 #[.agg #[.string n, .bool s, v1, u1, .bool z, x1, y1, .bool b], .agg #[.string n', .bool s', v2, u2, .bool z', x2, y2, .bool b']] w (RetB (.bool (eqCq ⟨n, s, A, D, z, F, G, b⟩ ⟨n', s', A', D', z', F', G', b'⟩)) w) := by
  obtain ⟨a1, c1, b1, d1, e1, f1, i1, j1, rfl, rfl, rfl, rfl⟩ := o1.form
  obtain ⟨a2, c2, b2, d2, e2, f2, i2, j2, rfl, rfl, rfl, rfl⟩ := o2.form
  have B := hid (below_new2 (w := w) (o := .cells #[.string n, .bool s, .slice a1 A.length c1, .slice b1 D.length d1, .bool z, .slice e1 F.length f1, .slice i1 G.length j1, .bool b] 35) (o' := .cells #[.string n', .bool s', .slice a2 A'.length c2, .slice b2 D'.length d2, .bool z', .slice e2 F'.length f2, .slice i2 G'.length j2, .bool b'] 35))
  have L1 := hid ((LocA.at (T := 35) (w := w) (b := w.heap.size) (cs := #[.string n, .bool s, .slice a1 A.length c1, .slice b1 D.length d1, .bool z, .slice e1 F.length f1, .slice i1 G.length j1, .bool b]) rfl).new1 (o := .cells #[.string n', .bool s', .slice a2 A'.length c2, .slice b2 D'.length d2, .bool z', .slice e2 F'.length f2, .slice i2 G'.length j2, .bool b'] 35))
  have L2 := hid (LocA.at (T := 35) (w := w.alloc (.cells #[.string n, .bool s, .slice a1 A.length c1, .slice b1 D.length d1, .bool z, .slice e1 F.length f1, .slice i1 G.length j1, .bool b] 35)) (b := w.heap.size + 1) (cs := #[.string n', .bool s', .slice a2 A'.length c2, .slice b2 D'.length d2, .bool z', .slice e2 F'.length f2, .slice i2 G'.length j2, .bool b']) (by simp))
  have H1 := hid (o1.old B.out)
  have H2 := hid (o2.old B.out)
  have KL := hid (fun (W : World) (g1 : ClW W (.slice a1 A.length c1) (.slice b1 D.length d1) (.slice e1 F.length f1) (.slice i1 G.length j1) A D F G) (g2 : ClW W (.slice a2 A'.length c2) (.slice b2 D'.length d2) (.slice e2 F'.length f2) (.slice i2 G'.length j2) A' D' F' G') => impl_RatEqual s s' _ _ _ _ A D A' D' W (g1.rll h1.1 h1.2.1) (g2.rll h2.1 h2.2.1))
  have KH := hid (fun (W : World) (g1 : ClW W (.slice a1 A.length c1) (.slice b1 D.length d1) (.slice e1 F.length f1) (.slice i1 G.length j1) A D F G) (g2 : ClW W (.slice a2 A'.length c2) (.slice b2 D'.length d2) (.slice e2 F'.length f2) (.slice i2 G'.length j2) A' D' F' G') => impl_RatEqual z z' _ _ _ _ F G F' G' W (g1.rlh h1.2.2.1 h1.2.2.2) (g2.rlh h2.2.2.1 h2.2.2.2))
  have HE := hid (show eqCq ⟨n, s, A, D, z, F, G, b⟩ ⟨n', s', A', D', z', F', G', b'⟩ = (decide (n = n') && ((s == s') && decide (A = A') && decide (D = D')) && ((z == z') && decide (F = F') && decide (G = G')) && (b == b')) from rfl)
  clear o1 o2
  generalize eqCq ⟨n, s, A, D, z, F, G, b⟩ ⟨n', s', A', D', z', F', G', b'⟩ = RR at HE ⊢
  generalize hq1 : ((s == s') && decide (A = A') && decide (D = D')) = q1 at KL HE
  generalize hq2 : ((z == z') && decide (F = F') && decide (G = G')) = q2 at KH HE
  clear hq1 hq2
  generalize hW : (w.alloc (.cells #[.string n, .bool s, .slice a1 A.length c1, .slice b1 D.length d1, .bool z, .slice e1 F.length f1, .slice i1 G.length j1, .bool b] 35)).alloc (.cells #[.string n', .bool s', .slice a2 A'.length c2, .slice b2 D'.length d2, .bool z', .slice e2 F'.length f2, .slice i2 G'.length j2, .bool b'] 35) = W0 at B L1 L2 H1 H2
  have HW := hid hW
  clear hW
  by_cases hn : n = n'
  case neg =>
    have hx : (n.toList == n'.toList) = false := beq_eq_false_iff_ne.2 (bytes_ne hn)
    have hR : RR = false := by rw [HE.out, decide_eq_false hn]; rfl
    subst hR
    go_enter Try.func68, Try.ntmps68
    go_wp2
    rw [HW.out]
    go_ret
    exact ⟨rfl, B.out⟩
  subst hn
  have HE := hid (show RR = (q1 && q2 && (b == b')) by rw [HE.out, decide_eq_true rfl, Bool.true_and])
  cases q1 with
  | false =>
    have hR : RR = false := by rw [HE.out]; rfl
    subst hR
    go_enter Try.func68, Try.ntmps68
    go_wp2_with fail
    rw [HW.out]
    (with_reducible refine (KL.out _ H1.out H2.out).mono ?_)
    rintro e w1 ⟨rfl, g1⟩
    have H1 := hid (H1.out.old g1)
    have H2 := hid (H2.out.old g1)
    have L1 := hid (L1.out.old g1)
    have L2 := hid (L2.out.old g1)
    have B := hid (B.out.trans (g1.mono B.out.size))
    clear g1
    have q0 := L1.out.c 4 rfl
    have q1 := L1.out.c 5 rfl
    have q2 := L1.out.c 6 rfl
    have q3 := L2.out.c 4 rfl
    have q4 := L2.out.c 5 rfl
    have q5 := L2.out.c 6 rfl
    go_wp2
    go_ret
    exact ⟨rfl, B.out⟩
  | true =>
    cases q2 with
    | false =>
      have hR : RR = false := by rw [HE.out]; rfl
      subst hR
      go_enter Try.func68, Try.ntmps68
      go_wp2_with fail
      rw [HW.out]
      (with_reducible refine (KL.out _ H1.out H2.out).mono ?_)
      rintro e w1 ⟨rfl, g1⟩
      have H1 := hid (H1.out.old g1)
      have H2 := hid (H2.out.old g1)
      have L1 := hid (L1.out.old g1)
      have L2 := hid (L2.out.old g1)
      have B := hid (B.out.trans (g1.mono B.out.size))
      clear g1
      have q0 := L1.out.c 4 rfl
      have q1 := L1.out.c 5 rfl
      have q2 := L1.out.c 6 rfl
      have q3 := L2.out.c 4 rfl
      have q4 := L2.out.c 5 rfl
      have q5 := L2.out.c 6 rfl
      go_wp2_with fail
      (with_reducible refine (KH.out _ H1.out H2.out).mono ?_)
      rintro e w2 ⟨rfl, g1⟩
      have H1 := hid (H1.out.old g1)
      have H2 := hid (H2.out.old g1)
      have L1 := hid (L1.out.old g1)
      have L2 := hid (L2.out.old g1)
      have B := hid (B.out.trans (g1.mono B.out.size))
      clear g1
      clear q0 q1 q2 q3 q4 q5
      have q0 := L1.out.c 7 rfl
      have q1 := L2.out.c 7 rfl
      go_wp2
      go_ret
      exact ⟨rfl, B.out⟩
    | true =>
      have hR : RR = (b == b') := by rw [HE.out]; rfl
      subst hR
      go_enter Try.func68, Try.ntmps68
      go_wp2_with fail
      rw [HW.out]
      (with_reducible refine (KL.out _ H1.out H2.out).mono ?_)
      rintro e w1 ⟨rfl, g1⟩
      have H1 := hid (H1.out.old g1)
      have H2 := hid (H2.out.old g1)
      have L1 := hid (L1.out.old g1)
      have L2 := hid (L2.out.old g1)
      have B := hid (B.out.trans (g1.mono B.out.size))
      clear g1
      have q0 := L1.out.c 4 rfl
      have q1 := L1.out.c 5 rfl
      have q2 := L1.out.c 6 rfl
      have q3 := L2.out.c 4 rfl
      have q4 := L2.out.c 5 rfl
      have q5 := L2.out.c 6 rfl
      go_wp2_with fail
      (with_reducible refine (KH.out _ H1.out H2.out).mono ?_)
      rintro e w2 ⟨rfl, g1⟩
      have H1 := hid (H1.out.old g1)
      have H2 := hid (H2.out.old g1)
      have L1 := hid (L1.out.old g1)
      have L2 := hid (L2.out.old g1)
      have B := hid (B.out.trans (g1.mono B.out.size))
      clear g1
      clear q0 q1 q2 q3 q4 q5
      have q0 := L1.out.c 7 rfl
      have q1 := L2.out.c 7 rfl
      go_wp2
      go_ret
      exact ⟨rfl, B.out⟩
set_option maxRecDepth 100000 in
set_option maxHeartbeats 12800000 in
theorem EqualFuncCol_eq {v v' : Value} {K L : List Cq} (hK : SmC K) (hL : SmC L) (w : World) (h : CS w v K) (h' : CS w v' L) :
    Calls Try.prog 67 #[v, v', .func (.func 68) #[] #[]] w (RetB (.bool (eqLs eqCq K L)) w) := by
  have HV := hid h
  have HW := hid h'
  obtain ⟨a, c, rfl⟩ := h.form
  obtain ⟨a', c', rfl⟩ := h'.form
  clear h h'
  have hkl := hK.2
  have hll := hL.2
  by_cases hne : K.length = L.length
  · obtain ⟨B0, hB0⟩ : ∃ B, B = eqLs eqCq K L := ⟨_, rfl⟩
    rw [← hB0]
    have HB0 := hid hB0
    clear hB0
    have HN := hid hne
    rw [← hne] at HW ⊢
    clear hne
    go_enter Try.func67, Try.ntmps67
    go_wp2
    go_loopw [17] (fun i wr => ∃ k : Nat, k ≤ K.length ∧ i = .int .i64 k ∧ Hid (∀ j (h : j < K.length) (h' : j < L.length), j < k → eqCq K[j] L[j] = true) ∧ Below w.heap.size w wr) (fun i _ => K.length - (intOf i).toNat)
    case atStart => exact ⟨0, Nat.zero_le _, rfl, hid (fun j h h' hj => absurd hj (by omega)), Below.refl _ _⟩
    case round =>
      obtain ⟨k, hk, rfl, hA, hbel⟩ := hrel
      by_cases hlt : k < K.length
      · have hlt2 : k < L.length := by rw [← HN.out]; exact hlt
        obtain ⟨g1, o1, v1, u1, x1, y1, rfl, hg1, q0, q1, q2, q3, q4, q5, q6, q7, R1⟩ := (HV.out.old hbel).at hlt
        obtain ⟨g2, o2, v2, u2, x2, y2, rfl, hg2, q8, q9, q10, q11, q12, q13, q14, q15, R2⟩ := (HW.out.old hbel).at hlt2
        have hs1 := hK.1 _ (List.getElem_mem hlt)
        have hs2 := hL.1 _ (List.getElem_mem hlt2)
        have HX := hid (fun e => eqLs_no (f := eqCq) hlt hlt2 e)
        have HY := hid (fun (e : eqCq K[k] L[k] = true) j (h : j < K.length) (h' : j < L.length) (hj : j < k + 1) => (show eqCq K[j] L[j] = true from by
            rcases Nat.lt_or_eq_of_le (Nat.le_of_lt_succ hj) with hj' | rfl
            · exact hA.out j h h' hj'
            · exact e))
        generalize K[k] = p1 at q0 q1 q2 q3 q4 q5 q6 q7 R1 hs1 HX HY
        generalize L[k] = p2 at q8 q9 q10 q11 q12 q13 q14 q15 R2 hs2 HX HY
        obtain ⟨n1, s1, A1, D1, z1, F1, G1, b1⟩ := p1
        obtain ⟨n2, s2, A2, D2, z2, F2, G2, b2⟩ := p2
        simp only at q0 q1 q2 q3 q4 q5 q6 q7 q8 q9 q10 q11 q12 q13 q14 q15 hs1 hs2 R1 R2
        obtain ⟨a1, c1, k1, d1, e1, f1, i1, j1, rfl, rfl, rfl, rfl⟩ := R1.form
        obtain ⟨a2, c2, k2, d2, e2, f2, i2, j2, rfl, rfl, rfl, rfl⟩ := R2.form
        have R1 := hid R1
        have R2 := hid R2
        have HB := hid ((hbel.alloc hbel.size (.cells #[.string n1, .bool s1, .slice a1 A1.length c1, .slice k1 D1.length d1, .bool z1, .slice e1 F1.length f1, .slice i1 G1.length j1, .bool b1] 35)).alloc (by have := hbel.size; simp; omega) (.cells #[.string n2, .bool s2, .slice a2 A2.length c2, .slice k2 D2.length d2, .bool z2, .slice e2 F2.length f2, .slice i2 G2.length j2, .bool b2] 35))
        have a1' : (0 : Int) ≤ k := by omega
        have a2' : (k : Int) < K.length := by omega
        clear hbel
        have KO := hid (fun (W : World) (hb : Below wr.heap.size wr W) => show Calls Try.prog 68 _ W (RetB (.bool (eqCq ⟨n1, s1, A1, D1, z1, F1, G1, b1⟩ ⟨n2, s2, A2, D2, z2, F2, G2, b2⟩)) W) from impl_colEqual n1 s1 z1 b1 n2 s2 z2 b2 hs1 hs2 W (R1.out.old hb) (R2.out.old hb))
        obtain ⟨ef, hef⟩ : ∃ ef, eqCq ⟨n1, s1, A1, D1, z1, F1, G1, b1⟩ ⟨n2, s2, A2, D2, z2, F2, G2, b2⟩ = ef := ⟨_, rfl⟩
        clear hs1 hs2
        simp only [hef] at KO
        cases ef with
        | false =>
          go_wp2_with fail
          (with_reducible refine (KO.out _ (Below.alloc below_new' (by simp) _)).mono ?_)
          rintro e w2 ⟨rfl, hb⟩
          have HB := hid (HB.out.trans (hb.mono (by have := HB.out.size; simp at this ⊢; omega)))
          clear hb q0 q1 q2 q3 q4 q5 q6 q7 q8 q9 q10 q11 q12 q13 q14 q15
          go_wp2
          go_ret
          exact ⟨bool_retK (by rw [HB0.out, HX.out hef]), HB.out⟩
        | true =>
          go_wp2_with fail
          (with_reducible refine (KO.out _ (Below.alloc below_new' (by simp) _)).mono ?_)
          rintro e w2 ⟨rfl, hb⟩
          have HB := hid (HB.out.trans (hb.mono (by have := HB.out.size; simp at this ⊢; omega)))
          clear hb q0 q1 q2 q3 q4 q5 q6 q7 q8 q9 q10 q11 q12 q13 q14 q15
          go_wp2
          go_roundw
          case rel => exact ⟨k + 1, by omega, by go_num, hid (HY.out hef), HB.out⟩
          case measure => simp [intOf]; omega
      · have HB := hid hbel
        clear hbel
        go_wp2
        go_ret
        exact ⟨bool_retK (by rw [HB0.out, eqLs_yes HN.out (fun j h h' => hA.out j h h' (by omega))]), HB.out⟩
  · rw [eqLs_len hne]
    obtain ⟨e1, e2⟩ := ne_facts hne
    go_enter Try.func67, Try.ntmps67
    go_wp2
    go_ret
    exact ⟨rfl, Below.refl _ _⟩
set_option maxRecDepth 100000 in
set_option maxHeartbeats 12800000 in
theorem EqualFuncRow_eq {v v' : Value} {K L : List Wq} (hK : SmR K) (hL : SmR L) (w : World) (h : RS w v K) (h' : RS w v' L) :
    Calls Try.prog 70 #[v, v', .func (.func 71) #[] #[]] w (RetB (.bool (eqLs eqWq K L)) w) := by
  have HV := hid h
  have HW := hid h'
  obtain ⟨a, c, rfl⟩ := h.form
  obtain ⟨a', c', rfl⟩ := h'.form
  clear h h'
  have hkl := hK.2
  have hll := hL.2
  by_cases hne : K.length = L.length
  · obtain ⟨B0, hB0⟩ : ∃ B, B = eqLs eqWq K L := ⟨_, rfl⟩
    rw [← hB0]
    have HB0 := hid hB0
    clear hB0
    have HN := hid hne
    rw [← hne] at HW ⊢
    clear hne
    go_enter Try.func70, Try.ntmps70
    go_wp2
    go_loopw [17] (fun i wr => ∃ k : Nat, k ≤ K.length ∧ i = .int .i64 k ∧ Hid (∀ j (h : j < K.length) (h' : j < L.length), j < k → eqWq K[j] L[j] = true) ∧ Below w.heap.size w wr) (fun i _ => K.length - (intOf i).toNat)
    case atStart => exact ⟨0, Nat.zero_le _, rfl, hid (fun j h h' hj => absurd hj (by omega)), Below.refl _ _⟩
    case round =>
      obtain ⟨k, hk, rfl, hA, hbel⟩ := hrel
      by_cases hlt : k < K.length
      · have hlt2 : k < L.length := by rw [← HN.out]; exact hlt
        obtain ⟨g1, o1, t1, v1, u1, rfl, hg1, q0, q1, q2, q3, q4, R1⟩ := (HV.out.old hbel).at hlt
        obtain ⟨g2, o2, t2, v2, u2, rfl, hg2, q5, q6, q7, q8, q9, R2⟩ := (HW.out.old hbel).at hlt2
        have hs1 := hK.1 _ (List.getElem_mem hlt)
        have hs2 := hL.1 _ (List.getElem_mem hlt2)
        have HX := hid (fun e => eqLs_no (f := eqWq) hlt hlt2 e)
        have HY := hid (fun (e : eqWq K[k] L[k] = true) j (h : j < K.length) (h' : j < L.length) (hj : j < k + 1) => (show eqWq K[j] L[j] = true from by
            rcases Nat.lt_or_eq_of_le (Nat.le_of_lt_succ hj) with hj' | rfl
            · exact hA.out j h h' hj'
            · exact e))
        generalize K[k] = p1 at q0 q1 q2 q3 q4 R1 hs1 HX HY
        generalize L[k] = p2 at q5 q6 q7 q8 q9 R2 hs2 HX HY
        obtain ⟨K1, x1, s1, A1, D1⟩ := p1
        obtain ⟨K2, x2, s2, A2, D2⟩ := p2
        simp only at q0 q1 q2 q3 q4 q5 q6 q7 q8 q9 hs1 hs2 R1 R2
        obtain ⟨a1, c1, b1, d1, e1, f1, rfl, rfl, rfl⟩ := R1.form
        obtain ⟨a2, c2, b2, d2, e2, f2, rfl, rfl, rfl⟩ := R2.form
        have R1 := hid R1
        have R2 := hid R2
        have HB := hid ((hbel.alloc hbel.size (.cells #[.slice a1 K1.length c1, .int .i64 x1, .bool s1, .slice b1 A1.length d1, .slice e1 D1.length f1] 91)).alloc (by have := hbel.size; simp; omega) (.cells #[.slice a2 K2.length c2, .int .i64 x2, .bool s2, .slice b2 A2.length d2, .slice e2 D2.length f2] 91))
        have a1' : (0 : Int) ≤ k := by omega
        have a2' : (k : Int) < K.length := by omega
        clear hbel
        have KO := hid (fun (W : World) (hb : Below wr.heap.size wr W) => show Calls Try.prog 71 _ W (RetB (.bool (eqWq ⟨K1, x1, s1, A1, D1⟩ ⟨K2, x2, s2, A2, D2⟩)) W) from impl_RowEqual x1 x2 s1 s2 hs1.1 hs2.1 hs1.2.1 hs1.2.2 hs2.2.1 hs2.2.2 W (R1.out.old hb) (R2.out.old hb))
        obtain ⟨ef, hef⟩ : ∃ ef, eqWq ⟨K1, x1, s1, A1, D1⟩ ⟨K2, x2, s2, A2, D2⟩ = ef := ⟨_, rfl⟩
        clear hs1 hs2
        simp only [hef] at KO
        cases ef with
        | false =>
          go_wp2_with fail
          (with_reducible refine (KO.out _ (Below.alloc below_new' (by simp) _)).mono ?_)
          rintro e w2 ⟨rfl, hb⟩
          have HB := hid (HB.out.trans (hb.mono (by have := HB.out.size; simp at this ⊢; omega)))
          clear hb q0 q1 q2 q3 q4 q5 q6 q7 q8 q9
          go_wp2
          go_ret
          exact ⟨bool_retK (by rw [HB0.out, HX.out hef]), HB.out⟩
        | true =>
          go_wp2_with fail
          (with_reducible refine (KO.out _ (Below.alloc below_new' (by simp) _)).mono ?_)
          rintro e w2 ⟨rfl, hb⟩
          have HB := hid (HB.out.trans (hb.mono (by have := HB.out.size; simp at this ⊢; omega)))
          clear hb q0 q1 q2 q3 q4 q5 q6 q7 q8 q9
          go_wp2
          go_roundw
          case rel => exact ⟨k + 1, by omega, by go_num, hid (HY.out hef), HB.out⟩
          case measure => simp [intOf]; omega
      · have HB := hid hbel
        clear hbel
        go_wp2
        go_ret
        exact ⟨bool_retK (by rw [HB0.out, eqLs_yes HN.out (fun j h h' => hA.out j h h' (by omega))]), HB.out⟩
  · rw [eqLs_len hne]
    obtain ⟨e1, e2⟩ := ne_facts hne
    go_enter Try.func70, Try.ntmps70
    go_wp2
    go_ret
    exact ⟨rfl, Below.refl _ _⟩
theorem impl_TermsEqual_md {y1 y2 : Value} {K L : List Tq} (hK : SmT K) (hL : SmT L) (W : World) (g : ∃ p lo hi, TK p W y1 K lo hi) (g' : ∃ p lo hi, TK p W y2 L lo hi) : Calls Try.prog 69 #[y1, y2] W (RetB (.bool (eqT K L)) W) := by
  obtain ⟨_, _, _, a1⟩ := g
  obtain ⟨_, _, _, a2⟩ := g'
  obtain ⟨_, _, rfl⟩ := a1.form
  obtain ⟨_, _, rfl⟩ := a2.form
  exact impl_TermsEqual hK hL W a1 a2
theorem spec_TermsEqual_md {y1 y2 : Value} {K L : List Tq} (hK : SmT K) (hL : SmT L) (W : World) (g : ∃ p lo hi, TK p W y1 K lo hi) (g' : ∃ p lo hi, TK p W y2 L lo hi) : Calls Try.prog 65 #[y1, y2] W (RetB (.bool (eqT K L)) W) := by
  obtain ⟨_, _, _, a1⟩ := g
  obtain ⟨_, _, _, a2⟩ := g'
  obtain ⟨_, _, rfl⟩ := a1.form
  obtain ⟨_, _, rfl⟩ := a2.form
  exact spec_TermsEqual hK hL W a1 a2
set_option maxRecDepth 100000 in
set_option maxHeartbeats 12800000 in
theorem impl_ModelEqual {x1 y1 z1 x2 y2 z2 : Value} {C C' : List Cq} {K L : List Tq} {R R' : List Wq} (hC : SmC C) (hC' : SmC C') (hK : SmT K) (hL : SmT L) (hR : SmR R) (hR' : SmR R') (w : World) (o1 : MdW w x1 y1 z1 C K R) (o2 : MdW w x2 y2 z2 C' L R') :
    Calls Try.prog 32 #[.agg #[x1, y1, z1], .agg #[x2, y2, z2]] w (RetB (.bool (eqLs eqCq C C' && eqT K L && eqLs eqWq R R')) w) := by
  obtain ⟨a1, c1, b1, d1, e1, f1, rfl, rfl, rfl⟩ := o1.form
  obtain ⟨a2, c2, b2, d2, e2, f2, rfl, rfl, rfl⟩ := o2.form
  have B := hid (below_new2 (w := w) (o := .cells #[.slice a1 C.length c1, .slice b1 K.length d1, .slice e1 R.length f1] 51) (o' := .cells #[.slice a2 C'.length c2, .slice b2 L.length d2, .slice e2 R'.length f2] 51))
  have L1 := hid ((LocA.at (T := 51) (w := w) (b := w.heap.size) (cs := #[.slice a1 C.length c1, .slice b1 K.length d1, .slice e1 R.length f1]) rfl).new1 (o := .cells #[.slice a2 C'.length c2, .slice b2 L.length d2, .slice e2 R'.length f2] 51))
  have L2 := hid (LocA.at (T := 51) (w := w.alloc (.cells #[.slice a1 C.length c1, .slice b1 K.length d1, .slice e1 R.length f1] 51)) (b := w.heap.size + 1) (cs := #[.slice a2 C'.length c2, .slice b2 L.length d2, .slice e2 R'.length f2]) (by simp))
  have H1 := hid (o1.old B.out)
  have H2 := hid (o2.old B.out)
  clear o1 o2
  have KC := hid (fun (W : World) (g1 : MdW W (.slice a1 C.length c1) (.slice b1 K.length d1) (.slice e1 R.length f1) C K R) (g2 : MdW W (.slice a2 C'.length c2) (.slice b2 L.length d2) (.slice e2 R'.length f2) C' L R') => EqualFuncCol_eq hC hC' W g1.c g2.c)
  have KT := hid (fun (W : World) (g1 : MdW W (.slice a1 C.length c1) (.slice b1 K.length d1) (.slice e1 R.length f1) C K R) (g2 : MdW W (.slice a2 C'.length c2) (.slice b2 L.length d2) (.slice e2 R'.length f2) C' L R') => impl_TermsEqual_md hK hL W g1.t g2.t)
  have KR := hid (fun (W : World) (g1 : MdW W (.slice a1 C.length c1) (.slice b1 K.length d1) (.slice e1 R.length f1) C K R) (g2 : MdW W (.slice a2 C'.length c2) (.slice b2 L.length d2) (.slice e2 R'.length f2) C' L R') => EqualFuncRow_eq hR hR' W g1.r g2.r)
  clear hC hC' hK hL hR hR'
  generalize eqLs eqCq C C' = B1 at KC ⊢
  generalize eqT K L = B2 at KT ⊢
  generalize eqLs eqWq R R' = B3 at KR ⊢
  generalize hW : (w.alloc (.cells #[.slice a1 C.length c1, .slice b1 K.length d1, .slice e1 R.length f1] 51)).alloc (.cells #[.slice a2 C'.length c2, .slice b2 L.length d2, .slice e2 R'.length f2] 51) = W0 at B L1 L2 H1 H2
  have HW := hid hW
  clear hW
  cases B1 with
  | false =>
    go_enter Try.func32, Try.ntmps32
    go_wp2_with fail
    rw [HW.out]
    (with_reducible refine (KC.out _ H1.out H2.out).mono ?_)
    rintro e w1 ⟨rfl, g1⟩
    have H1 := hid (H1.out.old g1)
    have H2 := hid (H2.out.old g1)
    have L1 := hid (L1.out.old g1)
    have L2 := hid (L2.out.old g1)
    have B := hid (B.out.trans (g1.mono B.out.size))
    clear g1
    have q0 := L1.out.c 1 rfl
    have q1 := L2.out.c 1 rfl
    go_wp2
    go_ret
    exact ⟨rfl, B.out⟩
  | true =>
    cases B2 with
    | false =>
      go_enter Try.func32, Try.ntmps32
      go_wp2_with fail
      rw [HW.out]
      (with_reducible refine (KC.out _ H1.out H2.out).mono ?_)
      rintro e w1 ⟨rfl, g1⟩
      have H1 := hid (H1.out.old g1)
      have H2 := hid (H2.out.old g1)
      have L1 := hid (L1.out.old g1)
      have L2 := hid (L2.out.old g1)
      have B := hid (B.out.trans (g1.mono B.out.size))
      clear g1
      have q0 := L1.out.c 1 rfl
      have q1 := L2.out.c 1 rfl
      go_wp2_with fail
      (with_reducible refine (KT.out _ H1.out H2.out).mono ?_)
      rintro e w2 ⟨rfl, g1⟩
      have H1 := hid (H1.out.old g1)
      have H2 := hid (H2.out.old g1)
      have L1 := hid (L1.out.old g1)
      have L2 := hid (L2.out.old g1)
      have B := hid (B.out.trans (g1.mono B.out.size))
      clear g1
      have q0 := L1.out.c 2 rfl
      have q1 := L2.out.c 2 rfl
      go_wp2
      go_ret
      exact ⟨rfl, B.out⟩
    | true =>
      go_enter Try.func32, Try.ntmps32
      go_wp2_with fail
      rw [HW.out]
      (with_reducible refine (KC.out _ H1.out H2.out).mono ?_)
      rintro e w1 ⟨rfl, g1⟩
      have H1 := hid (H1.out.old g1)
      have H2 := hid (H2.out.old g1)
      have L1 := hid (L1.out.old g1)
      have L2 := hid (L2.out.old g1)
      have B := hid (B.out.trans (g1.mono B.out.size))
      clear g1
      have q0 := L1.out.c 1 rfl
      have q1 := L2.out.c 1 rfl
      go_wp2_with fail
      (with_reducible refine (KT.out _ H1.out H2.out).mono ?_)
      rintro e w2 ⟨rfl, g1⟩
      have H1 := hid (H1.out.old g1)
      have H2 := hid (H2.out.old g1)
      have L1 := hid (L1.out.old g1)
      have L2 := hid (L2.out.old g1)
      have B := hid (B.out.trans (g1.mono B.out.size))
      clear g1
      have q0 := L1.out.c 2 rfl
      have q1 := L2.out.c 2 rfl
      go_wp2_with fail
      (with_reducible refine (KR.out _ H1.out H2.out).mono ?_)
      rintro e w3 ⟨rfl, g1⟩
      have H1 := hid (H1.out.old g1)
      have H2 := hid (H2.out.old g1)
      have L1 := hid (L1.out.old g1)
      have L2 := hid (L2.out.old g1)
      have B := hid (B.out.trans (g1.mono B.out.size))
      clear g1
      go_wp2
      go_ret
      exact ⟨rfl, B.out⟩
end Go.Proofs.Yteanocjkdehhgaa

/- Equal models: the reference. -/
namespace Go.Proofs.Yteanocjkdehhgaa
open Go.RowKit
open Go.Lib (hid)
set_option linter.unusedVariables false

set_option maxRecDepth 100000 in
set_option maxHeartbeats 12800000 in
theorem spec_ModelEqual {x1 y1 z1 x2 y2 z2 : Value} {C C' : List Cq} {K L : List Tq} {R R' : List Wq} (hC : SmC C) (hC' : SmC C') (hK : SmT K) (hL : SmT L) (hR : SmR R) (hR' : SmR R') (w : World) (o1 : MdW w x1 y1 z1 C K R) (o2 : MdW w x2 y2 z2 C' L R') :
    Calls Try.prog 31 #[.agg #[x1, y1, z1], .agg #[x2, y2, z2]] w (RetB (.bool (eqLs eqCq C C' && eqT K L && eqLs eqWq R R')) w) := by
  obtain ⟨a1, c1, b1, d1, e1, f1, rfl, rfl, rfl⟩ := o1.form
  obtain ⟨a2, c2, b2, d2, e2, f2, rfl, rfl, rfl⟩ := o2.form
  have hcl := hC.2
  have hrl := hR.2
  have hcl' := hC'.2
  have hrl' := hR'.2
  by_cases hne : C.length = C'.length
  case neg =>
    have e0 : (eqLs eqCq C C' && eqT K L && eqLs eqWq R R') = false := by rw [eqLs_len hne]; rfl
    rw [e0]
    obtain ⟨t1, t2⟩ := ne_facts hne
    clear hne e0
    go_enter Try.func31, Try.ntmps31
    go_wp2
    go_ret
    exact ⟨rfl, (below_new2 (w := w) (o := .cells #[.slice a1 C.length c1, .slice b1 K.length d1, .slice e1 R.length f1] 51) (o' := .cells #[.slice a2 C'.length c2, .slice b2 L.length d2, .slice e2 R'.length f2] 51))⟩
  by_cases hnr : R.length = R'.length
  case neg =>
    have e0 : (eqLs eqCq C C' && eqT K L && eqLs eqWq R R') = false := by rw [eqLs_len hnr, Bool.and_false]
    rw [e0, ← hne]
    obtain ⟨t1, t2⟩ := ne_facts hnr
    clear hne hnr e0
    go_enter Try.func31, Try.ntmps31
    go_wp2
    go_ret
    exact ⟨rfl, (below_new2 (w := w) (o := .cells #[.slice a1 C.length c1, .slice b1 K.length d1, .slice e1 R.length f1] 51) (o' := .cells #[.slice a2 C.length c2, .slice b2 L.length d2, .slice e2 R'.length f2] 51))⟩
  have HN := hid hne
  have HNR := hid hnr
  rw [← hne, ← hnr] at o2 ⊢
  clear hne hnr
  have B := hid (below_new2 (w := w) (o := .cells #[.slice a1 C.length c1, .slice b1 K.length d1, .slice e1 R.length f1] 51) (o' := .cells #[.slice a2 C.length c2, .slice b2 L.length d2, .slice e2 R.length f2] 51))
  have L1 := hid ((LocA.at (T := 51) (w := w) (b := w.heap.size) (cs := #[.slice a1 C.length c1, .slice b1 K.length d1, .slice e1 R.length f1]) rfl).new1 (o := .cells #[.slice a2 C.length c2, .slice b2 L.length d2, .slice e2 R.length f2] 51))
  have L2 := hid (LocA.at (T := 51) (w := w.alloc (.cells #[.slice a1 C.length c1, .slice b1 K.length d1, .slice e1 R.length f1] 51)) (b := w.heap.size + 1) (cs := #[.slice a2 C.length c2, .slice b2 L.length d2, .slice e2 R.length f2]) (by simp))
  have H1 := hid (o1.old B.out)
  have H2 := hid (o2.old B.out)
  clear o1 o2
  have KT := hid (fun (W : World) (g1 : MdW W (.slice a1 C.length c1) (.slice b1 K.length d1) (.slice e1 R.length f1) C K R) (g2 : MdW W (.slice a2 C.length c2) (.slice b2 L.length d2) (.slice e2 R.length f2) C' L R') => spec_TermsEqual_md hK hL W g1.t g2.t)
  obtain ⟨BC, hBC⟩ : ∃ B, B = eqLs eqCq C C' := ⟨_, rfl⟩
  obtain ⟨BR, hBR⟩ : ∃ B, B = eqLs eqWq R R' := ⟨_, rfl⟩
  rw [← hBC, ← hBR]
  have HBC := hid hBC
  have HBR := hid hBR
  clear hBC hBR
  generalize eqT K L = B2 at KT ⊢
  generalize hW : (w.alloc (.cells #[.slice a1 C.length c1, .slice b1 K.length d1, .slice e1 R.length f1] 51)).alloc (.cells #[.slice a2 C.length c2, .slice b2 L.length d2, .slice e2 R.length f2] 51) = W0 at B L1 L2 H1 H2
  have HW := hid hW
  clear hW
  cases B2 with
  | false =>
    rw [Bool.and_false, Bool.false_and]
    go_enter Try.func31, Try.ntmps31
    go_wp2_with fail
    rw [HW.out]
    (with_reducible refine (KT.out _ H1.out H2.out).mono ?_)
    rintro e w1 ⟨rfl, g1⟩
    have B := hid (B.out.trans (g1.mono B.out.size))
    clear g1
    go_wp2
    go_ret
    exact ⟨rfl, B.out⟩
  | true =>
  rw [Bool.and_true]
  go_enter Try.func31, Try.ntmps31
  go_wp2_with fail
  rw [HW.out]
  (with_reducible refine (KT.out _ H1.out H2.out).mono ?_)
  rintro e w1 ⟨rfl, g1⟩
  have H1 := hid (H1.out.old g1)
  have H2 := hid (H2.out.old g1)
  have L1 := hid (L1.out.old g1)
  have L2 := hid (L2.out.old g1)
  have B := hid (B.out.trans (g1.mono B.out.size))
  clear g1
  have q0 := L1.out.c 0 rfl
  go_wp2
  clear q0
  go_loopw [37] (fun i wr => ∃ k : Nat, k ≤ C.length ∧ i = .int .i64 k ∧ Hid (∀ j (h : j < C.length) (h' : j < C'.length), j < k → eqCq C[j] C'[j] = true) ∧ Below w1.heap.size w1 wr) (fun i _ => C.length - (intOf i).toNat)
  case atStart => exact ⟨0, Nat.zero_le _, rfl, hid (fun j h h' hj => absurd hj (by omega)), Below.refl _ _⟩
  case round =>
    obtain ⟨k, hk, rfl, hA, hbel⟩ := hrel
    by_cases hlt : k < C.length
    · have hlt2 : k < C'.length := by rw [← HN.out]; exact hlt
      have p0 := (L2.out.old hbel).c 0 rfl
      have HB := hid (B.out.trans (hbel.mono B.out.size))
      have L2r := hid (L2.out.old hbel)
      have hl2 := L2r.out.lt
      obtain ⟨g1, o1, v1, u1, x1, y1, rfl, hg1, q0, q1, q2, q3, q4, q5, q6, q7, R1⟩ := (H1.out.old hbel).c.at hlt
      obtain ⟨g2, o2, v2, u2, x2, y2, rfl, hg2, q8, q9, q10, q11, q12, q13, q14, q15, R2⟩ := (H2.out.old hbel).c.at hlt2
      have hs1 := hC.1 _ (List.getElem_mem hlt)
      have hs2 := hC'.1 _ (List.getElem_mem hlt2)
      have HX := hid (fun e => eqLs_no (f := eqCq) hlt hlt2 e)
      have HY := hid (fun (e : eqCq C[k] C'[k] = true) j (h : j < C.length) (h' : j < C'.length) (hj : j < k + 1) => (show eqCq C[j] C'[j] = true from by
          rcases Nat.lt_or_eq_of_le (Nat.le_of_lt_succ hj) with hj' | rfl
          · exact hA.out j h h' hj'
          · exact e))
      generalize C[k] = p1 at q0 q1 q2 q3 q4 q5 q6 q7 R1 hs1 HX HY
      generalize C'[k] = p2 at q8 q9 q10 q11 q12 q13 q14 q15 R2 hs2 HX HY
      obtain ⟨n1, s1, A1, D1, z1, F1, G1, b1⟩ := p1
      obtain ⟨n2, s2, A2, D2, z2, F2, G2, b2⟩ := p2
      simp only at q0 q1 q2 q3 q4 q5 q6 q7 q8 q9 q10 q11 q12 q13 q14 q15 hs1 hs2 R1 R2
      obtain ⟨a3, c3, k3, d3, e3, f3, i3, j3, rfl, rfl, rfl, rfl⟩ := R1.form
      obtain ⟨a4, c4, k4, d4, e4, f4, i4, j4, rfl, rfl, rfl, rfl⟩ := R2.form
      have KL := hid (fun (W : World) (hb : Below wr.heap.size wr W) => spec_RatEqual s1 s2 _ _ _ _ A1 D1 A2 D2 W ((R1.old hb).rll hs1.1 hs1.2.1) ((R2.old hb).rll hs2.1 hs2.2.1))
      have KH := hid (fun (W : World) (hb : Below wr.heap.size wr W) => spec_RatEqual z1 z2 _ _ _ _ F1 G1 F2 G2 W ((R1.old hb).rlh hs1.2.2.1 hs1.2.2.2) ((R2.old hb).rlh hs2.2.2.1 hs2.2.2.2))
      have HE := hid (show eqCq ⟨n1, s1, A1, D1, z1, F1, G1, b1⟩ ⟨n2, s2, A2, D2, z2, F2, G2, b2⟩ = (decide (n1 = n2) && ((s1 == s2) && decide (A1 = A2) && decide (D1 = D2)) && ((z1 == z2) && decide (F1 = F2) && decide (G1 = G2)) && (b1 == b2)) from rfl)
      generalize eqCq ⟨n1, s1, A1, D1, z1, F1, G1, b1⟩ ⟨n2, s2, A2, D2, z2, F2, G2, b2⟩ = RR at HE HX HY
      generalize hq1 : ((s1 == s2) && decide (A1 = A2) && decide (D1 = D2)) = t1 at KL HE
      generalize hq2 : ((z1 == z2) && decide (F1 = F2) && decide (G1 = G2)) = t2 at KH HE
      have BZ := hid (show Below wr.heap.size wr ((wr.alloc (.cells #[.string n1, .bool s1, .slice a3 A1.length c3, .slice k3 D1.length d3, .bool z1, .slice e3 F1.length f3, .slice i3 G1.length j3, .bool b1] 35)).alloc (.cells #[.string n2, .bool s2, .slice a4 A2.length c4, .slice k4 D2.length d4, .bool z2, .slice e4 F2.length f4, .slice i4 G2.length j4, .bool b2] 35)) from ((Below.refl _ _).alloc (Nat.le_refl _) _).alloc (by simp) _)
      have L3 := hid ((LocA.at (T := 35) (w := wr) (b := wr.heap.size) (cs := #[.string n1, .bool s1, .slice a3 A1.length c3, .slice k3 D1.length d3, .bool z1, .slice e3 F1.length f3, .slice i3 G1.length j3, .bool b1]) rfl).new1 (o := .cells #[.string n2, .bool s2, .slice a4 A2.length c4, .slice k4 D2.length d4, .bool z2, .slice e4 F2.length f4, .slice i4 G2.length j4, .bool b2] 35))
      have L4 := hid (LocA.at (T := 35) (w := wr.alloc (.cells #[.string n1, .bool s1, .slice a3 A1.length c3, .slice k3 D1.length d3, .bool z1, .slice e3 F1.length f3, .slice i3 G1.length j3, .bool b1] 35)) (b := wr.heap.size + 1) (cs := #[.string n2, .bool s2, .slice a4 A2.length c4, .slice k4 D2.length d4, .bool z2, .slice e4 F2.length f4, .slice i4 G2.length j4, .bool b2]) (by simp))
      have a1' : (0 : Int) ≤ k := by omega
      have a2' : (k : Int) < C.length := by omega
      have hbw := hid hbel
      clear hs1 hs2 R1 R2 hq1 hq2 hbel
      have HZ := hid (HB.out.trans (BZ.out.mono HB.out.size))
      generalize hW0 : (wr.alloc (.cells #[.string n1, .bool s1, .slice a3 A1.length c3, .slice k3 D1.length d3, .bool z1, .slice e3 F1.length f3, .slice i3 G1.length j3, .bool b1] 35)).alloc (.cells #[.string n2, .bool s2, .slice a4 A2.length c4, .slice k4 D2.length d4, .bool z2, .slice e4 F2.length f4, .slice i4 G2.length j4, .bool b2] 35) = W3 at BZ L3 L4 HZ
      have HW3 := hid hW0
      clear hW0
      by_cases hn : n1 = n2
      case neg =>
        have hR : RR = false := by rw [HE.out]; rw [decide_eq_false hn]; rfl
        have hX := hid (HX.out hR)
        have hx : (n1.toList == n2.toList) = false := beq_eq_false_iff_ne.2 (bytes_ne hn)
        go_wp2
        rw [HW3.out]
        go_ret
        exact ⟨bool_retK (by rw [HBC.out, hX.out, Bool.false_and]), HZ.out⟩
      subst hn
      by_cases hb : b1 = b2
      case neg =>
        have hR : RR = false := by rw [HE.out]; rw [show (b1 == b2) = false from beq_eq_false_iff_ne.2 hb, Bool.and_false]
        have hX := hid (HX.out hR)
        have hx : (b1 == b2) = false := beq_eq_false_iff_ne.2 hb
        have hx2 : (b1 != b2) = true := bne_iff_ne.2 hb
        go_wp2
        rw [HW3.out]
        go_ret
        exact ⟨bool_retK (by rw [HBC.out, hX.out, Bool.false_and]), HZ.out⟩
      subst hb
      cases t1 with
      | false =>
        have hR : RR = false := by rw [HE.out]; rw [Bool.and_false, Bool.false_and, Bool.false_and]
        have hX := hid (HX.out hR)
        go_wp2_with fail
        rw [HW3.out]
        (with_reducible refine (KL.out _ BZ.out).mono ?_)
        rintro e w4 ⟨rfl, g1⟩
        have HZ := hid (HZ.out.trans (g1.mono HZ.out.size))
        have BZ := hid (BZ.out.trans (g1.mono BZ.out.size))
        have L3 := hid (L3.out.old g1)
        have L4 := hid (L4.out.old g1)
        clear g1
        go_wp2
        go_ret
        exact ⟨bool_retK (by rw [HBC.out, hX.out, Bool.false_and]), HZ.out⟩
      | true =>
        have q20 := L3.out.c 2 rfl
        clear q20
        cases t2 with
        | false =>
          have hR : RR = false := by rw [HE.out]; rw [Bool.and_false, Bool.false_and]
          have hX := hid (HX.out hR)
          go_wp2_with fail
          rw [HW3.out]
          (with_reducible refine (KL.out _ BZ.out).mono ?_)
          rintro e w4 ⟨rfl, g1⟩
          have HZ := hid (HZ.out.trans (g1.mono HZ.out.size))
          have BZ := hid (BZ.out.trans (g1.mono BZ.out.size))
          have L3 := hid (L3.out.old g1)
          have L4 := hid (L4.out.old g1)
          clear g1
          have r4 := L3.out.c 4 rfl
          have t4 := L4.out.c 4 rfl
          have r5 := L3.out.c 5 rfl
          have t5 := L4.out.c 5 rfl
          have r6 := L3.out.c 6 rfl
          have t6 := L4.out.c 6 rfl
          go_wp2_with fail
          (with_reducible refine (KH.out _ BZ.out).mono ?_)
          rintro e w5 ⟨rfl, g1⟩
          have HZ := hid (HZ.out.trans (g1.mono HZ.out.size))
          have BZ := hid (BZ.out.trans (g1.mono BZ.out.size))
          have L3 := hid (L3.out.old g1)
          have L4 := hid (L4.out.old g1)
          clear g1
          go_wp2
          go_ret
          exact ⟨bool_retK (by rw [HBC.out, hX.out, Bool.false_and]), HZ.out⟩
        | true =>
          have hR : RR = true := by rw [HE.out, decide_eq_true rfl]; simp
          have hY := hid (HY.out hR)
          go_wp2_with fail
          rw [HW3.out]
          (with_reducible refine (KL.out _ BZ.out).mono ?_)
          rintro e w4 ⟨rfl, g1⟩
          have HZ := hid (HZ.out.trans (g1.mono HZ.out.size))
          have BZ := hid (BZ.out.trans (g1.mono BZ.out.size))
          have L3 := hid (L3.out.old g1)
          have L4 := hid (L4.out.old g1)
          clear g1
          have r4 := L3.out.c 4 rfl
          have t4 := L4.out.c 4 rfl
          have r5 := L3.out.c 5 rfl
          have t5 := L4.out.c 5 rfl
          have r6 := L3.out.c 6 rfl
          have t6 := L4.out.c 6 rfl
          go_wp2_with fail
          (with_reducible refine (KH.out _ BZ.out).mono ?_)
          rintro e w5 ⟨rfl, g1⟩
          have HZ := hid (HZ.out.trans (g1.mono HZ.out.size))
          have BZ := hid (BZ.out.trans (g1.mono BZ.out.size))
          have L3 := hid (L3.out.old g1)
          have L4 := hid (L4.out.old g1)
          clear g1
          clear q0 q1 q2 q3 q4 q5 q6 q7 q8 q9 q10 q11 q12 q13 q14 q15 p0 r4 r5 r6 t4 t5 t6
          have BW := (show Below w1.heap.size w1 w5 from hbw.out.trans (BZ.out.mono hbw.out.size))
          go_wp2
          go_roundw
          case rel => exact ⟨k + 1, by omega, by go_num, hY, BW⟩
          case measure => simp [intOf]; omega
    · obtain rfl : k = C.length := by omega
      have hbw := hid hbel
      have hBC : BC = true := by rw [HBC.out, eqLs_yes HN.out (fun j h h' => hA.out j h h' (by omega))]
      subst hBC
      rw [Bool.true_and]
      have B := hid (B.out.trans (hbel.mono B.out.size))
      have H1 := hid (H1.out.old hbel)
      have H2 := hid (H2.out.old hbel)
      have L1 := hid (L1.out.old hbel)
      have L2 := hid (L2.out.old hbel)
      have q0 := L1.out.c 2 rfl
      clear hbel
      go_wp2
      clear q0
      obtain ⟨wo, rfl⟩ : ∃ wo, wo = wr := ⟨_, rfl⟩
      go_loopw [79] (fun i wr => ∃ k : Nat, k ≤ R.length ∧ i = .int .i64 k ∧ Hid (∀ j (h : j < R.length) (h' : j < R'.length), j < k → eqWq R[j] R'[j] = true) ∧ Below wo.heap.size wo wr) (fun i _ => R.length - (intOf i).toNat)
      case atStart => exact ⟨0, Nat.zero_le _, rfl, hid (fun j h h' hj => absurd hj (by omega)), Below.refl _ _⟩
      case round =>
        obtain ⟨k, hk, rfl, hA, hbel⟩ := hrel
        by_cases hlt : k < R.length
        · have hlt2 : k < R'.length := by rw [← HNR.out]; exact hlt
          have HB := hid (B.out.trans (hbel.mono B.out.size))
          have L2r := hid (L2.out.old hbel)
          obtain ⟨g1, o1, t1, v1, u1, rfl, hg1, q0, q1, q2, q3, q4, R1⟩ := (H1.out.old hbel).r.at hlt
          obtain ⟨g2, o2, t2, v2, u2, rfl, hg2, q5, q6, q7, q8, q9, R2⟩ := (H2.out.old hbel).r.at hlt2
          have hs1 := hR.1 _ (List.getElem_mem hlt)
          have hs2 := hR'.1 _ (List.getElem_mem hlt2)
          have HX := hid (fun e => eqLs_no (f := eqWq) hlt hlt2 e)
          have HY := hid (fun (e : eqWq R[k] R'[k] = true) j (h : j < R.length) (h' : j < R'.length) (hj : j < k + 1) => (show eqWq R[j] R'[j] = true from by
              rcases Nat.lt_or_eq_of_le (Nat.le_of_lt_succ hj) with hj' | rfl
              · exact hA.out j h h' hj'
              · exact e))
          generalize R[k] = p1 at q0 q1 q2 q3 q4 R1 hs1 HX HY
          generalize R'[k] = p2 at q5 q6 q7 q8 q9 R2 hs2 HX HY
          obtain ⟨K1, x1, s1, A1, D1⟩ := p1
          obtain ⟨K2, x2, s2, A2, D2⟩ := p2
          simp only at q0 q1 q2 q3 q4 q5 q6 q7 q8 q9 hs1 hs2 R1 R2
          obtain ⟨a3, c3, b3, d3, e3, f3, rfl, rfl, rfl⟩ := R1.form
          obtain ⟨a4, c4, b4, d4, e4, f4, rfl, rfl, rfl⟩ := R2.form
          have KE := hid (fun (W : World) (hb : Below wr.heap.size wr W) => show Calls Try.prog 66 _ W (RetB (.bool (eqWq ⟨K1, x1, s1, A1, D1⟩ ⟨K2, x2, s2, A2, D2⟩)) W) from spec_RowEqual x1 x2 s1 s2 hs1.1 hs2.1 hs1.2.1 hs1.2.2 hs2.2.1 hs2.2.2 W (R1.old hb) (R2.old hb))
          obtain ⟨RR, hRR⟩ : ∃ RR, eqWq ⟨K1, x1, s1, A1, D1⟩ ⟨K2, x2, s2, A2, D2⟩ = RR := ⟨_, rfl⟩
          rw [hRR] at HX HY
          simp only [hRR] at KE
          have a1' : (0 : Int) ≤ k := by omega
          have a2' : (k : Int) < R.length := by omega
          have HBZ := hid (HB.out.alloc HB.out.size (.cells #[.slice a3 K1.length c3, .int .i64 x1, .bool s1, .slice b3 A1.length d3, .slice e3 D1.length f3] 91))
          have HWB := hid (hbel.alloc hbel.size (.cells #[.slice a3 K1.length c3, .int .i64 x1, .bool s1, .slice b3 A1.length d3, .slice e3 D1.length f3] 91))
          have L3 := hid (LocA.new (w := wr) (T := 91) (cs := #[.slice a3 K1.length c3, .int .i64 x1, .bool s1, .slice b3 A1.length d3, .slice e3 D1.length f3]))
          have L2z := hid (L2r.out.old (below_new' (o := .cells #[.slice a3 K1.length c3, .int .i64 x1, .bool s1, .slice b3 A1.length d3, .slice e3 D1.length f3] 91)))
          clear hs1 hs2 R1 R2 hRR hbel
          cases RR with
          | false =>
            have hX := hid (HX.out rfl)
            have y0 := L3.out.c 0 rfl
            have y1 := L3.out.c 1 rfl
            have y2 := L3.out.c 2 rfl
            have y3 := L3.out.c 3 rfl
            have y4 := L3.out.c 4 rfl
            have y5 := L2z.out.c 2 rfl
            have y6 := ((below_new' (o := .cells #[.slice a3 K1.length c3, .int .i64 x1, .bool s1, .slice b3 A1.length d3, .slice e3 D1.length f3] 91)).cell (p := ⟨g2, o2 + k * 5, none⟩) hg2).trans q5
            have y7 := ((below_new' (o := .cells #[.slice a3 K1.length c3, .int .i64 x1, .bool s1, .slice b3 A1.length d3, .slice e3 D1.length f3] 91)).cell (p := ⟨g2, o2 + k * 5 + 1, none⟩) hg2).trans q6
            have y8 := ((below_new' (o := .cells #[.slice a3 K1.length c3, .int .i64 x1, .bool s1, .slice b3 A1.length d3, .slice e3 D1.length f3] 91)).cell (p := ⟨g2, o2 + k * 5 + 2, none⟩) hg2).trans q7
            have y9 := ((below_new' (o := .cells #[.slice a3 K1.length c3, .int .i64 x1, .bool s1, .slice b3 A1.length d3, .slice e3 D1.length f3] 91)).cell (p := ⟨g2, o2 + k * 5 + 3, none⟩) hg2).trans q8
            have y10 := ((below_new' (o := .cells #[.slice a3 K1.length c3, .int .i64 x1, .bool s1, .slice b3 A1.length d3, .slice e3 D1.length f3] 91)).cell (p := ⟨g2, o2 + k * 5 + 4, none⟩) hg2).trans q9
            go_wp2_with fail
            go_region_held3 (fun w' => w'.cell? ⟨wr.heap.size, 0, none⟩ = some (.slice a3 K1.length c3) ∧ w'.cell? ⟨wr.heap.size, 1, none⟩ = some (.int .i64 x1) ∧ w'.cell? ⟨wr.heap.size, 2, none⟩ = some (.bool s1) ∧ w'.cell? ⟨wr.heap.size, 3, none⟩ = some (.slice b3 A1.length d3) ∧ w'.cell? ⟨wr.heap.size, 4, none⟩ = some (.slice e3 D1.length f3) ∧ w'.cell? ⟨w.heap.size + 1, 2, none⟩ = some (.slice (some ⟨g2, o2, none⟩) R.length f2) ∧ w'.cell? ⟨g2, o2 + k * 5, none⟩ = some (.slice a4 K2.length c4) ∧ w'.cell? ⟨g2, o2 + k * 5 + 1, none⟩ = some (.int .i64 x2) ∧ w'.cell? ⟨g2, o2 + k * 5 + 2, none⟩ = some (.bool s2) ∧ w'.cell? ⟨g2, o2 + k * 5 + 3, none⟩ = some (.slice b4 A2.length d4) ∧ w'.cell? ⟨g2, o2 + k * 5 + 4, none⟩ = some (.slice e4 D2.length f4)) (first | exact ⟨y0, y1, y2, y3, y4, y5, y6, y7, y8, y9, y10⟩ | go_keep)
              (first | (go_at_call 66; (with_reducible refine (KE.out _ (Below_drew1 below_new')).mono ?_); rintro e w5 ⟨rfl, hb⟩; have HBZ := hid ((Below_drew1 HBZ.out).trans (hb.mono HBZ.out.size)); have HWB := hid ((Below_drew1 HWB.out).trans (hb.mono HWB.out.size)); have y0 := (hb.cell (p := ⟨wr.heap.size, 0, none⟩) (by simp)).trans y0; have y1 := (hb.cell (p := ⟨wr.heap.size, 1, none⟩) (by simp)).trans y1; have y2 := (hb.cell (p := ⟨wr.heap.size, 2, none⟩) (by simp)).trans y2; have y3 := (hb.cell (p := ⟨wr.heap.size, 3, none⟩) (by simp)).trans y3; have y4 := (hb.cell (p := ⟨wr.heap.size, 4, none⟩) (by simp)).trans y4; have y5 := (hb.cell (p := ⟨w.heap.size + 1, 2, none⟩) (L2z.out.lt)).trans y5; have y6 := (hb.cell (p := ⟨g2, o2 + k * 5, none⟩) (by simp; omega)).trans y6; have y7 := (hb.cell (p := ⟨g2, o2 + k * 5 + 1, none⟩) (by simp; omega)).trans y7; have y8 := (hb.cell (p := ⟨g2, o2 + k * 5 + 2, none⟩) (by simp; omega)).trans y8; have y9 := (hb.cell (p := ⟨g2, o2 + k * 5 + 3, none⟩) (by simp; omega)).trans y9; have y10 := (hb.cell (p := ⟨g2, o2 + k * 5 + 4, none⟩) (by simp; omega)).trans y10; clear hb))
            clear y0 y1 y2 y3 y4 y5 y6 y7 y8 y9 y10 q0 q1 q2 q3 q4 q5 q6 q7 q8 q9
            go_wp2
            go_ret
            exact ⟨bool_retK (by rw [HBR.out, hX.out]; rfl), HBZ.out⟩
          | true =>
            have hY := hid (HY.out rfl)
            have y0 := L3.out.c 0 rfl
            have y1 := L3.out.c 1 rfl
            have y2 := L3.out.c 2 rfl
            have y3 := L3.out.c 3 rfl
            have y4 := L3.out.c 4 rfl
            have y5 := L2z.out.c 2 rfl
            have y6 := ((below_new' (o := .cells #[.slice a3 K1.length c3, .int .i64 x1, .bool s1, .slice b3 A1.length d3, .slice e3 D1.length f3] 91)).cell (p := ⟨g2, o2 + k * 5, none⟩) hg2).trans q5
            have y7 := ((below_new' (o := .cells #[.slice a3 K1.length c3, .int .i64 x1, .bool s1, .slice b3 A1.length d3, .slice e3 D1.length f3] 91)).cell (p := ⟨g2, o2 + k * 5 + 1, none⟩) hg2).trans q6
            have y8 := ((below_new' (o := .cells #[.slice a3 K1.length c3, .int .i64 x1, .bool s1, .slice b3 A1.length d3, .slice e3 D1.length f3] 91)).cell (p := ⟨g2, o2 + k * 5 + 2, none⟩) hg2).trans q7
            have y9 := ((below_new' (o := .cells #[.slice a3 K1.length c3, .int .i64 x1, .bool s1, .slice b3 A1.length d3, .slice e3 D1.length f3] 91)).cell (p := ⟨g2, o2 + k * 5 + 3, none⟩) hg2).trans q8
            have y10 := ((below_new' (o := .cells #[.slice a3 K1.length c3, .int .i64 x1, .bool s1, .slice b3 A1.length d3, .slice e3 D1.length f3] 91)).cell (p := ⟨g2, o2 + k * 5 + 4, none⟩) hg2).trans q9
            go_wp2_with fail
            go_region_held3 (fun w' => w'.cell? ⟨wr.heap.size, 0, none⟩ = some (.slice a3 K1.length c3) ∧ w'.cell? ⟨wr.heap.size, 1, none⟩ = some (.int .i64 x1) ∧ w'.cell? ⟨wr.heap.size, 2, none⟩ = some (.bool s1) ∧ w'.cell? ⟨wr.heap.size, 3, none⟩ = some (.slice b3 A1.length d3) ∧ w'.cell? ⟨wr.heap.size, 4, none⟩ = some (.slice e3 D1.length f3) ∧ w'.cell? ⟨w.heap.size + 1, 2, none⟩ = some (.slice (some ⟨g2, o2, none⟩) R.length f2) ∧ w'.cell? ⟨g2, o2 + k * 5, none⟩ = some (.slice a4 K2.length c4) ∧ w'.cell? ⟨g2, o2 + k * 5 + 1, none⟩ = some (.int .i64 x2) ∧ w'.cell? ⟨g2, o2 + k * 5 + 2, none⟩ = some (.bool s2) ∧ w'.cell? ⟨g2, o2 + k * 5 + 3, none⟩ = some (.slice b4 A2.length d4) ∧ w'.cell? ⟨g2, o2 + k * 5 + 4, none⟩ = some (.slice e4 D2.length f4)) (first | exact ⟨y0, y1, y2, y3, y4, y5, y6, y7, y8, y9, y10⟩ | go_keep)
              (first | (go_at_call 66; (with_reducible refine (KE.out _ (Below_drew1 below_new')).mono ?_); rintro e w5 ⟨rfl, hb⟩; have HBZ := hid ((Below_drew1 HBZ.out).trans (hb.mono HBZ.out.size)); have HWB := hid ((Below_drew1 HWB.out).trans (hb.mono HWB.out.size)); have y0 := (hb.cell (p := ⟨wr.heap.size, 0, none⟩) (by simp)).trans y0; have y1 := (hb.cell (p := ⟨wr.heap.size, 1, none⟩) (by simp)).trans y1; have y2 := (hb.cell (p := ⟨wr.heap.size, 2, none⟩) (by simp)).trans y2; have y3 := (hb.cell (p := ⟨wr.heap.size, 3, none⟩) (by simp)).trans y3; have y4 := (hb.cell (p := ⟨wr.heap.size, 4, none⟩) (by simp)).trans y4; have y5 := (hb.cell (p := ⟨w.heap.size + 1, 2, none⟩) (L2z.out.lt)).trans y5; have y6 := (hb.cell (p := ⟨g2, o2 + k * 5, none⟩) (by simp; omega)).trans y6; have y7 := (hb.cell (p := ⟨g2, o2 + k * 5 + 1, none⟩) (by simp; omega)).trans y7; have y8 := (hb.cell (p := ⟨g2, o2 + k * 5 + 2, none⟩) (by simp; omega)).trans y8; have y9 := (hb.cell (p := ⟨g2, o2 + k * 5 + 3, none⟩) (by simp; omega)).trans y9; have y10 := (hb.cell (p := ⟨g2, o2 + k * 5 + 4, none⟩) (by simp; omega)).trans y10; clear hb))
            clear y0 y1 y2 y3 y4 y5 y6 y7 y8 y9 y10 q0 q1 q2 q3 q4 q5 q6 q7 q8 q9
            go_wp2
            go_roundw
            case rel => exact ⟨k + 1, by omega, by go_num, hY, HWB.out⟩
            case measure => simp [intOf]; omega
        · have HB := hid (B.out.trans (hbel.mono B.out.size))
          have hBR : BR = true := by rw [HBR.out, eqLs_yes HNR.out (fun j h h' => hA.out j h h' (by omega))]
          subst hBR
          clear hbel
          go_wp2
          go_ret
          exact ⟨rfl, HB.out⟩
end Go.Proofs.Yteanocjkdehhgaa
