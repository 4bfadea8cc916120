/- Rows: the slack, both sides. -/
import Derived.Test.YthkehmnodcmlcaaGreatRwb
import Derived.Test.YthkehmnodcmlcaaGreatTva
import Derived.Deep.RegionLaw
import Derived.Deep.RegionHeld3
import Derived.Deep.DeepCutAuto
namespace Go.Proofs.YthkehmnodcmlcaaGreat
open Go.RowKit
open Go.Lib (hid)
set_option linter.unusedVariables false
set_option linter.unusedSimpArgs false

/-- What RowSlack answers. -/
def slackO (T0 : List Tq) (x : Int) (s : Bool) (A D : List Int) (V : List Fq) : Option Rat := if rowOk T0 x s A D V.length = true then (if x = 1 then bq subF (rval s A D) (valT T0 V) else bq subF (valT T0 V) (rval s A D)) else none
theorem slackO_fit (T0 : List Tq) (x : Int) (s : Bool) (A D : List Int) (V : List Fq) : fitO (slackO T0 x s A D V) := by
  unfold slackO
  split
  · split <;> exact fitO_bq fitO_sub _ _
  · exact fitO_none
set_option maxRecDepth 100000 in
set_option maxHeartbeats 12800000 in
theorem impl_RowSlack {t v u : Value} {T0 : List Tq} {A D : List Int} {b : Option Addr} {n c : Nat} {V : List Fq} {p : Bool} {lo hi : Nat} (x : Int) (s : Bool) (hK : SmT T0) (hL : Sm V) (la : A.length ≤ 1048576) (ld : D.length ≤ 1048576) (w : World) (h : RwW w t v u T0 A D) (h' : VK p w (.slice b n c) V lo hi) :
    Calls Tryz.prog 22 #[.agg #[t, .int .i64 x, .bool s, v, u], .slice b n c] w (RatO true (slackO T0 x s A D V) w) := by
  obtain ⟨a1, c1, b1, d1, e1, f1, rfl, rfl, rfl⟩ := h.form
  obtain rfl := h'.num
  have hlen := hL.2
  have B := hid (below_new2 (w := w) (o := .cells #[.slice a1 T0.length c1, .int .i64 x, .bool s, .slice b1 A.length d1, .slice e1 D.length f1] 39) (o' := .cells #[.bool false, .slice none 0 0, .slice none 0 0] 37))
  have LX := hid ((LocA.at (T := 39) (w := w) (b := w.heap.size) (cs := #[.slice a1 T0.length c1, .int .i64 x, .bool s, .slice b1 A.length d1, .slice e1 D.length f1]) rfl).new1 (o := .cells #[.bool false, .slice none 0 0, .slice none 0 0] 37))
  have LR := hid (LocA.at (T := 37) (w := w.alloc (.cells #[.slice a1 T0.length c1, .int .i64 x, .bool s, .slice b1 A.length d1, .slice e1 D.length f1] 39)) (b := w.heap.size + 1) (cs := #[.bool false, .slice none 0 0, .slice none 0 0]) (by simp))
  have H := hid (h.old B.out)
  have HV := hid (h'.old B.out)
  clear h h'
  have KO := hid (fun (W : World) (g : RwW W (.slice a1 T0.length c1) (.slice b1 A.length d1) (.slice e1 D.length f1) T0 A D) => impl_RowOk x s hK la ld (V.length : Int) (by omega) (by omega) W g)
  have KT := hid (fun (W : World) (g : RwW W (.slice a1 T0.length c1) (.slice b1 A.length d1) (.slice e1 D.length f1) T0 A D) (g' : VK p W (.slice b V.length c) V lo hi) => show Calls Tryz.prog 65 #[.slice a1 T0.length c1, .slice b V.length c] W (RatO true (valT T0 V) W) from by
    obtain ⟨⟨_, _, _, y⟩, -⟩ := g
    exact impl_TermsValue hK hL W y g')
  obtain ⟨R, hR⟩ : ∃ R, R = slackO T0 x s A D V := ⟨_, rfl⟩
  rw [← hR]
  have HR := hid hR
  clear hR
  generalize hW : (w.alloc (.cells #[.slice a1 T0.length c1, .int .i64 x, .bool s, .slice b1 A.length d1, .slice e1 D.length f1] 39)).alloc (.cells #[.bool false, .slice none 0 0, .slice none 0 0] 37) = W0 at B LX LR H HV
  have HW := hid hW
  clear hW
  cases ho : rowOk T0 x s A D V.length with
  | false =>
    have HN := hid (show R = none by rw [HR.out, slackO, ho]; rfl)
    rw [HN.out]
    rw [ho] at KO
    go_enter Tryz.func22, Tryz.ntmps22
    go_wp2_with fail
    rw [HW.out]
    (with_reducible refine (KO.out _ H.out).mono ?_)
    rintro e w1 ⟨rfl, b1⟩
    have H := hid (H.out.old b1)
    have HV := hid (HV.out.old b1)
    have LX := hid (LX.out.old b1)
    have LR := hid (LR.out.old b1)
    have B := hid (B.out.trans (b1.mono B.out.size))
    clear b1
    have f0 := LR.out.f 0
    have f1 := LR.out.f 1
    have f2 := LR.out.f 2
    have p0 := LR.out.c 0 rfl
    have p1 := LR.out.c 1 rfl
    have p2 := LR.out.c 2 rfl
    have RR := hid (RO.out (p := true) (o := none) (w := w) (N := w.heap.size + 1) (RO_none (lo := w.heap.size)) (Nat.le_refl _) (Nat.le_succ _) LR.out (by decide) B.out)
    go_wp2
    exact bodyPost_ret (v := .agg #[.bool false, .slice none 0 0, .slice none 0 0]) (by simp [results, Tryz.results22, go_sem, p0, p1, p2]) rfl RR.out
  | true =>
    rw [ho] at KO
    by_cases hx : x = 1
    · have HS := hid (show bq subF (rval s A D) (valT T0 V) = R by rw [HR.out, slackO, if_pos ho, if_pos hx])
      subst hx
      go_enter Tryz.func22, Tryz.ntmps22
      go_wp2_with fail
      rw [HW.out]
      (with_reducible refine (KO.out _ H.out).mono ?_)
      rintro e w1 ⟨rfl, b1⟩
      have H := hid (H.out.old b1)
      have HV := hid (HV.out.old b1)
      have LX := hid (LX.out.old b1)
      have LR := hid (LR.out.old b1)
      have B := hid (B.out.trans (b1.mono B.out.size))
      clear b1
      have q0 := LX.out.c 0 (v := .slice a1 T0.length c1) rfl
      have q1 := LX.out.c 1 (v := .int .i64 1) rfl
      have q2 := LX.out.c 2 (v := .bool s) rfl
      have q3 := LX.out.c 3 (v := .slice b1 A.length d1) rfl
      have q4 := LX.out.c 4 (v := .slice e1 D.length f1) rfl
      go_wp2_with fail
      (with_reducible refine (KT.out _ H.out HV.out).mono ?_)
      clear q0 q1 q2 q3 q4
      rintro e w2 ⟨sa, aa, na, ca, ba, ma, da, rfl, ro, b1⟩
      have H := hid (H.out.old b1)
      have HV := hid (HV.out.old b1)
      have LX := hid (LX.out.old b1)
      have LR := hid (LR.out.old b1)
      have B := hid (B.out.trans (b1.mono B.out.size))
      have RX := hid ro.ra
      clear b1 ro
      have BN := below_new' (w := w2) (o := .cells #[.bool sa, .slice aa na ca, .slice ba ma da] 37)
      have LV := hid (LocA.new (w := w2) (T := 37) (cs := #[.bool sa, .slice aa na ca, .slice ba ma da]))
      have H := hid (H.out.old BN)
      have HV := hid (HV.out.old BN)
      have LX := hid (LX.out.old BN)
      have LR := hid (LR.out.old BN)
      have RX := hid (RX.out.old BN)
      have B := hid (B.out.alloc B.out.size (.cells #[.bool sa, .slice aa na ca, .slice ba ma da] 37))
      clear BN
      have q0 := LX.out.c 0 (v := .slice a1 T0.length c1) rfl
      have q1 := LX.out.c 1 (v := .int .i64 1) rfl
      have q2 := LX.out.c 2 (v := .bool s) rfl
      have q3 := LX.out.c 3 (v := .slice b1 A.length d1) rfl
      have q4 := LX.out.c 4 (v := .slice e1 D.length f1) rfl
      have y0 := LV.out.c 0 (v := .bool sa) rfl
      have y1 := LV.out.c 1 (v := .slice aa na ca) rfl
      have y2 := LV.out.c 2 (v := .slice ba ma da) rfl
      have KS := hid (sub_o (H.out.ra la ld s) RX.out)
      rw [HS.out] at KS
      go_wp2_with fail
      (with_reducible refine (KS.out).mono ?_)
      clear q0 q1 q2 q3 q4 y0 y1 y2 KS
      rintro e w3 ⟨s3, a3, n3, c3, b3, m3, d3, rfl, ro, b1⟩
      have hz := B.out.size
      have LR := hid (LR.out.old b1)
      have B := hid (B.out.trans (b1.mono hz))
      have f0 := LR.out.f 0
      have f1 := LR.out.f 1
      have f2 := LR.out.f 2
      have p0 := LR.out.c 0 rfl
      have p1 := LR.out.c 1 rfl
      have p2 := LR.out.c 2 rfl
      have RR := hid (RO.out (p := true) (w := w) (N := w.heap.size + 1) ro hz (Nat.le_succ _) LR.out (by decide) B.out)
      clear ro b1
      go_wp2
      exact bodyPost_ret (v := .agg #[.bool s3, .slice a3 n3 c3, .slice b3 m3 d3]) (by simp [results, Tryz.results22, go_sem, p0, p1, p2]) rfl RR.out
    · have HS := hid (show bq subF (valT T0 V) (rval s A D) = R by rw [HR.out, slackO, if_pos ho, if_neg hx])
      have u0 : (x == 1) = false := beq_eq_false_iff_ne.2 hx
      go_enter Tryz.func22, Tryz.ntmps22
      go_wp2_with fail
      rw [HW.out]
      (with_reducible refine (KO.out _ H.out).mono ?_)
      rintro e w1 ⟨rfl, b1⟩
      have H := hid (H.out.old b1)
      have HV := hid (HV.out.old b1)
      have LX := hid (LX.out.old b1)
      have LR := hid (LR.out.old b1)
      have B := hid (B.out.trans (b1.mono B.out.size))
      clear b1
      have q0 := LX.out.c 0 (v := .slice a1 T0.length c1) rfl
      have q1 := LX.out.c 1 (v := .int .i64 x) rfl
      have q2 := LX.out.c 2 (v := .bool s) rfl
      have q3 := LX.out.c 3 (v := .slice b1 A.length d1) rfl
      have q4 := LX.out.c 4 (v := .slice e1 D.length f1) rfl
      go_wp2_with fail
      (with_reducible refine (KT.out _ H.out HV.out).mono ?_)
      clear q0 q1 q2 q3 q4
      rintro e w2 ⟨sa, aa, na, ca, ba, ma, da, rfl, ro, b1⟩
      have H := hid (H.out.old b1)
      have HV := hid (HV.out.old b1)
      have LX := hid (LX.out.old b1)
      have LR := hid (LR.out.old b1)
      have B := hid (B.out.trans (b1.mono B.out.size))
      have RX := hid ro.ra
      clear b1 ro
      have BN := below_new' (w := w2) (o := .cells #[.bool sa, .slice aa na ca, .slice ba ma da] 37)
      have LV := hid (LocA.new (w := w2) (T := 37) (cs := #[.bool sa, .slice aa na ca, .slice ba ma da]))
      have H := hid (H.out.old BN)
      have HV := hid (HV.out.old BN)
      have LX := hid (LX.out.old BN)
      have LR := hid (LR.out.old BN)
      have RX := hid (RX.out.old BN)
      have B := hid (B.out.alloc B.out.size (.cells #[.bool sa, .slice aa na ca, .slice ba ma da] 37))
      clear BN
      have q0 := LX.out.c 0 (v := .slice a1 T0.length c1) rfl
      have q1 := LX.out.c 1 (v := .int .i64 x) rfl
      have q2 := LX.out.c 2 (v := .bool s) rfl
      have q3 := LX.out.c 3 (v := .slice b1 A.length d1) rfl
      have q4 := LX.out.c 4 (v := .slice e1 D.length f1) rfl
      have y0 := LV.out.c 0 (v := .bool sa) rfl
      have y1 := LV.out.c 1 (v := .slice aa na ca) rfl
      have y2 := LV.out.c 2 (v := .slice ba ma da) rfl
      have KS := hid (sub_o RX.out (H.out.ra la ld s))
      rw [HS.out] at KS
      go_wp2_with fail
      (with_reducible refine (KS.out).mono ?_)
      clear q0 q1 q2 q3 q4 y0 y1 y2 KS
      rintro e w3 ⟨s3, a3, n3, c3, b3, m3, d3, rfl, ro, b1⟩
      have hz := B.out.size
      have LR := hid (LR.out.old b1)
      have B := hid (B.out.trans (b1.mono hz))
      have f0 := LR.out.f 0
      have f1 := LR.out.f 1
      have f2 := LR.out.f 2
      have p0 := LR.out.c 0 rfl
      have p1 := LR.out.c 1 rfl
      have p2 := LR.out.c 2 rfl
      have RR := hid (RO.out (p := true) (w := w) (N := w.heap.size + 1) ro hz (Nat.le_succ _) LR.out (by decide) B.out)
      clear ro b1
      go_wp2
      exact bodyPost_ret (v := .agg #[.bool s3, .slice a3 n3 c3, .slice b3 m3 d3]) (by simp [results, Tryz.results22, go_sem, p0, p1, p2]) rfl RR.out
set_option maxRecDepth 100000 in
set_option maxHeartbeats 12800000 in
theorem spec_RowSlack {t v u : Value} {T0 : List Tq} {A D : List Int} {b : Option Addr} {n c : Nat} {V : List Fq} {p : Bool} {lo hi : Nat} (x : Int) (s : Bool) (hK : SmT T0) (hL : Sm V) (la : A.length ≤ 1048576) (ld : D.length ≤ 1048576) (w : World) (h : RwW w t v u T0 A D) (h' : VK p w (.slice b n c) V lo hi) :
    Calls Tryz.prog 21 #[.agg #[t, .int .i64 x, .bool s, v, u], .slice b n c] w (RatO false (slackO T0 x s A D V) w) := by
  obtain ⟨a1, c1, b1, d1, e1, f1, rfl, rfl, rfl⟩ := h.form
  obtain rfl := h'.num
  have hlen := hL.2
  have B := hid (below_new2 (w := w) (o := .cells #[.slice a1 T0.length c1, .int .i64 x, .bool s, .slice b1 A.length d1, .slice e1 D.length f1] 39) (o' := .cells #[.bool false, .slice none 0 0, .slice none 0 0] 37))
  have LX := hid ((LocA.at (T := 39) (w := w) (b := w.heap.size) (cs := #[.slice a1 T0.length c1, .int .i64 x, .bool s, .slice b1 A.length d1, .slice e1 D.length f1]) rfl).new1 (o := .cells #[.bool false, .slice none 0 0, .slice none 0 0] 37))
  have LR := hid (LocA.at (T := 37) (w := w.alloc (.cells #[.slice a1 T0.length c1, .int .i64 x, .bool s, .slice b1 A.length d1, .slice e1 D.length f1] 39)) (b := w.heap.size + 1) (cs := #[.bool false, .slice none 0 0, .slice none 0 0]) (by simp))
  have H := hid (h.old B.out)
  have HV := hid (h'.old B.out)
  clear h h'
  have KO := hid (fun (W : World) (g : RwW W (.slice a1 T0.length c1) (.slice b1 A.length d1) (.slice e1 D.length f1) T0 A D) => spec_RowOk x s hK la ld (V.length : Int) (by omega) (by omega) W g)
  have KT := hid (fun (W : World) (g : RwW W (.slice a1 T0.length c1) (.slice b1 A.length d1) (.slice e1 D.length f1) T0 A D) (g' : VK p W (.slice b V.length c) V lo hi) => show Calls Tryz.prog 57 #[.slice a1 T0.length c1, .slice b V.length c] W (RatO false (valT T0 V) W) from by
    obtain ⟨⟨_, _, _, y⟩, -⟩ := g
    exact spec_TermsValue hK hL W y g')
  obtain ⟨R, hR⟩ : ∃ R, R = slackO T0 x s A D V := ⟨_, rfl⟩
  rw [← hR]
  have HR := hid hR
  clear hR
  generalize hW : (w.alloc (.cells #[.slice a1 T0.length c1, .int .i64 x, .bool s, .slice b1 A.length d1, .slice e1 D.length f1] 39)).alloc (.cells #[.bool false, .slice none 0 0, .slice none 0 0] 37) = W0 at B LX LR H HV
  have HW := hid hW
  clear hW
  cases ho : rowOk T0 x s A D V.length with
  | false =>
    have HN := hid (show R = none by rw [HR.out, slackO, ho]; rfl)
    rw [HN.out]
    rw [ho] at KO
    go_enter Tryz.func21, Tryz.ntmps21
    go_wp2_with fail
    rw [HW.out]
    (with_reducible refine (KT.out _ H.out HV.out).mono ?_)
    rintro e w2 ⟨sa, aa, na, ca, ba, ma, da, rfl, ro, b1⟩
    have H := hid (H.out.old b1)
    have HV := hid (HV.out.old b1)
    have LX := hid (LX.out.old b1)
    have LR := hid (LR.out.old b1)
    have B := hid (B.out.trans (b1.mono B.out.size))
    have RX := hid ro.ra
    clear b1 ro
    have BN := below_new' (w := w2) (o := .cells #[.bool sa, .slice aa na ca, .slice ba ma da] 37)
    have LV := hid (LocA.new (w := w2) (T := 37) (cs := #[.bool sa, .slice aa na ca, .slice ba ma da]))
    have H := hid (H.out.old BN)
    have HV := hid (HV.out.old BN)
    have LX := hid (LX.out.old BN)
    have LR := hid (LR.out.old BN)
    have RX := hid (RX.out.old BN)
    have B := hid (B.out.alloc B.out.size (.cells #[.bool sa, .slice aa na ca, .slice ba ma da] 37))
    clear BN
    have q0 := LX.out.c 0 (v := .slice a1 T0.length c1) rfl
    have q1 := LX.out.c 1 (v := .int .i64 x) rfl
    have q2 := LX.out.c 2 (v := .bool s) rfl
    have q3 := LX.out.c 3 (v := .slice b1 A.length d1) rfl
    have q4 := LX.out.c 4 (v := .slice e1 D.length f1) rfl
    go_wp2_with fail
    (with_reducible refine (KO.out _ H.out).mono ?_)
    clear q0 q1 q2 q3 q4
    rintro e w1 ⟨rfl, b1⟩
    have H := hid (H.out.old b1)
    have HV := hid (HV.out.old b1)
    have LX := hid (LX.out.old b1)
    have LR := hid (LR.out.old b1)
    have LV := hid (LV.out.old b1)
    have RX := hid (RX.out.old b1)
    have B := hid (B.out.trans (b1.mono B.out.size))
    clear b1
    have f0 := LR.out.f 0
    have f1 := LR.out.f 1
    have f2 := LR.out.f 2
    have p0 := LR.out.c 0 rfl
    have p1 := LR.out.c 1 rfl
    have p2 := LR.out.c 2 rfl
    have RR := hid (RO.out (p := false) (o := none) (w := w) (N := w.heap.size + 1) (RO_none (lo := w.heap.size)) (Nat.le_refl _) (Nat.le_succ _) LR.out (by decide) B.out)
    go_wp2
    exact bodyPost_ret (v := .agg #[.bool false, .slice none 0 0, .slice none 0 0]) (by simp [results, Tryz.results21, go_sem, p0, p1, p2]) rfl RR.out
  | true =>
    rw [ho] at KO
    by_cases hx : x = 1
    · have HS := hid (show bq subF (rval s A D) (valT T0 V) = R by rw [HR.out, slackO, if_pos ho, if_pos hx])
      subst hx
      go_enter Tryz.func21, Tryz.ntmps21
      go_wp2_with fail
      rw [HW.out]
      (with_reducible refine (KT.out _ H.out HV.out).mono ?_)
      rintro e w2 ⟨sa, aa, na, ca, ba, ma, da, rfl, ro, b1⟩
      have H := hid (H.out.old b1)
      have HV := hid (HV.out.old b1)
      have LX := hid (LX.out.old b1)
      have LR := hid (LR.out.old b1)
      have B := hid (B.out.trans (b1.mono B.out.size))
      have RX := hid ro.ra
      clear b1 ro
      have BN := below_new' (w := w2) (o := .cells #[.bool sa, .slice aa na ca, .slice ba ma da] 37)
      have LV := hid (LocA.new (w := w2) (T := 37) (cs := #[.bool sa, .slice aa na ca, .slice ba ma da]))
      have H := hid (H.out.old BN)
      have HV := hid (HV.out.old BN)
      have LX := hid (LX.out.old BN)
      have LR := hid (LR.out.old BN)
      have RX := hid (RX.out.old BN)
      have B := hid (B.out.alloc B.out.size (.cells #[.bool sa, .slice aa na ca, .slice ba ma da] 37))
      clear BN
      have q0 := LX.out.c 0 (v := .slice a1 T0.length c1) rfl
      have q1 := LX.out.c 1 (v := .int .i64 1) rfl
      have q2 := LX.out.c 2 (v := .bool s) rfl
      have q3 := LX.out.c 3 (v := .slice b1 A.length d1) rfl
      have q4 := LX.out.c 4 (v := .slice e1 D.length f1) rfl
      go_wp2_with fail
      (with_reducible refine (KO.out _ H.out).mono ?_)
      clear q0 q1 q2 q3 q4
      rintro e w1 ⟨rfl, b1⟩
      have H := hid (H.out.old b1)
      have HV := hid (HV.out.old b1)
      have LX := hid (LX.out.old b1)
      have LR := hid (LR.out.old b1)
      have LV := hid (LV.out.old b1)
      have RX := hid (RX.out.old b1)
      have B := hid (B.out.trans (b1.mono B.out.size))
      clear b1
      have q0 := LX.out.c 0 (v := .slice a1 T0.length c1) rfl
      have q1 := LX.out.c 1 (v := .int .i64 1) rfl
      have q2 := LX.out.c 2 (v := .bool s) rfl
      have q3 := LX.out.c 3 (v := .slice b1 A.length d1) rfl
      have q4 := LX.out.c 4 (v := .slice e1 D.length f1) rfl
      have y0 := LV.out.c 0 (v := .bool sa) rfl
      have y1 := LV.out.c 1 (v := .slice aa na ca) rfl
      have y2 := LV.out.c 2 (v := .slice ba ma da) rfl
      have KS := hid (ssub_o (H.out.ra la ld s) RX.out)
      rw [HS.out] at KS
      go_wp2_with fail
      (with_reducible refine (KS.out).mono ?_)
      clear q0 q1 q2 q3 q4 y0 y1 y2 KS
      rintro e w3 ⟨s3, a3, n3, c3, b3, m3, d3, rfl, ro, b1⟩
      have hz := B.out.size
      have LR := hid (LR.out.old b1)
      have B := hid (B.out.trans (b1.mono hz))
      have f0 := LR.out.f 0
      have f1 := LR.out.f 1
      have f2 := LR.out.f 2
      have p0 := LR.out.c 0 rfl
      have p1 := LR.out.c 1 rfl
      have p2 := LR.out.c 2 rfl
      have RR := hid (RO.out (p := false) (w := w) (N := w.heap.size + 1) ro hz (Nat.le_succ _) LR.out (by decide) B.out)
      clear ro b1
      go_wp2
      exact bodyPost_ret (v := .agg #[.bool s3, .slice a3 n3 c3, .slice b3 m3 d3]) (by simp [results, Tryz.results21, go_sem, p0, p1, p2]) rfl RR.out
    · have HS := hid (show bq subF (valT T0 V) (rval s A D) = R by rw [HR.out, slackO, if_pos ho, if_neg hx])
      have u0 : (x == 1) = false := beq_eq_false_iff_ne.2 hx
      go_enter Tryz.func21, Tryz.ntmps21
      go_wp2_with fail
      rw [HW.out]
      (with_reducible refine (KT.out _ H.out HV.out).mono ?_)
      rintro e w2 ⟨sa, aa, na, ca, ba, ma, da, rfl, ro, b1⟩
      have H := hid (H.out.old b1)
      have HV := hid (HV.out.old b1)
      have LX := hid (LX.out.old b1)
      have LR := hid (LR.out.old b1)
      have B := hid (B.out.trans (b1.mono B.out.size))
      have RX := hid ro.ra
      clear b1 ro
      have BN := below_new' (w := w2) (o := .cells #[.bool sa, .slice aa na ca, .slice ba ma da] 37)
      have LV := hid (LocA.new (w := w2) (T := 37) (cs := #[.bool sa, .slice aa na ca, .slice ba ma da]))
      have H := hid (H.out.old BN)
      have HV := hid (HV.out.old BN)
      have LX := hid (LX.out.old BN)
      have LR := hid (LR.out.old BN)
      have RX := hid (RX.out.old BN)
      have B := hid (B.out.alloc B.out.size (.cells #[.bool sa, .slice aa na ca, .slice ba ma da] 37))
      clear BN
      have q0 := LX.out.c 0 (v := .slice a1 T0.length c1) rfl
      have q1 := LX.out.c 1 (v := .int .i64 x) rfl
      have q2 := LX.out.c 2 (v := .bool s) rfl
      have q3 := LX.out.c 3 (v := .slice b1 A.length d1) rfl
      have q4 := LX.out.c 4 (v := .slice e1 D.length f1) rfl
      go_wp2_with fail
      (with_reducible refine (KO.out _ H.out).mono ?_)
      clear q0 q1 q2 q3 q4
      rintro e w1 ⟨rfl, b1⟩
      have H := hid (H.out.old b1)
      have HV := hid (HV.out.old b1)
      have LX := hid (LX.out.old b1)
      have LR := hid (LR.out.old b1)
      have LV := hid (LV.out.old b1)
      have RX := hid (RX.out.old b1)
      have B := hid (B.out.trans (b1.mono B.out.size))
      clear b1
      have q0 := LX.out.c 0 (v := .slice a1 T0.length c1) rfl
      have q1 := LX.out.c 1 (v := .int .i64 x) rfl
      have q2 := LX.out.c 2 (v := .bool s) rfl
      have q3 := LX.out.c 3 (v := .slice b1 A.length d1) rfl
      have q4 := LX.out.c 4 (v := .slice e1 D.length f1) rfl
      have y0 := LV.out.c 0 (v := .bool sa) rfl
      have y1 := LV.out.c 1 (v := .slice aa na ca) rfl
      have y2 := LV.out.c 2 (v := .slice ba ma da) rfl
      have KS := hid (ssub_o RX.out (H.out.ra la ld s))
      rw [HS.out] at KS
      go_wp2_with fail
      (with_reducible refine (KS.out).mono ?_)
      clear q0 q1 q2 q3 q4 y0 y1 y2 KS
      rintro e w3 ⟨s3, a3, n3, c3, b3, m3, d3, rfl, ro, b1⟩
      have hz := B.out.size
      have LR := hid (LR.out.old b1)
      have B := hid (B.out.trans (b1.mono hz))
      have f0 := LR.out.f 0
      have f1 := LR.out.f 1
      have f2 := LR.out.f 2
      have p0 := LR.out.c 0 rfl
      have p1 := LR.out.c 1 rfl
      have p2 := LR.out.c 2 rfl
      have RR := hid (RO.out (p := false) (w := w) (N := w.heap.size + 1) ro hz (Nat.le_succ _) LR.out (by decide) B.out)
      clear ro b1
      go_wp2
      exact bodyPost_ret (v := .agg #[.bool s3, .slice a3 n3 c3, .slice b3 m3 d3]) (by simp [results, Tryz.results21, go_sem, p0, p1, p2]) rfl RR.out
end Go.Proofs.YthkehmnodcmlcaaGreat
