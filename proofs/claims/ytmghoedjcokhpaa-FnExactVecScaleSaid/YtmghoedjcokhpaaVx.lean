/- Vectors multiplied by a fraction (the program and the reference). -/
import Derived.Test.YtmghoedjcokhpaaVr
import Derived.Test.YtmghoedjcokhpaaVt
import Derived.Deep.RegionHeld3
import Derived.Deep.DeepCutAuto
namespace Go.Proofs.Ytmghoedjcokhpaa
open Go.RowKit
open Go.Lib (hid)
set_option linter.unusedVariables false

/-- A vector multiplied by a fraction, if there is such a vector. -/
def smO (K : List Fq) (o : Option Rat) : List (Option Rat) := K.map fun f => bq mulF f.o o
def vscale (K : List Fq) (o : Option Rat) : List Fq := vres (smO K o)
theorem smO_len (K : List Fq) (o : Option Rat) : (smO K o).length = K.length := by simp [smO]
theorem smO_at {K : List Fq} {o : Option Rat} {k : Nat} (h : k < K.length) (h' : k < (smO K o).length) : (smO K o)[k] = bq mulF K[k].o o := by simp [smO]
theorem smO_fit (K : List Fq) (o : Option Rat) : ∀ x ∈ smO K o, fitO x := by
  intro x hx
  obtain ⟨f, -, rfl⟩ := List.mem_map.1 hx
  exact fitO_bq fitO_mul _ _
theorem zw_rep (f : Fq) : ∀ K : List Fq, zw mulF K (List.replicate K.length f) = smO K f.o
  | [] => rfl
  | g :: K => by
    have := zw_rep f K
    simp only [zw, smO, List.length_cons, List.replicate_succ, List.zipWith_cons_cons, List.map_cons] at this ⊢
    rw [this]
theorem vzip_rep (f : Fq) (K : List Fq) : vzip mulF K (List.replicate K.length f) = vscale K f.o := by
  unfold vzip vscale
  rw [if_pos (by simp), zw_rep]
theorem Sm_rep {n : Nat} {f : Fq} (hn : n ≤ 1048576) (h : f.A.length ≤ 1048576 ∧ f.D.length ≤ 1048576) : Sm (List.replicate n f) :=
  ⟨fun x hx => by rw [(List.mem_replicate.1 hx).2]; exact h, by simpa using hn⟩
set_option maxRecDepth 100000 in
set_option maxHeartbeats 6400000 in
theorem impl_VecScale {p : Bool} {a : Option Addr} {n c : Nat} {K : List Fq} {lo hi : Nat} {s : Bool} {a1 : Option Addr} {n1 c1 : Nat} {b1 : Option Addr} {m1 d1 : Nat} {o : Option Rat} (hK : Sm K) (w : World) (h : VK p w (.slice a n c) K lo hi) (hr : RA w s (.slice a1 n1 c1) (.slice b1 m1 d1) o) :
    Calls Try.prog 32 #[.slice a n c, .agg #[.bool s, .slice a1 n1 c1, .slice b1 m1 d1]] w (VecR true (vscale K o) w) := by
  have BW := hid (below_new2 (w := w) (o := .cells #[.bool s, .slice a1 n1 c1, .slice b1 m1 d1] 45) (o' := .cells #[.bool s, .slice a1 n1 c1, .slice b1 m1 d1] 45))
  have V := hid (h.old BW.out)
  have X := hid (hr.old BW.out)
  have HH := hid (show ((w.alloc (.cells #[.bool s, .slice a1 n1 c1, .slice b1 m1 d1] 45)).alloc (.cells #[.bool s, .slice a1 n1 c1, .slice b1 m1 d1] 45)).heap[w.heap.size + 1]? = some (.cells #[.bool s, .slice a1 n1 c1, .slice b1 m1 d1] 45 (0, 0)) by have := heap_alloc_new (w.alloc (.cells #[.bool s, .slice a1 n1 c1, .slice b1 m1 d1] 45)) (.cells #[.bool s, .slice a1 n1 c1, .slice b1 m1 d1] 45); simpa using this)
  obtain rfl := h.num
  have hkl := hK.2
  clear h hr
  have KR := hid (repeat_one hkl ((w.alloc (.cells #[.bool s, .slice a1 n1 c1, .slice b1 m1 d1] 45)).alloc (.cells #[.bool s, .slice a1 n1 c1, .slice b1 m1 d1] 45)) HH.out X.out)
  generalize hW : (w.alloc (.cells #[.bool s, .slice a1 n1 c1, .slice b1 m1 d1] 45)).alloc (.cells #[.bool s, .slice a1 n1 c1, .slice b1 m1 d1] 45) = W at BW V X HH KR
  have HW := hid hW
  clear hW
  go_enter Try.func32, Try.ntmps32
  go_wp2_with fail
  rw [HW.out]
  (with_reducible refine (KR.out).mono ?_)
  rintro e w2 ⟨g, A, D, rfl, hv, ho, hl, -, hb⟩
  have V2 := hid (V.out.old hb)
  have HB := hid (BW.out.trans (hb.mono BW.out.size))
  have KE := hid (elementwise_mul hK (Sm_rep hkl hl) w2 V2.out hv)
  have HZ := hid (show vzip mulF K (List.replicate K.length ⟨s, A, D⟩) = vscale K o by rw [vzip_rep, ho])
  rw [HZ.out] at KE
  clear hv ho hl hb
  go_wp2_with fail
  (with_reducible refine (KE.out).mono ?_)
  rintro e w3 ⟨a5, n5, c5, rfl, hv5, hb5⟩
  have R := hid (show VecR true (vscale K o) w (.returned (.slice a5 n5 c5)) w3 from ⟨_, _, _, rfl, hv5.wide HB.out.size (Nat.le_refl _), HB.out.trans (hb5.mono HB.out.size)⟩)
  clear hv5 hb5
  go_wp2
  go_ret
  exact R.out
set_option maxRecDepth 100000 in
set_option maxHeartbeats 6400000 in
theorem spec_VecScale {p : Bool} {a : Option Addr} {n c : Nat} {K : List Fq} {lo hi : Nat} {s : Bool} {a1 : Option Addr} {n1 c1 : Nat} {b1 : Option Addr} {m1 d1 : Nat} {o : Option Rat} (hK : Sm K) (w : World) (h : VK p w (.slice a n c) K lo hi) (hr : RA w s (.slice a1 n1 c1) (.slice b1 m1 d1) o) :
    Calls Try.prog 30 #[.slice a n c, .agg #[.bool s, .slice a1 n1 c1, .slice b1 m1 d1]] w (VecR false (vscale K o) w) := by
  have BW := hid (below_new' (w := w) (o := .cells #[.bool s, .slice a1 n1 c1, .slice b1 m1 d1] 45))
  have HV := hid (h.old BW.out)
  have HX := hid (hr.old BW.out)
  have LX := hid (LocA.new (w := w) (T := 45) (cs := #[.bool s, .slice a1 n1 c1, .slice b1 m1 d1]))
  obtain rfl := h.num
  have hkl := hK.2
  clear h hr
  have HS := hid (show (w.alloc (.cells #[.bool s, .slice a1 n1 c1, .slice b1 m1 d1] 45)).heap.size = w.heap.size + 1 by simp)
  have HF := hid (smO_fit K o)
  have HZ := hid (smO_len K o)
  have HA := hid (fun k (h : k < K.length) (h' : k < (smO K o).length) => smO_at (o := o) h h')
  have HR := hid (show vscale K o = vres (smO K o) from rfl)
  rw [HR.out]
  clear HR
  generalize smO K o = os at HF HZ HA ⊢
  generalize hW : w.alloc (.cells #[.bool s, .slice a1 n1 c1, .slice b1 m1 d1] 45) = W at BW HV HX LX HS
  have HW := hid hW
  clear hW
  have V0 := hid (VK_lit0 false (w := W) (lo := W.heap.size) (Nat.le_refl _))
  have B0 := hid (show Below W.heap.size W (W.alloc (.cells #[] 45)) from below_new')
  have S0 := hid (show (W.alloc (.cells #[] 45)).heap.size = W.heap.size + 1 by simp)
  go_enter Try.func30, Try.ntmps30
  go_wp2
  rw [HW.out]
  have hws := HS.out
  rw [← hws]
  clear hws
  generalize W.alloc (.cells #[] 45) = w1 at V0 B0 S0 ⊢
  go_loopw [5, 11] (fun v i wr => ∃ (k : Nat) (a' : Option Addr) (c' : Nat), k ≤ K.length ∧ i = .int .i64 k ∧ v = .slice a' k c' ∧ Hid (VK false wr (.slice a' k c') ((os.take k).map fqo) W.heap.size wr.heap.size) ∧ Below W.heap.size W wr) (fun _ i _ => K.length - (intOf i).toNat)
  case atStart => exact ⟨0, _, 0, Nat.zero_le _, rfl, rfl, hid (V0.out.wide (Nat.le_refl _) (by rw [S0.out]; exact Nat.le_refl _)), B0.out⟩
  case round =>
    obtain ⟨k, a', c', hk, rfl, rfl, hV, hbel⟩ := hrel
    have HB := hid hbel
    by_cases hlt : k < K.length
    · have X := hid (HV.out.old hbel)
      obtain ⟨g1, a31, n31, c31, b31, m31, d31, rfl, hg1, q01, q11, q21, R1⟩ := X.out.at hK hlt
      obtain ⟨⟨s1, A1, D1⟩, hf1⟩ : ∃ f, K[k]'(hlt) = f := ⟨_, rfl⟩
      simp only [hf1] at q01 R1
      have HF1 := hid hf1
      clear hf1
      obtain ⟨o1, ho1⟩ : ∃ o, Fq.o ⟨s1, A1, D1⟩ = o := ⟨_, rfl⟩
      have HO1 := hid (show (K[k]'(hlt)).o = o1 by rw [HF1.out, ho1])
      have RX1 := hid (show RA wr s1 (.slice a31 n31 c31) (.slice b31 m31 d31) o1 from ⟨A1, D1, R1, ho1⟩)
      clear ho1 R1
      have HOO := hid (show os[k]'(by rw [HZ.out]; exact hlt) = bq mulF o1 o by rw [HA.out k hlt (by rw [HZ.out]; exact hlt), HO1.out])
      have hln := hid (show ((os.take k).map fqo).length = k by rw [List.length_map, List.length_take, HZ.out]; omega)
      have LX2 := hid ((LX.out.old hbel).new1 (o := .cells #[.bool s1, .slice a31 n31 c31, .slice b31 m31 d31] 45))
      have KF := hid (fun (U : World) (hb : Below wr.heap.size wr U) => smul_o (w := U) (RX1.out.old hb) ((HX.out.old hbel).old hb))
      have V1 := hid (hV.out.old (below_new' (o := .cells #[.bool s1, .slice a31 n31 c31, .slice b31 m31 d31] 45)))
      have HB1 := hid (hbel.alloc hbel.size (.cells #[.bool s1, .slice a31 n31 c31, .slice b31 m31 d31] 45))
      have x0 := LX2.out.c 0 (v := .bool s) rfl
      have x1 := LX2.out.c 1 (v := .slice a1 n1 c1) rfl
      have x2 := LX2.out.c 2 (v := .slice b1 m1 d1) rfl
      have a1' : (0 : Int) ≤ k := by omega
      have a2 : (k : Int) < K.length := by omega
      have hz := hbel.size
      clear hbel
      go_wp2_with fail
      (with_reducible refine (KF.out _ below_new').mono ?_)
      rintro e w2 ⟨s4, a4, n4, c4, b4, m4, d4, rfl, hr, hb⟩
      have V2 := hid (V1.out.old hb)
      have R2 := hid hr
      have hz2 : wr.heap.size + 1 ≤ w2.heap.size := by have := hb.size; simpa using this
      have HB2 := hid ((HB1.out.trans (hb.mono HB1.out.size)).alloc (show W.heap.size ≤ w2.heap.size by omega) (.cells #[.bool s4, .slice a4 n4 c4, .slice b4 m4 d4] 45))
      clear hr hb x0 x1 x2 q01 q11 q21
      have PV := hid (V2.out.old (below_new' (o := .cells #[.bool s4, .slice a4 n4 c4, .slice b4 m4 d4] 45)))
      have PR := hid (R2.out.old (below_new' (o := .cells #[.bool s4, .slice a4 n4 c4, .slice b4 m4 d4] 45)))
      have PB := hid (heap_alloc_new w2 (.cells #[.bool s4, .slice a4 n4 c4, .slice b4 m4 d4] 45))
      have hlp := hln.out
      go_wp2_with (at_builtin; refine wpList_push rfl _ _ rfl rfl PV.out (by simp) (by simp; omega) PR.out rfl PB.out (by first | assumption | (simp; omega)) (by simp; omega) ?_)
      intro gp cp wp hvp hbp
      have HB3 := hid (HB2.out.trans hbp)
      have HV3 := hid hvp
      clear hvp hbp
      go_wp2
      go_roundw
      case rel => exact ⟨k + 1, some ⟨gp, 0, none⟩, cp, by omega, by go_num, by have := HZ.out; rw [show min k os.length = k by omega], hid (by
        have h1 := HV3.out
        rw [← List.map_take, take_map (by rw [HZ.out]; exact hlt) HOO.out, show min k os.length = k by have := HZ.out; omega] at h1
        exact h1), HB3.out⟩
      case measure => simp [intOf]; omega
    · obtain rfl : k = K.length := by omega
      clear hbel
      have KZ := hid (l06Ok_R (w := W) (wr := wr) HF.out (by rw [HZ.out]; exact hkl) (by have h1 := hV.out; rwa [List.take_of_length_le (by rw [HZ.out]; exact Nat.le_refl _)] at h1) HB.out)
      go_wp2_with fail
      (with_reducible refine (KZ.out).mono ?_)
      rintro e w2 ⟨a5, n5, c5, rfl, hv5, hb5⟩
      have R := hid (show VecR false (vres os) w (.returned (.slice a5 n5 c5)) w2 from ⟨_, _, _, rfl, hv5.wide BW.out.size (Nat.le_refl _), BW.out.trans (hb5.mono BW.out.size)⟩)
      clear hv5 hb5
      go_wp2
      go_ret
      exact R.out
end Go.Proofs.Ytmghoedjcokhpaa
