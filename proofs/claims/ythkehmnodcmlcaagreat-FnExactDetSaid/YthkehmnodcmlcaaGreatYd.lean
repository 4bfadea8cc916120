import Derived.Test.YthkehmnodcmlcaaGreatXd
import Derived.Deep.AppendLies
import Derived.Test.YthkehmnodcmlcaaGreatYb
import Derived.Test.YthkehmnodcmlcaaGreatYi
import Derived.Test.YthkehmnodcmlcaaGreatXo
import Derived.Deep.RegionHeld3
import Derived.Deep.DeepCutAuto
import Derived.StillTailTactics
set_option maxRecDepth 100000
set_option maxHeartbeats 25600000
set_option linter.unusedVariables false
set_option linter.unusedSimpArgs false
namespace Go.Proofs.YthkehmnodcmlcaaGreat
open Go.RowKit
open Go.Lib (hid)
section
variable {ops : Array Oper} {o : Oper} {a : Act} {W : World} {v : Value} {L : List Int} {lo B : Nat} {x : Int}
end
end Go.Proofs.YthkehmnodcmlcaaGreat
namespace Go.Proofs.YthkehmnodcmlcaaGreat
open Go.RowKit
open Go.Lib (hid)
theorem div_o {w : World} {s t : Bool} {v u v' u' : Value} {o o' : Option Rat} (h : RA w s v u o) (h' : RA w t v' u' o') : Calls Tryz.prog 165 #[.agg #[.bool s, v, u], .agg #[.bool t, v', u']] w (RatO true (bq divF o o') w) := by
 obtain ⟨A, D, r, e⟩ := h
 obtain ⟨A', D', r', e'⟩ := h'
 subst e
 subst e'
 exact (impl_RatDiv s t v u v' u' A D A' D' w r r').mono fun e w' hh => RatO_of hh (fitO_bq fitO_div _ _)
theorem impl_VecSub_w {a : Option Addr} {n c : Nat} {b : Option Addr} {m d : Nat} {K L : List Fq} {lo hi lo' hi' : Nat} (hK : Sm K) (hL : Sm L) (w : World) (h : VW w a n K lo hi) (h' : VW w b m L lo' hi') :
  Calls Tryz.prog 163 #[.slice a n c, .slice b m d] w (VecR true (vzip subF K L) w) := by
 have KE := hid (elementwise_sub_w (c := c) (d := d) hK hL w h h')
 clear h h'
 go_enter Tryz.func163, Tryz.ntmps163
 go_wp2_with fail
 (with_reducible refine (KE.out).mono ?_)
 rintro e w2 ⟨a5, n5, c5, rfl, hv, hb⟩
 have R := hid (show VecR true (vzip subF K L) w (.returned (.slice a5 n5 c5)) w2 from ⟨_, _, _, rfl, hv, hb⟩)
 clear hv hb
 go_wp2
 go_ret
 exact R.out
theorem clrs_zero (R : List (List Rat)) (P : List Rat) (c off : Nat) : clrs R P c off 0 = R := by simp [clrs]
theorem clrs_len {R : List (List Rat)} {P : List Rat} {c off k : Nat} (h : off + k ≤ R.length) : (clrs R P c off k).length = R.length := by simp [clrs]; omega
theorem clrs_at {R : List (List Rat)} {P : List Rat} {c off k : Nat} (h : off + k ≤ R.length) {j : Nat} (hj : j < R.length) (ho : j < off ∨ off + k ≤ j) : (clrs R P c off k)[j]'(by rw [clrs_len h]; exact hj) = R[j] := by
 simp only [clrs]
 rcases ho with ho | ho
 ·rw [List.getElem_append_left (by simp; omega), List.getElem_append_left (by simp; omega)]
  simp
 ·rw [List.getElem_append_right (by simp; omega)]
  simp only [List.length_append, List.length_map, List.length_take, List.length_drop, List.getElem_drop]
  congr 1
  omega
theorem clrs_in {R : List (List Rat)} {P : List Rat} {c off k : Nat} (h : off + k ≤ R.length) {j : Nat} (hj : j < R.length) (h1 : off ≤ j) (h2 : j < off + k) : (clrs R P c off k)[j]'(by rw [clrs_len h]; exact hj) = clr P c R[j] := by
 simp only [clrs]
 have hl1 : (R.take off).length = off := by rw [List.length_take]; omega
 rw [List.getElem_append_left (by rw [List.length_append, hl1, List.length_map, List.length_take, List.length_drop]; omega), List.getElem_append_right (by omega)]
 simp only [List.getElem_map, List.getElem_take, List.getElem_drop, hl1]
 congr 2
 omega
theorem clrs_succ {R : List (List Rat)} {P : List Rat} {c off k : Nat} (h : off + k < R.length) : clrs R P c off (k + 1) = (clrs R P c off k).set (off + k) (clr P c R[off + k]) := by
 apply List.ext_getElem
 ·rw [List.length_set, clrs_len (by omega), clrs_len (by omega)]
 ·intro j h1 h2
  rw [clrs_len (by omega)] at h1
  rw [List.getElem_set]
  by_cases e : off + k = j
  ·subst e
   rw [if_pos rfl, clrs_in (by omega) h1 (by omega) (by omega)]
  ·rw [if_neg e]
   by_cases e2 : j < off ∨ off + k + 1 ≤ j
   ·rw [clrs_at (by omega) h1 (by omega), clrs_at (by omega) h1 (by omega)]
   ·rw [clrs_in (by omega) h1 (by omega) (by omega), clrs_in (by omega) h1 (by omega) (by omega)]
theorem Sm_rv {X : List Rat} (h : AF X) (hl : X.length ≤ 40) : Sm (rv X) := by
 refine ⟨fun f hf => ?_, by rw [rv_len]; omega⟩
 obtain ⟨x, hx, rfl⟩ := List.mem_map.1 hf
 have := fqo_n (o := some x) fun y e => by cases e; exact h x hx
 simp only [Fq.n] at this
 omega
theorem rv_at {X : List Rat} {k : Nat} (h : k < X.length) : (rv X)[k]'(by rw [rv_len]; exact h) = fqo (some (el X k)) := by
 rw [el_at h]; simp [rv]
theorem af_el {X : List Rat} (h : AF X) {k : Nat} (hk : k < X.length) : fit (el X k) := by rw [el_at hk]; exact h _ (List.getElem_mem hk)
theorem VW.elx {w : World} {a : Option Addr} {n : Nat} {X : List Rat} {lo hi : Nat} (h : VW w a n (rv X) lo hi) (hX : AF X) (hl : X.length ≤ 40) {k : Nat} (hk : k < X.length) :
  ∃ g o s a3 n3 c3 b3 m3 d3, a = some ⟨g, o, none⟩ ∧ g < w.heap.size ∧ w.cell? ⟨g, o + k * 3, none⟩ = some (.bool s) ∧ w.cell? ⟨g, o + k * 3 + 1, none⟩ = some (.slice a3 n3 c3) ∧ w.cell? ⟨g, o + k * 3 + 2, none⟩ = some (.slice b3 m3 d3) ∧
   RA w s (.slice a3 n3 c3) (.slice b3 m3 d3) (some (el X k)) := by
 obtain ⟨g, o, a3, n3, c3, b3, m3, d3, e, hg, q0, q1, q2, R⟩ := h.at (Sm_rv hX hl) (k := k) (by rw [rv_len]; exact hk)
 rw [rv_at hk] at q0 R
 exact ⟨g, o, _, a3, n3, c3, b3, m3, d3, e, hg, q0, q1, q2, _, _, R, fr_o (af_el hX hk)⟩
def ColR (I : World → List Value → List (List Rat) → Nat → Prop) (R : List (List Rat)) (P : List Rat) (c off m p G lo : Nat) (v : Value) (B : Bool) (w : World) (e : Ending) (w' : World) : Prop :=
 e = .returned (.bool B) ∧ Below lo w w' ∧ w'.cell? ⟨G, p, none⟩ = some v ∧ (B = true → ∃ H hi, I w' H (clrs R P c off m) hi ∧ H[p]? = some v)
theorem clearColumn_any {G n cap lo W c off m p : Nat} {I : World → List Value → List (List Rat) → Nat → Prop} (hI : RI G n cap lo I) {aR b : Option Addr} {cR cb hi : Nat} {R : List (List Rat)} {H : List Value} (B : Bool) (hRW : Rows W R) (hc : c < W) (hW : W ≤ 40) (hn : n ≤ 40)
    (haR : 0 < m → aR = some ⟨G, off, none⟩) (hom : off + m ≤ n) (hp : p < R.length) (hpo : p < off ∨ off + m ≤ p) (hp0 : el R[p] c ≠ 0) (hB : B = true ↔ ∀ k (hk : off + k < R.length), k < m → clrOk R[p] c R[off + k]) (w : World) (h : I w H R hi) (hb : H[p]? = some (.slice b W cb)) :
    Calls Tryz.prog 115 #[.slice aR m cR, .slice b W cb, .int .i64 (c : Int)] w (ColR I R R[p] c off m p G lo (.slice b W cb) B w) := by
  have hRn := hI.len h
  have hlG := hid ((hI.row h).lt G rfl)
  have HP := hid (hRW.at hp)
  have HRW := hid hRW
  have HI := hid hI
  have HH := hid h
  have HBb := hid hb
  have hRl : R.length ≤ 40 := by omega
  obtain ⟨P, hP⟩ : ∃ P, R[p] = P := ⟨_, rfl⟩
  have HPP := hid hP
  simp only [hP] at HP hp0 hB ⊢
  have HPl := hid HP.out.1
  have HBB := hid hB
  have HP0 := hid hp0
  clear h hb hB hp0 hRW hI hP
  go_enter Tryz.func115, Tryz.ntmps115
  go_wp2
  go_loopw [11] (fun i wr => ∃ (k : Nat) (Hk : List Value) (hk : Nat), k ≤ m ∧ i = .int .i64 k ∧ Hid (I wr Hk (clrs R P c off k) hk) ∧ Hid (Hk[p]? = some (.slice b W cb)) ∧ Hid (∀ j (hj : off + j < R.length), j < k → clrOk P c R[off + j]) ∧ Below lo w wr) (fun i _ => m - (intOf i).toNat)
  case atStart => exact ⟨0, H, hi, Nat.zero_le _, rfl, hid (by rw [clrs_zero]; exact HH.out), HBb, hid (fun j hj h => absurd h (by omega)), Below.refl _ _⟩
  case round =>
    obtain ⟨k, Hk, hik, hk, rfl, hA, hHp, hK, hbel⟩ := hrel
    have HB := hid hbel
    by_cases hlt : k < m
    · obtain rfl := haR (by omega)
      have hokl : off + k < R.length := by omega
      have hcl : (clrs R P c off k).length = R.length := clrs_len (by omega)
      have HX := hid (HRW.out.at hokl)
      have hxe := clrs_at (P := P) (c := c) (k := k) (by omega) hokl (.inr (Nat.le_refl _))
      have hpe := clrs_at (P := P) (c := c) (k := k) (off := off) (R := R) (by omega) hp (by omega)
      obtain ⟨bx, cx, ex, vx⟩ := HI.out.view hA.out (off + k) (by omega)
      obtain ⟨bp, cp, ep, vp⟩ := HI.out.view hA.out p (by omega)
      simp only [hxe] at ex vx
      simp only [hpe, HPP.out] at ep vp
      rw [hHp.out] at ep
      have hpl := HPl.out
      simp only [Option.some.injEq, Value.slice.injEq] at ep
      obtain ⟨rfl, -, rfl⟩ := ep
      rw [hpl] at vp
      have hok0 := HBB.out
      have hcs := clrs_succ (P := P) (c := c) hokl
      have hcg : (clrs R P c off k)[off + k]'(by omega) = R[off + k] := hxe
      have HCS := hid hcs
      have hself := @List.set_getElem_self _ (clrs R P c off k) (off + k) (by omega)
      rw [hxe] at hself
      have HSELF := hid hself
      have HOK0 := hid (fun (hn : ¬ clrOk P c R[off + k]) => show B = false from by
        cases hb : B with
        | false => rfl
        | true => exact absurd ((HBB.out.1 hb) k hokl hlt) hn)
      have HOK1 := hid (fun (hy : clrOk P c R[off + k]) => show ∀ j (hj : off + j < R.length), j < k + 1 → clrOk P c R[off + j] from fun j hj hjk => by
        rcases Nat.lt_or_eq_of_le (Nat.le_of_lt_succ hjk) with h | rfl
        · exact hK.out j hj h
        · exact hy)
      clear hok0 hcs hcg hself hxe hpe
      obtain ⟨X, hX⟩ : ∃ X, R[off + k] = X := ⟨_, rfl⟩
      simp only [hX] at ex vx HX HCS HSELF HOK0 HOK1
      obtain ⟨hxl, hxa⟩ := HX.out
      rw [hxl] at ex vx
      have hrow := HI.out.row hA.out
      have q0 := hrow.cells (g := G) rfl (off + k) _ ex
      rw [Go.WideShapes.add_plain, Nat.zero_add] at q0
      obtain ⟨gx, ox, sx, a3, n3, c3, b3, m3, d3, rfl, hgx, x0, x1, x2, RX⟩ := vx.elx hxa (by omega) (k := c) (by omega)
      obtain ⟨gp, op, sp, a4, n4, c4, b4, m4, d4, rfl, hgp, p0, p1, p2, RP⟩ := vp.elx HP.out.2 (by omega) (k := c) (by omega)
      have VX := hid vx
      have VP := hid vp
      have RXh := hid RX
      have RPh := hid RP
      have HPA := hid HP.out.2
      have hGs := hid (show G < wr.heap.size from (hrow.lt G rfl).2)
      have HEX := hid ex
      have hlo := hid (show lo ≤ wr.heap.size by have := hrow.lt G rfl; omega)
      have a1' : (0 : Int) ≤ k := by omega
      have a2 : (k : Int) < m := by omega
      have c1' : (0 : Int) ≤ c := by omega
      have c2' : (c : Int) < W := by omega
      have KS := hid (sign_o (w := wr) RX)
      clear vx vp hrow hX hpl ex hbel RX RP
      by_cases hx0 : el X c = 0
      · rw [sgn_zero hx0] at KS
        have HC := hid (clr_zero (P := P) hx0)
        have HOK := hid (HOK1.out (.inl hx0))
        clear hx0 p0 p1 p2
        go_wp2_with fail
        (with_reducible refine (KS.out).mono ?_)
        rintro e w2 ⟨rfl, hb⟩
        have HB2 := hid (HB.out.trans (hb.mono hlo.out))
        have HA2 := hid (HI.out.old hA.out hb)
        clear hb q0 x0 x1 x2
        go_wp2
        go_roundw
        case rel => exact ⟨k + 1, Hk, hik, by omega, by go_num, hid (by rw [HCS.out, HC.out, HSELF.out]; exact HA2.out), hHp, HOK, HB2.out⟩
        case measure => simp [intOf]; omega
      · obtain ⟨z, hz⟩ : ∃ z, sgnO (some (el X c)) = z := ⟨_, rfl⟩
        have hz0 : (z == 0) = false := beq_eq_false_iff_ne.2 (by rw [← hz]; exact sgn_nz hx0)
        rw [hz] at KS
        clear hz
        have HV := hid (clr_val HP.out.2 hxa (by rw [HPl.out, hxl]) (by omega) HP0.out hx0 (by omega))
        have hSX := hid (Sm_rv hxa (by omega))
        have hSP := hid (Sm_rv HP.out.2 (by rw [HPl.out]; omega))
        have hCl := hid (show (clr P c X).length = W by rw [clr_len (by rw [HPl.out, hxl]), hxl])
        have hSv := hid (Sm.of (K := vscale (rv P) (bq divF (some (el X c)) (some (el P c)))) (by have := vres_sz' (smO_fit (rv P) (bq divF (some (el X c)) (some (el P c)))); unfold vscale; omega))
        obtain ⟨KV, hKV⟩ : ∃ KV, KV = vscale (rv P) (bq divF (some (el X c)) (some (el P c))) := ⟨_, rfl⟩
        obtain ⟨KW, hKW⟩ : ∃ KW, KW = vzip subF (rv X) KV := ⟨_, rfl⟩
        have HKW := hid hKW
        have HKV := hid hKV
        clear hKW hKV hx0
        go_wp2_with fail
        (with_reducible refine (KS.out).mono ?_)
        rintro e w2 ⟨rfl, hb⟩
        have hbd := hid (Below_drew1 hb)
        have KD := hid (div_o (w := w2.drew) (RXh.out.old hbd.out) (RPh.out.old hbd.out))
        have VX2 := hid (VX.out.old hbd.out)
        have VP2 := hid (VP.out.old hbd.out)
        have HA2 := hid (HI.out.old hA.out hbd.out)
        have x0 := (hb.cell (p := ⟨gx, ox + c * 3, none⟩) hgx).trans x0
        have x1 := (hb.cell (p := ⟨gx, ox + c * 3 + 1, none⟩) hgx).trans x1
        have x2 := (hb.cell (p := ⟨gx, ox + c * 3 + 2, none⟩) hgx).trans x2
        have p0 := (hb.cell (p := ⟨gp, op + c * 3, none⟩) hgp).trans p0
        have p1 := (hb.cell (p := ⟨gp, op + c * 3 + 1, none⟩) hgp).trans p1
        have p2 := (hb.cell (p := ⟨gp, op + c * 3 + 2, none⟩) hgp).trans p2
        clear hb q0
        go_wp2_with fail
        go_region_law (first
          | (go_simp; go_at_call 165; (with_reducible refine (KD.out).mono ?_); rintro e w3 ⟨s5, a5, n5, c5, b5, m5, d5, rfl, hr, hb⟩
             have KVS := hid (impl_VecScale_w (c := cb) hSP.out w3 (VP2.out.old hb) hr.ra)
             rw [← HKV.out] at KVS
             have VX3 := hid (VX2.out.old hb)
             have HB3 := hid (hbd.out.trans (hb.mono hbd.out.size))
             have HA3 := hid (HI.out.old HA2.out hb)
             clear hr hb)
          | (go_simp; go_at_call 164; (with_reducible refine (KVS.out).mono ?_); rintro e w4 ⟨a6, n6, c6, rfl, hv, hb⟩
             have KVU := hid (impl_VecSub_w (c := cx) (d := c6) hSX.out (by rw [HKV.out]; exact hSv.out) w4 (VX3.out.old hb) hv.vw)
             rw [← HKW.out] at KVU
             have HB4 := hid (HB3.out.trans (hb.mono HB3.out.size))
             have HA4 := hid (HI.out.old HA3.out hb)
             clear hv hb)
          | (go_simp; go_at_call 163; (with_reducible refine (KVU.out).mono ?_); rintro e w5 ⟨a7, n7, c7, rfl, hv, hb⟩
             have HB5 := hid (HB.out.trans ((HB4.out.trans (hb.mono HB4.out.size)).mono hlo.out))
             have HA5 := hid (HI.out.old HA4.out hb)
             have HV5 := hid hv
             have hz5 := hid hb.size
             have hrow5 := hid (HI.out.row HA5.out)
             have f0 := World.ownsRow.frozenAt hrow5.out (off + k)
             have q9 := hrow5.out.cells (g := G) rfl (off + k) _ HEX.out
             rw [Go.WideShapes.add_plain, Nat.zero_add] at q9
             clear hv hb))
        all_goals
          have hl5 := hid hrow5.out.1
          have HBN := hid (HB5.out.setCell (p := ⟨G, off + k, none⟩) (show lo ≤ G by have := hrow5.out.lt G rfl; omega) (.slice a7 n7 c7))
          have HR6 := hid ((World.ownsRow.stored hrow5.out (off + k) (.slice a7 n7 c7)).1)
          have HC6 := hid (show (w5.setCell ⟨G, off + k, none⟩ (.slice a7 n7 c7)).cell? ⟨G, off + k, none⟩ = some (.slice a7 n7 c7) by
            have hl := hl5.out
            have := HR6.out.cells (g := G) rfl (off + k) (.slice a7 n7 c7) (by rw [List.getElem?_set_self (by omega)])
            rwa [Go.WideShapes.add_plain, Nat.zero_add] at this)
          by_cases hok : clrOk P c X
          · have hvk := HV5.out
            rw [HKW.out, HKV.out, HV.out.1 hok] at hvk
            obtain rfl : n7 = W := by have := hvk.num; rw [rv_len, hCl.out] at this; exact this
            have HS := hid (HI.out.set HA5.out (k := off + k) (by omega) (by rw [hCl.out]; omega) hvk (Nat.le_trans (HI.out.le hA.out) HB4.out.size) hz5.out (Nat.le_refl _))
            have HOK := hid (HOK1.out hok)
            have HPp := hid (show (Hk.set (off + k) (.slice a7 n7 c7))[p]? = some (.slice (some ⟨gp, op, none⟩) n7 cb) by rw [List.getElem?_set_ne (by omega)]; exact hHp.out)
            have hW0 : ((n7 : Int) == 0) = false := beq_eq_false_iff_ne.2 (by omega)
            clear hvk hok
            go_wp2
            go_roundw
            case rel => exact ⟨k + 1, _, _, by omega, by go_num, hid (by rw [HCS.out]; exact HS.out), HPp, HOK, HBN.out⟩
            case measure => simp [intOf]; omega
          · have hvk := HV5.out
            rw [HKW.out, HKV.out, HV.out.2 hok] at hvk
            obtain rfl : n7 = 0 := hvk.num
            have hBf := hid (HOK0.out hok)
            clear hvk hok
            go_wp2
            go_ret
            refine ⟨bool_ret hBf.out.symm, HBN.out, ?_, fun h => by rw [hBf.out] at h; cases h⟩
            have := HR6.out.cells (g := G) rfl p _ (by rw [List.getElem?_set_ne (by omega)]; exact hHp.out)
            rwa [Go.WideShapes.add_plain, Nat.zero_add] at this
    · obtain rfl : k = m := by omega
      have HT := hid (show B = true from HBB.out.2 fun j hj hjm => hK.out j hj hjm)
      clear hbel
      go_wp2
      go_ret
      refine ⟨bool_ret HT.out.symm, HB.out, ?_, fun _ => ⟨Hk, hik, hA.out, hHp.out⟩⟩
      have := (HI.out.row hA.out).cells (g := G) rfl p _ hHp.out
      rwa [Go.WideShapes.add_plain, Nat.zero_add] at this
end Go.Proofs.YthkehmnodcmlcaaGreat
namespace Go.Proofs.YthkehmnodcmlcaaGreat
open Go.RowKit
open Go.Lib (hid)
theorem own_setRow {w : World} {G n cap lo : Nat} {H H' : List Value} {cur arr : Array Value} (h : w.ownsRow lo 41 1 (.slice (some ⟨G, 0, none⟩) n cap) n H) (hc : w.heap[G]? = some (.cells cur 41 (0, 0))) (hs : arr.size = cur.size) (ht : arr.toList.take n = H') (hl : H'.length = n) :
  (w.setRow G arr).ownsRow lo 41 1 (.slice (some ⟨G, 0, none⟩) n cap) n H' := by
 rcases h.2 with ⟨h1, -⟩ | ⟨g', cap', cur', h1, h2, h3, h4, h5, h6, h7⟩
 ·cases h1
 ·simp only [Value.slice.injEq, Option.some.injEq, Addr.mk.injEq, and_true, true_and] at h1
  obtain ⟨rfl, rfl⟩ := h1
  rw [hc] at h3
  simp only [Option.some.injEq, Go.Obj.cells.injEq, and_true] at h3
  subst h3
  exact ⟨by omega, .inr ⟨G, cap, arr, rfl, h2, setRow_heap _ _ _ _ _ _ hc, h4, h5, by rw [hs]; exact h6, by rw [Nat.mul_one]; exact ht⟩⟩
theorem own_cur {w : World} {G n cap lo : Nat} {H : List Value} (h : w.ownsRow lo 41 1 (.slice (some ⟨G, 0, none⟩) n cap) n H) : ∃ cur : Array Value, w.heap[G]? = some (.cells cur 41 (0, 0)) ∧ n ≤ cur.size ∧ cur.toList.take n = H ∧ n ≤ cap := by
 rcases h.2 with ⟨h1, -⟩ | ⟨g', cap', cur', h1, h2, h3, h4, h5, h6, h7⟩
 ·cases h1
 ·simp only [Value.slice.injEq, Option.some.injEq, Addr.mk.injEq, and_true, true_and] at h1
  obtain ⟨rfl, rfl⟩ := h1
  exact ⟨cur', h3, by omega, by rw [Nat.mul_one] at h7; exact h7, h4⟩
end Go.Proofs.YthkehmnodcmlcaaGreat
namespace Go.Proofs.YthkehmnodcmlcaaGreat
open Go.RowKit
open Go.Lib (hid)
theorem moveToFront_any {G n cap lo off m i cR : Nat} {I : World → List Value → List (List Rat) → Nat → Prop} (hI : RI G n cap lo I) {hi : Nat} {R : List (List Rat)} {H : List Value} (hom : off + m = n) (him : i < m) (hn : n ≤ 40) (hcR : m ≤ cR) (w : World) (h : I w H R hi) :
  Calls Tryz.prog 113 #[.slice (some ⟨G, off, none⟩) m cR, .int .i64 (i : Int)] w (fun e w' => ∃ v, e = .returned v ∧ I w' (mvf H off (off + i)) (mvf R off (off + i)) hi ∧ Below lo w w') := by
 have HI := hid hI
 have HH := hid h
 have hrow := hI.row h
 have hRl := hI.len h
 have hHl : H.length = n := by have := hrow.1; omega
 have hlG := hrow.lt G rfl
 obtain ⟨b, c, e, -⟩ := hI.view h (off + i) (by omega)
 generalize (R[off + i]'(by omega)).length = lx at e
 have q0 := hrow.cells (g := G) rfl (off + i) _ e
 rw [Go.WideShapes.add_plain, Nat.zero_add] at q0
 obtain ⟨cur, hcur, hcn, hct, hnc⟩ := own_cur hrow
 have hcs : ∀ j v, ((H.drop off).take i)[j]? = some v → w.cell? (Addr.add ⟨G, off, none⟩ j) = some v := fun j v hj => by
  have hji : j < i := by
   have := (List.getElem?_eq_some_iff.1 hj).1
   simp at this; omega
  rw [List.getElem?_take_of_lt hji, List.getElem?_drop] at hj
  have := hrow.cells (g := G) rfl (off + j) v hj
  rw [Go.WideShapes.add_plain] at this ⊢
  rwa [Nat.zero_add] at this
 have hone : ∀ v ∈ (H.drop off).take i, v.oneCell' = true := fun v hv' => by
  obtain ⟨j, hj, rfl⟩ := List.getElem_of_mem (List.mem_of_mem_drop (List.mem_of_mem_take hv'))
  obtain ⟨b', c', e', -⟩ := hI.view h j (by omega)
  rw [List.getElem?_eq_getElem hj] at e'
  rw [Option.some.inj e']; rfl
 have hlen : ((H.drop off).take i).length = i := by simp; omega
 have key : ∃ w1, (Builtin.copy_ #[72, 72] 3 #[.slice (if cR = 1 then some ⟨G, off, none⟩ else some ⟨G, off + 1, none⟩) (m - 1) (cR - 1), .slice (some ⟨G, off, none⟩) i cR]).run Tryz.prog w.drew = .ok (.int .i64 (i : Int)) w1 ∧
   w1.ownsRow lo 41 1 (.slice (some ⟨G, 0, none⟩) n cap) n (sft H off i) ∧ w1.heap.size = w.heap.size ∧ (∀ k, k ≠ G → w1.heap[k]? = w.heap[k]?) ∧ Below lo w w1 := by
  have hsz1 : (Tryz.prog.info? 41).map (·.size) = some 1 := by obtain ⟨i0, hi0, -, h1, -⟩ := info_parts infoRow; rw [hi0]; simp [h1]
  by_cases hc1 : cR = 1
  ·have hi0 : i = 0 := by omega
   subst hi0
   rw [if_pos hc1]
   refine ⟨w.drew, ?_, by rw [sft_zero]; exact hrow, rfl, fun _ _ => rfl, Below_drew1 (Below.refl _ _)⟩
   exact run_copy_no (P := Tryz.prog) w.drew 72 72 3 41 _ _ _ _ _ _ 1 Tryz.underlying72 hsz1 (Nat.zero_min _)
  ·rw [if_neg hc1]
   have hcp := run_copy_rk (P := Tryz.prog) w.drew 72 72 3 41 G (off + 1) (m - 1) (cR - 1) ⟨G, off, none⟩ i cR cur 41 ((H.drop off).take i) 1 i Tryz.underlying72
    hsz1 hcur (by show min i (m - 1) = i; omega) (by rw [hlen]; omega) hcs (by rw [hlen]; omega) hone
   rw [hlen] at hcp
   obtain ⟨arr, harr⟩ : ∃ arr, arr = (cur.toList.take (off + 1) ++ (H.drop off).take i ++ cur.toList.drop (off + 1 + i)).toArray := ⟨_, rfl⟩
   rw [← harr] at hcp
   have hsz : arr.size = cur.size := by
    rw [harr]
    simp only [List.size_toArray, List.length_append, List.length_take, List.length_drop, Array.length_toList]
    omega
   have htk : arr.toList.take n = sft H off i := by
    rw [harr]
    have e1 : cur.toList = H ++ cur.toList.drop n := by conv => lhs; rw [← List.take_append_drop n cur.toList, hct]
    have e2 : cur.toList.take (off + 1) = H.take (off + 1) := by rw [e1, List.take_append_of_le_length (by omega)]
    have e3 : cur.toList.drop (off + 1 + i) = H.drop (off + 1 + i) ++ cur.toList.drop n := by
     conv => lhs; rw [e1]
     rw [List.drop_append_of_le_length (by omega)]
    rw [e2, e3, ← List.append_assoc]
    exact List.take_left' (by simp; omega)
   have hsl : (sft H off i).length = n := by simp [sft]; omega
   exact ⟨_, hcp, own_setRow (w := w.drew) hrow hcur hsz htk hsl, by simp, fun k hk => setRow_other w.drew _ _ _ hk, below_setRow (Below_drew1 (Below.refl _ _)) hlG.1 _⟩
 obtain ⟨w1, hcp, hr1, hs1, ho1, hb1⟩ := key
 have f0 := World.ownsRow.frozenAt hr1 off
 obtain ⟨vo, q8⟩ : ∃ vo, w1.cell? ⟨G, off, none⟩ = some vo := by
  have := hr1.cells (g := G) rfl off _ (List.getElem?_eq_getElem (by rw [sft_len (by omega)]; omega))
  rw [Go.WideShapes.add_plain, Nat.zero_add] at this
  exact ⟨_, this⟩
 have hr2 := (World.ownsRow.stored hr1 off (.slice b lx c)).1
 have hH : H[off + i]'(by omega) = .slice b lx c := by
  rw [List.getElem?_eq_getElem (by omega)] at e
  exact Option.some.inj e
 rw [← hH, sft_set (by omega), hH] at hr2
 have HM := hid (hI.mv h (Nat.le_add_right off i) (by omega) (w' := w1.setCell ⟨G, off, none⟩ (.slice b lx c)) (by simp [size_set, hs1]) (fun k hk => (setCell_other w1 G off _ k hk).trans (ho1 k hk)) hr2)
 have HB := hid (show Below lo w (w1.setCell ⟨G, off, none⟩ (.slice b lx c)) from hb1.setCell (p := ⟨G, off, none⟩) hlG.1 _)
 have a1 : (0 : Int) ≤ i := by omega
 have a2 : (i : Int) < m := by omega
 have a3 : (i : Int) ≤ cR := by omega
 have a4 : (1 : Int) ≤ m := by omega
 have a5 : (1 : Int) ≤ cR := by omega
 clear hI h hrow e hct hcs hone hlen hr1 hs1 ho1 hb1 hr2 hH hRl hHl hcn hcur
 go_enter Tryz.func113, Tryz.ntmps113
 go_wp2
 go_region_law (fail)
 all_goals
  go_wp2
  all_goals
   (try simp only [Exit.inBlock, Exit.then])
   refine bodyPost_end (results_none rfl _ _ _) rfl ?_
   first | exact ⟨_, rfl, HM.out, HB.out⟩ | exact ⟨⟨_, rfl⟩, HM.out, HB.out⟩
end Go.Proofs.YthkehmnodcmlcaaGreat
