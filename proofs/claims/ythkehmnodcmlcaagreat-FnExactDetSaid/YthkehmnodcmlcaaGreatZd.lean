import Derived.Test.YthkehmnodcmlcaaGreatZdp
import Derived.Deep.AppendLies
import Derived.Lib.BufferMore
import Derived.Deep.Slices
import Derived.Deep.Onto
import Derived.Deep.Upon
import Derived.Deep.RegionHeld3
import Derived.Deep.DeepCutAuto
import Derived.Deep.LoopGhost
set_option maxRecDepth 100000
set_option maxHeartbeats 51200000
set_option linter.unusedVariables false
set_option linter.unusedSimpArgs false
namespace Go.Proofs.YthkehmnodcmlcaaGreat
open Go.RowKit
open Go.Lib (hid)
def IDN (N G n cap lo : Nat) (w : World) (H : List Value) (R : List (List Rat)) (hi : Nat) : Prop :=
 w.ownsRow lo 41 1 (.slice (some ⟨G, 0, none⟩) n cap) n H ∧ R.length = n ∧ (hi ≤ w.heap.size ∧ N < hi) ∧ ∀ k (hk : k < R.length), ∃ b c, H[k]? = some (.slice b R[k].length c) ∧ (VW w b R[k].length (rv R[k]) 0 lo ∨ ∃ l h, VK true w (.slice b R[k].length c) (rv R[k]) l h ∧ h ≤ w.heap.size ∧ N < l)
theorem RI_IDN (N G n cap lo : Nat) : RI G n cap lo (IDN N G n cap lo) where
 row := fun h => h.1
 len := fun h => h.2.1
 le := fun h => h.2.2.1.1
 view := fun {w H R hi} ⟨h1, h2, h3, h4⟩ k hk => by
  obtain ⟨b, c, e, hv⟩ := h4 k hk
  refine ⟨b, c, e, ?_⟩
  rcases hv with hv | ⟨l, t, hv, ht, -⟩
  ·exact hv.wide (Nat.le_refl _) (by have := h1.lt G rfl; omega)
  ·exact hv.vw.wide (Nat.zero_le _) ht
 old := fun {w w' H R hi} ⟨h1, h2, h3, h4⟩ hb => ⟨own_block h1 fun k hk => hb.block k (h1.lt k hk).2, h2, ⟨Nat.le_trans h3.1 hb.size, h3.2⟩, fun k hk => by
  obtain ⟨b, c, e, hv⟩ := h4 k hk
  refine ⟨b, c, e, ?_⟩
  rcases hv with hv | ⟨l, t, hv, ht, hn⟩
  ·exact .inl (hv.old hb)
  ·exact .inr ⟨l, t, hv.old hb, Nat.le_trans ht hb.size, hn⟩⟩
 set := fun {w H R hi k v X l t} ⟨h1, h2, h3, h4⟩ hk h0 hv hl hlt ht => by
  have ho := setCell_other w G k v
  have hG := (h1.lt G rfl).1
  have hsz : (w.setCell ⟨G, k, none⟩ v).heap.size = w.heap.size := by simp
  have hH : H.length = n := by have := h1.1; omega
  refine ⟨(World.ownsRow.stored h1 k v).1, by rw [List.length_set]; exact h2, ⟨by rw [hsz]; exact ht, by omega⟩, fun j hj => ?_⟩
  rw [List.length_set] at hj
  simp only [List.getElem_set, List.getElem?_set]
  by_cases e : k = j
  ·subst e
   obtain ⟨b, c, rfl⟩ := hv.form
   rw [rv_len] at hv ho hsz ⊢
   refine ⟨b, c, by simp; omega, ?_⟩
   simp only [if_true]
   exact .inr ⟨l, t, hv.keepG h1 ho, by rw [hsz]; exact ht, by omega⟩
  ·obtain ⟨b, c, e1, hv'⟩ := h4 j hj
   simp only [e, if_false]
   refine ⟨b, c, e1, ?_⟩
   rcases hv' with hv' | ⟨l', t', hv', ht', hn'⟩
   ·exact .inl (VW.keepG (a := 0) (hi := 0) hv' hG hsz ho)
   ·exact .inr ⟨l', t', hv'.keepG h1 ho, by rw [hsz]; exact ht', hn'⟩
 mv := fun {w w' H R hi d i} ⟨h1, h2, h3, h4⟩ hd hi' hs ho hr => by
  have hG := (h1.lt G rfl).1
  have hH : H.length = n := by have := h1.1; omega
  refine ⟨hr, by rw [mvf_len hd (by omega)]; exact h2, ⟨by rw [hs]; exact h3.1, h3.2⟩, fun k hk => ?_⟩
  have hk' : k < R.length := by rw [mvf_len hd (by omega)] at hk; exact hk
  have key : ∃ j, ∃ hj : j < R.length, (mvf R d i)[k] = R[j] ∧ (mvf H d i)[k]? = H[j]? := by
   have hg : (mvf H d i)[k]? = some ((mvf H d i)[k]'(by rw [mvf_len hd (by omega)]; omega)) := List.getElem?_eq_getElem _
   rw [hg, mvf_get hd (by omega) (by omega), mvf_get hd (by omega) (by omega)]
   by_cases c1 : k < d
   ·exact ⟨k, by omega, by rw [if_pos c1], by rw [if_pos c1, List.getElem?_eq_getElem]⟩
   ·rw [if_neg c1, if_neg c1]
    by_cases c2 : k = d
    ·exact ⟨i, by omega, by rw [if_pos c2], by rw [if_pos c2, List.getElem?_eq_getElem]⟩
    ·rw [if_neg c2, if_neg c2]
     by_cases c3 : k ≤ i
     ·exact ⟨k - 1, by omega, by rw [dif_pos c3], by rw [dif_pos c3, List.getElem?_eq_getElem]⟩
     ·exact ⟨k, by omega, by rw [dif_neg c3], by rw [dif_neg c3, List.getElem?_eq_getElem]⟩
  obtain ⟨j, hj, e1, e2⟩ := key
  rw [e1, e2]
  obtain ⟨b, c, e, hv⟩ := h4 j hj
  refine ⟨b, c, e, ?_⟩
  rcases hv with hv | ⟨l, t, hv, ht, hn⟩
  ·exact .inl (VW.keepG (a := 0) (hi := 0) hv hG hs ho)
  ·exact .inr ⟨l, t, hv.keepG h1 ho, by rw [hs]; exact ht, hn⟩
def IS (N : Nat) (s : Bool) (v u : Value) (o : Option Rat) (G n cap lo : Nat) (w : World) (H : List Value) (R : List (List Rat)) (hi : Nat) : Prop :=
 IDN N G n cap lo w H R hi ∧ (N ≠ G ∧ lo ≤ N) ∧ LocA 37 w N #[.bool s, v, u] ∧ RO true w lo s v u o
theorem RO.keepK {w w' : World} {G m c lo' n lo : Nat} {xs : List Value} {s : Bool} {v u : Value} {o : Option Rat} (h : RO true w lo s v u o) (hr : w.ownsRow lo' 41 1 (.slice (some ⟨G, 0, none⟩) m c) n xs) (hb : ∀ k, k ≠ G → w'.heap[k]? = w.heap[k]?) : RO true w' lo s v u o :=
 ⟨h.sg, Ints_keepK hr hb h.i, Ints_keepK hr hb h.j, h.nd, h.ft⟩
theorem RI_IS (N : Nat) (s : Bool) (v u : Value) (o : Option Rat) (G n cap lo : Nat) : RI G n cap lo (IS N s v u o G n cap lo) where
 row := fun h => (RI_IDN N G n cap lo).row h.1
 len := fun h => (RI_IDN N G n cap lo).len h.1
 le := fun h => (RI_IDN N G n cap lo).le h.1
 view := fun h => (RI_IDN N G n cap lo).view h.1
 old := fun h hb => ⟨(RI_IDN N G n cap lo).old h.1 hb, h.2.1, h.2.2.1.old hb, h.2.2.2.old hb⟩
 set := fun h hk h0 hv hl hlt ht => ⟨(RI_IDN N G n cap lo).set h.1 hk h0 hv hl hlt ht, h.2.1, (setCell_other _ G _ _ N h.2.1.1).trans h.2.2.1, h.2.2.2.keepK ((RI_IDN N G n cap lo).row h.1) (setCell_other _ G _ _)⟩
 mv := fun h hd hi hs ho hr => ⟨(RI_IDN N G n cap lo).mv h.1 hd hi hs ho hr, h.2.1, (ho N h.2.1.1).trans h.2.2.1, h.2.2.2.keepK ((RI_IDN N G n cap lo).row h.1) ho⟩
theorem IDN.setN {N G n cap lo hi : Nat} {w w' : World} {H : List Value} {R : List (List Rat)} (h : IDN N G n cap lo w H R hi) (hG : N ≠ G) (hN : lo ≤ N) (hs : w'.heap.size = w.heap.size) (hb : ∀ k, k ≠ N → w'.heap[k]? = w.heap[k]?) : IDN N G n cap lo w' H R hi := by
 obtain ⟨h1, h2, h3, h4⟩ := h
 refine ⟨own_block h1 fun k hk => hb k fun e => hG (by simp [Value.ownBlock] at hk; omega), h2, ⟨by rw [hs]; exact h3.1, h3.2⟩, fun k hk => ?_⟩
 obtain ⟨b, c, e, hv⟩ := h4 k hk
 refine ⟨b, c, e, ?_⟩
 rcases hv with hv | ⟨l, t, hv, ht, hn⟩
 ·exact .inl (VW.keepG (a := 0) (hi := 0) hv hN hs hb)
 ·exact .inr ⟨l, t, hv.block fun k k1 _ _ => hb k (by omega), by rw [hs]; exact ht, hn⟩
theorem IS.put {N G n cap lo hi : Nat} {s s' : Bool} {v u : Value} {a' b' : Option Addr} {n' c' m' d' : Nat} {o o' : Option Rat} {w : World} {H : List Value} {R : List (List Rat)} (h : IS N s v u o G n cap lo w H R hi) (hr : RO true w lo s' (.slice a' n' c') (.slice b' m' d') o') :
  IS N s' (.slice a' n' c') (.slice b' m' d') o' G n cap lo (((w.setCell ⟨N, 0, none⟩ (.bool s')).setCell ⟨N, 1, none⟩ (.slice a' n' c')).setCell ⟨N, 2, none⟩ (.slice b' m' d')) H R hi := by
 obtain ⟨h1, h2, h3, h4⟩ := h
 refine ⟨h1.setN h2.1 h2.2 (by simp) fun k hk => ?_, h2, ((h3.set (i := 0) (x := .bool s')).set (i := 1) (x := .slice a' n' c')).set (i := 2) (x := .slice b' m' d'), ((hr.set h3 (by decide) (i := 0) (y := .bool s')).set (h3.set (i := 0) (x := .bool s')) (by decide) (i := 1) (y := .slice a' n' c')).set ((h3.set (i := 0) (x := .bool s')).set (i := 1) (x := .slice a' n' c')) (by decide) (i := 2) (y := .slice b' m' d')⟩
 rw [setCell_other _ N _ _ k hk, setCell_other _ N _ _ k hk, setCell_other _ N _ _ k hk]
theorem RI.mw {G n cap lo hi : Nat} {I : World → List Value → List (List Rat) → Nat → Prop} (hI : RI G n cap lo I) {w : World} {H : List Value} {R : List (List Rat)} (h : I w H R hi) : MW w (some ⟨G, 0, none⟩) n (R.map rv) 0 w.heap.size := by
 have hr := hI.row h
 have hl := hI.len h
 have hG := hr.lt G rfl
 refine ⟨by rw [List.length_map]; omega, fun h0 => ⟨G, 0, rfl, Nat.zero_le _, hG.2, hG.2, fun i hi => ?_⟩⟩
 rw [List.length_map] at hi
 obtain ⟨b, c, e, hv⟩ := hI.view h i hi
 have q := hr.cells (g := G) rfl i _ e
 rw [Go.WideShapes.add_plain] at q
 refine ⟨b, c, ?_, ?_⟩
 ·rw [List.getElem_map, rv_len]; exact q
 ·rw [List.getElem_map, rv_len]; exact hv
theorem clrs_dfin {R : List (List Rat)} {d m : Nat} (hd : d < R.length) (hm : d + 1 + m = R.length) : clrs R R[d] d (d + 1) m = dfin R d := by
 apply List.ext_getElem
 ·rw [clrs_len (by omega), dfin_len]
 ·intro j h1 h2
  rw [dfin_len] at h2
  rw [dfin_at hd h2]
  by_cases e : j ≤ d
  ·rw [if_pos e, clrs_at (by omega) h2 (.inl (by omega))]
  ·rw [if_neg e, clrs_in (by omega) h2 (by omega) (by omega)]
def prodG (o : Option Rat) (S : List (List Rat)) : Nat → Option Rat
 | 0 => o
 | k + 1 => bq mulF (prodG o S k) (some (el (S.getD k []) k))
theorem prodG_K (S : List (List Rat)) (s : Bool) : ∀ k, prodG (some (sgR s)) S k = prodK S s k
 | 0 => rfl
 | k + 1 => by rw [prodG, prodK, prodG_K S s k]
def DiagR (l0 : Nat) (o : Option Rat) (w : World) (e : Ending) (w' : World) : Prop := ∃ s a n c b m d, e = .returned (.agg #[.bool s, .slice a n c, .slice b m d]) ∧ RO true w' l0 s (.slice a n c) (.slice b m d) o ∧ Below w.heap.size w w'
theorem diag_any {a : Option Addr} {n c lo hi l0 W : Nat} {S : List (List Rat)} {s : Bool} {a0 : Option Addr} {n0 c0 : Nat} {b0 : Option Addr} {m0 d0 : Nat} {o : Option Rat} (hR : Rows W S) (hW : W ≤ 40) (hn : S.length ≤ W) (w : World) (h : MW w a n (S.map rv) lo hi)
  (hr : RO true w l0 s (.slice a0 n0 c0) (.slice b0 m0 d0) o) (hl0 : l0 ≤ w.heap.size) :
  Calls Tryz.prog 116 #[.slice a n c, .agg #[.bool s, .slice a0 n0 c0, .slice b0 m0 d0]] w (DiagR l0 (prodG o S S.length) w) := by
 obtain ⟨N, hN⟩ : ∃ N, S.length = N := ⟨_, rfl⟩
 have hnum := h.num
 rw [List.length_map, hN] at hnum
 subst hnum
 rw [hN] at hn ⊢
 have HN := hid hN
 have HV := hid h
 have HRW := hid hR
 have BW := hid (show Below w.heap.size w (((w.alloc (.cells #[.bool s, .slice a0 n0 c0, .slice b0 m0 d0] 37)).alloc (.cells #[.bool false, .slice none 0 0, .slice none 0 0] 37)).alloc (.cells #[.bool s, .slice a0 n0 c0, .slice b0 m0 d0] 37)) from (((Below.refl _ _).alloc (Nat.le_refl _) _).alloc (by simp) _).alloc (by simp; omega) _)
 have HR0 := hid (hr.old BW.out)
 have L8 := hid ((LocA.at (T := 37) (w := w.alloc (.cells #[.bool s, .slice a0 n0 c0, .slice b0 m0 d0] 37)) (b := w.heap.size + 1) (cs := #[.bool false, .slice none 0 0, .slice none 0 0]) (by simp)).new1 (o := .cells #[.bool s, .slice a0 n0 c0, .slice b0 m0 d0] 37))
 have L6 := hid (LocA.at (T := 37) (w := (w.alloc (.cells #[.bool s, .slice a0 n0 c0, .slice b0 m0 d0] 37)).alloc (.cells #[.bool false, .slice none 0 0, .slice none 0 0] 37)) (b := w.heap.size + 2) (cs := #[.bool s, .slice a0 n0 c0, .slice b0 m0 d0]) (by simp))
 have HS := hid (show (((w.alloc (.cells #[.bool s, .slice a0 n0 c0, .slice b0 m0 d0] 37)).alloc (.cells #[.bool false, .slice none 0 0, .slice none 0 0] 37)).alloc (.cells #[.bool s, .slice a0 n0 c0, .slice b0 m0 d0] 37)).heap.size = w.heap.size + 3 by simp)
 clear h hr hR hN
 go_enter Tryz.func116, Tryz.ntmps116
 go_wp2
 generalize ((w.alloc (.cells #[.bool s, .slice a0 n0 c0, .slice b0 m0 d0] 37)).alloc (.cells #[.bool false, .slice none 0 0, .slice none 0 0] 37)).alloc (.cells #[.bool s, .slice a0 n0 c0, .slice b0 m0 d0] 37) = WW at BW HR0 L6 L8 HS ⊢
 go_loopw [11] (fun i wr => ∃ (k : Nat) (sa : Bool) (aa : Option Addr) (na ca : Nat) (ba : Option Addr) (ma da : Nat), k ≤ n ∧ i = .int .i64 k ∧ Hid (LocA 37 wr (w.heap.size + 2) #[.bool sa, .slice aa na ca, .slice ba ma da]) ∧ Hid (LocA 37 wr (w.heap.size + 1) #[.bool false, .slice none 0 0, .slice none 0 0]) ∧ Hid (RO true wr l0 sa (.slice aa na ca) (.slice ba ma da) (prodG o S k)) ∧ Hid (Below w.heap.size w wr) ∧ Hid (w.heap.size + 3 ≤ wr.heap.size)) (fun i _ => n - (intOf i).toNat)
 case atStart => exact ⟨0, s, a0, n0, c0, b0, m0, d0, Nat.zero_le _, rfl, L6, L8, HR0, BW, hid (by rw [HS.out]; exact Nat.le_refl _)⟩
 case round =>
  obtain ⟨k, sa, aa, na, ca, ba, ma, da, hk, rfl, hL6, hL8, hR, HB, HZ2⟩ := hrel
  by_cases hlt : k < n
  ·have hSk : k < S.length := by have := HN.out; omega
   obtain ⟨hql, hqa⟩ := HRW.out.at hSk
   obtain ⟨g1, p1, b1, c1, rfl, hg1, q0, vx⟩ := (HV.out.old HB.out).at (k := k) (by rw [List.length_map]; exact hSk)
   simp only [List.getElem_map, rv_len, hql] at q0 vx
   obtain ⟨gx, ox, sx, a3, n3, c3, b3, m3, d3, rfl, hgx, x0, x1, x2, RX⟩ := vx.elx hqa (by omega) (k := k) (by omega)
   have HDK := hid (show prodG o S (k + 1) = bq mulF (prodG o S k) (some (el S[k] k)) by rw [prodG]; simp [hSk])
   have RXD := hid (RX.old (Below_drew1 (Below.refl _ _)))
   have KF := hid (mul_o (w := wr.drew) (hR.out.ra.old (Below_drew1 (Below.refl _ _))) RXD.out)
   rw [← HDK.out] at KF
   have L6D := hid (hL6.out.old (Below_drew1 (Below.refl _ _)))
   have L8D := hid (hL8.out.old (Below_drew1 (Below.refl _ _)))
   have HBD := hid (Below_drew1 HB.out)
   have HZD := hid (show w.heap.size + 3 ≤ wr.drew.heap.size from HZ2.out)
   have y0 := hL6.out.c 0 (v := .bool sa) rfl
   have y1 := hL6.out.c 1 (v := .slice aa na ca) rfl
   have y2 := hL6.out.c 2 (v := .slice ba ma da) rfl
   obtain ⟨on, hon⟩ : ∃ on, on = prodG o S (k + 1) := ⟨_, rfl⟩
   rw [← hon] at KF
   have HON := hid hon
   have k0 : (0 : Int) ≤ k := by omega
   have k1 : (k : Int) < n := by omega
   have kW : (k : Int) < W := by omega
   clear hon RX vx hql hqa
   go_wp2_with fail
   go_still_tail 5, (by kernel_rfl)
   change wpList _ _ _ _ _ wr.drew
   clear x0 x1 x2 y0 y1 y2 q0
   generalize wr.drew = wd at KF L6D L8D HBD HZD RXD ⊢
   go_wp2_with fail
   (with_reducible refine (KF.out).mono ?_)
   rintro e w2 ⟨s4, a4, n4, c4, b4, m4, d4, rfl, hr, hb⟩
   have L6E := hid (L6D.out.old hb)
   have L8E := hid (L8D.out.old hb)
   have HBE := hid (HBD.out.trans (hb.mono HBD.out.size))
   have y0 := L6E.out.c 0 (v := .bool sa) rfl
   have y1 := L6E.out.c 1 (v := .slice aa na ca) rfl
   have y2 := L6E.out.c 2 (v := .slice ba ma da) rfl
   have f0 := L6E.out.f 0
   have f1 := L6E.out.f 1
   have f2 := L6E.out.f 2
   have hlw := HZD.out
   have hz2 := hb.size
   have hbd := HBD.out.size
   have LN := hid (((L6E.out.set (i := 0) (x := .bool s4)).set (i := 1) (x := .slice a4 n4 c4)).set (i := 2) (x := .slice b4 m4 d4))
   have L8N := hid (((L8E.out.setne (N := w.heap.size + 2) (i := 0) (x := .bool s4) (by omega)).setne (N := w.heap.size + 2) (i := 1) (x := .slice a4 n4 c4) (by omega)).setne (N := w.heap.size + 2) (i := 2) (x := .slice b4 m4 d4) (by omega))
   have RN := hid ((((hr.base (show l0 ≤ wd.heap.size by omega)).set L6E.out (by decide) (i := 0) (y := .bool s4)).set (L6E.out.set (i := 0) (x := .bool s4)) (by decide) (i := 1) (y := .slice a4 n4 c4)).set ((L6E.out.set (i := 0) (x := .bool s4)).set (i := 1) (x := .slice a4 n4 c4)) (by decide) (i := 2) (y := .slice b4 m4 d4))
   have HBN := hid (((HBE.out.setCell (p := ⟨w.heap.size + 2, 0, none⟩) (by simp) (.bool s4)).setCell (p := ⟨w.heap.size + 2, 1, none⟩) (by simp) (.slice a4 n4 c4)).setCell (p := ⟨w.heap.size + 2, 2, none⟩) (by simp) (.slice b4 m4 d4))
   have HZN := hid (show w.heap.size + 3 ≤ (((w2.setCell ⟨w.heap.size + 2, 0, none⟩ (.bool s4)).setCell ⟨w.heap.size + 2, 1, none⟩ (.slice a4 n4 c4)).setCell ⟨w.heap.size + 2, 2, none⟩ (.slice b4 m4 d4)).heap.size by simp only [size_set]; omega)
   clear hr hb hlw hbd
   go_wp2
   go_roundw
   case rel => exact ⟨k + 1, s4, a4, n4, c4, b4, m4, d4, by omega, by go_num, LN, L8N, hid (by rw [← HON.out]; exact RN.out), HBN, HZN⟩
   case measure => simp [intOf]; omega
  ·obtain rfl : k = n := by omega
   have x0 := hL6.out.c 0 (v := .bool sa) rfl
   have x1 := hL6.out.c 1 (v := .slice aa na ca) rfl
   have x2 := hL6.out.c 2 (v := .slice ba ma da) rfl
   have f0 := hL8.out.f 0
   have f1 := hL8.out.f 1
   have f2 := hL8.out.f 2
   have p0 := hL8.out.c 0 rfl
   have p1 := hL8.out.c 1 rfl
   have p2 := hL8.out.c 2 rfl
   have RN := hid (((hR.out.set hL8.out (by decide) (i := 0) (y := .bool sa)).set (hL8.out.set (i := 0) (x := .bool sa)) (by decide) (i := 1) (y := .slice aa na ca)).set ((hL8.out.set (i := 0) (x := .bool sa)).set (i := 1) (x := .slice aa na ca)) (by decide) (i := 2) (y := .slice ba ma da))
   have HBN := hid (((HB.out.setCell (p := ⟨w.heap.size + 1, 0, none⟩) (by simp) (.bool sa)).setCell (p := ⟨w.heap.size + 1, 1, none⟩) (by simp) (.slice aa na ca)).setCell (p := ⟨w.heap.size + 1, 2, none⟩) (by simp) (.slice ba ma da))
   have R := hid (show DiagR l0 (prodG o S k) w (.returned (.agg #[.bool sa, .slice aa na ca, .slice ba ma da])) _ from ⟨_, _, _, _, _, _, _, rfl, RN.out, HBN.out⟩)
   go_wp2
   exact bodyPost_ret (v := .agg #[.bool sa, .slice aa na ca, .slice ba ma da]) (by simp [results, Tryz.results116, go_sem, p0, p1, p2]) rfl R.out
theorem clone_rows {a : Option Addr} {n c lo hi : Nat} {XX : List (List Rat)} (hn : XX.length ≤ 40) (h0 : 0 < XX.length) (w : World) (h : MW w a n (XX.map rv) lo hi) :
  Calls Tryz.prog 112 #[.slice a n c] w (fun e w' => ∃ G cap H, e = .returned (.slice (some ⟨G, 0, none⟩) n cap) ∧ w'.ownsRow w.heap.size 41 1 (.slice (some ⟨G, 0, none⟩) n cap) n H ∧ (∀ k (hk : k < XX.length), ∃ b c, H[k]? = some (.slice b XX[k].length c) ∧ VW w' b XX[k].length (rv XX[k]) lo hi) ∧ Below w.heap.size w w') := by
 obtain ⟨i0, hi0, hz0, hz1, hz2⟩ := info_parts infoRow
 have hnum := h.num
 rw [List.length_map] at hnum
 subst hnum
 have each : ∀ k, k < XX.length → ∃ p : Option Addr × Nat, (∀ hk : k < XX.length, VW w p.1 XX[k].length (rv XX[k]) lo hi) ∧ ∃ g o, a = some ⟨g, o, none⟩ ∧ g < w.heap.size ∧ (∀ hk : k < XX.length, w.cell? ⟨g, o + k, none⟩ = some (.slice p.1 XX[k].length p.2)) := fun k hk => by
  obtain ⟨g, o, b, c, e, hg, q, v⟩ := h.at (k := k) (by rw [List.length_map]; exact hk)
  rw [List.getElem_map, rv_len] at q v
  exact ⟨(b, c), fun _ => v, g, o, e, hg, fun _ => q⟩
 obtain ⟨q, hq⟩ := Go.Deep.choose_lt each
 obtain ⟨g, o, rfl, hg, -⟩ := (hq 0 h0).2
 obtain ⟨E, hE⟩ : ∃ E : List Value, E = (List.range XX.length).map fun k => .slice (q k).1 (XX.getD k []).length (q k).2 := ⟨_, rfl⟩
 have hEl : E.length = XX.length := by rw [hE]; simp
 have hEa : ∀ k (hk : k < XX.length), E[k]? = some (.slice (q k).1 XX[k].length (q k).2) := fun k hk => by rw [hE]; simp [hk]
 have HC := hid (show ∀ j v, E[j]? = some v → w.cell? (Addr.add ⟨g, o, none⟩ j) = some v from fun j v hj => by
  have hj' : j < XX.length := by have := (List.getElem?_eq_some_iff.1 hj).1; omega
  obtain ⟨g', o', e, -, hc⟩ := (hq j hj').2
  simp only [Option.some.injEq, Addr.mk.injEq, and_true] at e
  obtain ⟨rfl, rfl⟩ := e
  rw [hEa j hj'] at hj
  rw [Go.WideShapes.add_plain, hc hj']
  exact hj)
 have HONE := hid (show ∀ v ∈ E, v.oneCell' = true from fun v hv => by
  obtain ⟨j, hj, rfl⟩ := List.getElem_of_mem hv
  have := hEa j (by omega)
  rw [List.getElem?_eq_getElem hj] at this
  rw [Option.some.inj this]; rfl)
 have HV := hid (fun k (hk : k < XX.length) => (hq k hk).1 hk)
 have HEA := hid hEa
 have HEL := hid hEl
 clear hq each hE h hEa hEl
 go_enter Tryz.func112, Tryz.ntmps112
 have E0 : ∀ W : World, (binOp .eql 72 (.slice (some ⟨g, o, none⟩) XX.length c) (.slice none 0 0)).run Tryz.prog W = .ok (.bool false) W := fun W => Go.Lib.run_eql_slice_some_nil W _ _ _ Tryz.underlying72
 have BA := hid (show Below w.heap.size w (w.alloc (.cells #[] 41)) from below_new' (o := .cells #[] 41))
 have HV0 := hid (show (w.alloc (.cells #[] 41)).ownsRow w.heap.size 41 1 (.slice (some ⟨w.heap.size, 0, none⟩) 0 0) 0 [] from ⟨rfl, .inr ⟨w.heap.size, 0, #[], rfl, Nat.le_refl _, heap_alloc_new w _, Nat.le_refl _, Nat.zero_le _, rfl, rfl⟩⟩)
 have HCA := hid (show ∀ j v, E[j]? = some v → (w.alloc (.cells #[] 41)).cell? (Addr.add ⟨g, o, none⟩ j) = some v from fun j v hj => by
  have := HC.out j v hj
  rw [Go.WideShapes.add_plain] at this ⊢
  exact (BA.out.cell (p := ⟨g, o + j, none⟩) hg).trans this)
 have hlw : w.heap.size ≤ (w.alloc (.cells #[] 41)).heap.size := BA.out.size
 go_wp2_with (at_builtin; refine wpList_append_lies _ rfl _ _ 72 rfl w.heap.size 41 i0 _ 1 24 Tryz.underlying72 hi0 hz0 hz1 hz2 rfl (by decide) _ 0 [] rfl HV0.out ⟨g, o, none⟩ XX.length c E rfl (by rw [HEL.out, Nat.mul_one]) HCA.out HONE.out h0 (by unfold maxLen; omega) (by omega) hlw _ rfl ?_)
 intro g' cap' w' hrow' hgr hat hlt
 have HB := hid (BA.out.trans ((Below.refl w.heap.size (w.alloc (.cells #[] 41))).grown hgr hlw fun k hk => (HV0.out.lt k hk).1))
 (try simp only [Nat.zero_add, List.nil_append, Nat.mul_one] at hrow')
 have R := hid (show ∃ G cap H, Ending.returned (.slice (some ⟨g', 0, none⟩) XX.length cap') = .returned (.slice (some ⟨G, 0, none⟩) XX.length cap) ∧ w'.ownsRow w.heap.size 41 1 (.slice (some ⟨G, 0, none⟩) XX.length cap) XX.length H ∧ (∀ k (hk : k < XX.length), ∃ b c, H[k]? = some (.slice b XX[k].length c) ∧ VW w' b XX[k].length (rv XX[k]) lo hi) ∧ Below w.heap.size w w' from
  ⟨g', cap', E, rfl, hrow', fun k hk => ⟨_, _, HEA.out k hk, (HV.out k hk).old HB.out⟩, HB.out⟩)
 clear hrow' hgr hat hlt
 go_wp2
 go_ret
 exact R.out
theorem clone_nil {a : Option Addr} {c : Nat} (w : World) :
  Calls Tryz.prog 112 #[.slice a 0 c] w (fun e w' => ∃ b d, e = .returned (.slice b 0 d) ∧ Below w.heap.size w w') := by
 cases a with
 |none =>
  have E0 : ∀ W : World, (binOp .eql 72 (.slice none 0 c) (.slice none 0 0)).run Tryz.prog W = .ok (.bool true) W := fun W => Go.Lib.run_eql_slice_nil_nil W _ _ Tryz.underlying72
  go_enter Tryz.func112, Tryz.ntmps112
  go_wp2
  go_ret
  exact ⟨_, _, rfl, Below.refl _ _⟩
 |some ad =>
  have E0 : ∀ W : World, (binOp .eql 72 (.slice (some ad) 0 c) (.slice none 0 0)).run Tryz.prog W = .ok (.bool false) W := fun W => Go.Lib.run_eql_slice_some_nil W _ _ _ Tryz.underlying72
  have BA := hid (show Below w.heap.size w (w.alloc (.cells #[] 41)) from below_new' (o := .cells #[] 41))
  go_enter Tryz.func112, Tryz.ntmps112
  go_wp2
  go_ret
  exact ⟨_, _, rfl, BA.out⟩
noncomputable def detM (M : List (List Fq)) : Option Rat := if matOk M = true ∧ M.length = matW M then detV (un M) else none
theorem detV_fin {R S : List (List Rat)} {s : Bool} (h : detK R R.length = some (some (S, s))) : detV R = prodK S s S.length := by simp only [detV, h]
theorem detV_nul {R : List (List Rat)} {c : Nat} (hc : c ≤ R.length) (h : detK R c = some none) : detV R = some ((0 : Int) : Rat) := by
 have := detK_nul h (R.length - c)
 rw [show c + (R.length - c) = R.length by omega] at this
 simp only [detV, this]
theorem detV_bad {R : List (List Rat)} {c : Nat} (hc : c ≤ R.length) (h : detK R c = none) : detV R = none := by
 have := detK_none h (R.length - c)
 rw [show c + (R.length - c) = R.length by omega] at this
 simp only [detV, this]
theorem dOk_iff {R : List (List Rat)} {d m : Nat} (hd : d < R.length) (hm : d + 1 + m = R.length) : dOk R d ↔ ∀ k (hk : d + 1 + k < R.length), k < m → clrOk R[d] d R[d + 1 + k] := by
 have hg : R.getD d [] = R[d] := by simp [hd]
 unfold dOk
 rw [hg]
 constructor
 ·intro h k hk _
  exact h _ (List.mem_iff_getElem.2 ⟨k, by rw [List.length_drop]; omega, by rw [List.getElem_drop]⟩)
 ·intro h X hX
  obtain ⟨k, hk, rfl⟩ := List.getElem_of_mem hX
  rw [List.length_drop] at hk
  rw [List.getElem_drop]
  exact h k (by omega) (by omega)
theorem LocA.underD {T : TypeId} {w w' : World} {b B : Nat} {cs : Array Value} (h : LocA T w b cs) (hb : Below B w w') (hlt : b < B) : LocA T w' b cs := (hb.block _ hlt).trans h
theorem RatO_zero {w w' : World} (hb : Below w.heap.size w w') : RatO true none w (.returned (.agg #[.bool false, .slice none 0 0, .slice none 0 0])) w' := ⟨false, none, 0, 0, none, 0, 0, rfl, RO_none, hb⟩
theorem DiagR.ratO {l0 : Nat} {o : Option Rat} {w w' : World} {e : Ending} (h : DiagR l0 o w e w') {w0 : World} (hb : Below w0.heap.size w0 w') (hl : w0.heap.size ≤ l0) : RatO true o w0 e w' := by
 obtain ⟨s, a, n, c, b, m, d, e, hr, -⟩ := h
 exact ⟨s, a, n, c, b, m, d, e, hr.base hl, hb⟩
theorem impl_Det {a : Option Addr} {n c lo hi : Nat} {M : List (List Fq)} (hM : Sm2 M) (w : World) (h : MW w a n M lo hi) (hh : hi ≤ w.heap.size) :
  Calls Tryz.prog 53 #[.slice a n c] w (RatO true (detM M) w) := by
 have HV := hid h
 have hnum := h.num
 have HHI := hid hh
 obtain ⟨DM, hDM⟩ : ∃ DM, DM = detM M := ⟨_, rfl⟩
 rw [← hDM]
 have BA := hid (show Below w.heap.size w (w.alloc (.cells #[.bool false, .slice none 0 0, .slice none 0 0] 37)) from below_new' (o := .cells #[.bool false, .slice none 0 0, .slice none 0 0] 37))
 have LA := hid (LocA.at (T := 37) (w := w) (b := w.heap.size) (cs := #[.bool false, .slice none 0 0, .slice none 0 0]) rfl)
 have KO := hid (fun (U : World) (hb : Below w.heap.size w U) => impl_MatOk (c := c) hM U (HV.out.old hb))
 have KW := hid (fun (U : World) (hb : Below w.heap.size w U) => impl_matWidth (c := c) hM U (HV.out.old hb))
 have hsm := hM.2
 obtain ⟨ok, hok⟩ : ∃ ok, matOk M = ok := ⟨_, rfl⟩
 rw [hok] at KO
 cases ok with
 |false =>
  have HDM := hid (show DM = none by rw [hDM, detM, if_neg (by rw [hok]; simp)])
  clear h hDM hok hnum
  go_enter Tryz.func53, Tryz.ntmps53
  go_wp2
  go_step3
  go_wp2_with fail
  (with_reducible refine (KO.out _ BA.out).mono ?_)
  rintro e w1 ⟨rfl, hb⟩
  have HB1 := hid (BA.out.trans (hb.mono BA.out.size))
  have L1 := hid (LA.out.old hb)
  clear hb
  have f0 := L1.out.f 0
  have f1 := L1.out.f 1
  have f2 := L1.out.f 2
  have p0 := L1.out.c 0 rfl
  have p1 := L1.out.c 1 rfl
  have p2 := L1.out.c 2 rfl
  have RZ := hid (show RatO true DM w (.returned (.agg #[.bool false, .slice none 0 0, .slice none 0 0])) ((((w1).setCell ⟨w.heap.size, 0, none⟩ (.bool false)).setCell ⟨w.heap.size, 1, none⟩ (.slice none 0 0)).setCell ⟨w.heap.size, 2, none⟩ (.slice none 0 0)) from by
   rw [HDM.out]
   exact RatO_zero (((HB1.out.setCell (p := ⟨w.heap.size, 0, none⟩) (Nat.le_refl _) (.bool false)).setCell (p := ⟨w.heap.size, 1, none⟩) (Nat.le_refl _) (.slice none 0 0)).setCell (p := ⟨w.heap.size, 2, none⟩) (Nat.le_refl _) (.slice none 0 0)))
  go_wp2
  exact bodyPost_ret (v := .agg #[.bool false, .slice none 0 0, .slice none 0 0]) (by simp [results, Tryz.results53, go_sem, p0, p1, p2]) rfl RZ.out
 |true =>
  by_cases hsq : n = matW M
  case neg =>
   have HDM := hid (show DM = none by rw [hDM, detM, if_neg (by rw [← hnum]; exact fun h => hsq h.2)])
   obtain ⟨W, hW⟩ : ∃ W, matW M = W := ⟨_, rfl⟩
   rw [hW] at KW hsq
   have e0 : ((n : Int) != (W : Int)) = true := by simp; omega
   clear h hDM hok hW hnum
   go_enter Tryz.func53, Tryz.ntmps53
   go_wp2
   go_step3
   go_wp2_with fail
   (with_reducible refine (KO.out _ BA.out).mono ?_)
   rintro e w1 ⟨rfl, hb⟩
   have HB1 := hid (BA.out.trans (hb.mono BA.out.size))
   have L1 := hid (LA.out.old hb)
   clear hb
   go_wp2_with fail
   (with_reducible refine (KW.out _ HB1.out).mono ?_)
   rintro e w2 ⟨rfl, rfl⟩
   have f0 := L1.out.f 0
   have f1 := L1.out.f 1
   have f2 := L1.out.f 2
   have p0 := L1.out.c 0 rfl
   have p1 := L1.out.c 1 rfl
   have p2 := L1.out.c 2 rfl
   have RZ := hid (show RatO true DM w (.returned (.agg #[.bool false, .slice none 0 0, .slice none 0 0])) ((((w1).setCell ⟨w.heap.size, 0, none⟩ (.bool false)).setCell ⟨w.heap.size, 1, none⟩ (.slice none 0 0)).setCell ⟨w.heap.size, 2, none⟩ (.slice none 0 0)) from by
    rw [HDM.out]
    exact RatO_zero (((HB1.out.setCell (p := ⟨w.heap.size, 0, none⟩) (Nat.le_refl _) (.bool false)).setCell (p := ⟨w.heap.size, 1, none⟩) (Nat.le_refl _) (.slice none 0 0)).setCell (p := ⟨w.heap.size, 2, none⟩) (Nat.le_refl _) (.slice none 0 0)))
   go_wp2
   exact bodyPost_ret (v := .agg #[.bool false, .slice none 0 0, .slice none 0 0]) (by simp [results, Tryz.results53, go_sem, p0, p1, p2]) rfl RZ.out
  case pos =>
   have HDM := hid (show DM = detV (un M) by rw [hDM, detM, if_pos ⟨hok, by rw [← hnum]; exact hsq⟩])
   rw [← hsq] at KW
   obtain ⟨hMr, hRW⟩ := un_rv hok
   rw [← hsq] at hRW
   have hul := un_len M
   obtain ⟨XX, hXX⟩ : ∃ XX, un M = XX := ⟨_, rfl⟩
   rw [hXX] at hMr hRW hul HDM
   have HVX := hid (show MW w a n (XX.map rv) lo hi by rw [← hMr]; exact HV.out)
   have HXL := hid (show XX.length = n by omega)
   have HRW := hid hRW
   have hn40 : n ≤ 40 := by rw [hnum]; exact matOk_n hok
   clear h hDM hok hMr hRW hul hXX hsq hnum HV
   by_cases hn0 : n = 0
   ·subst hn0
    have HDS := hid (show DM = prodG (some (sgR false)) [] 0 from by
     have e : XX = [] := List.eq_nil_of_length_eq_zero HXL.out
     rw [HDM.out, e]; rfl)
    have KD := hid (fun (U : World) (s : Bool) (v0 : Option Addr) (n1 c1 : Nat) (u0 : Option Addr) (m1 d1 : Nat) (ad : Option Addr) (cd : Nat) (hr : RO true U w.heap.size s (.slice v0 n1 c1) (.slice u0 m1 d1) (some (sgR false))) (hl : w.heap.size ≤ U.heap.size) => diag_any (c := cd) (l0 := w.heap.size) (W := 0) (S := []) ⟨fun X hX => (by cases hX), fun X hX => (by cases hX)⟩ (by omega) (Nat.le_refl _) U (MW_nil U ad 0 0) hr hl)
    simp only [List.length_nil, ← HDS.out] at KD
    clear HDS HXL HVX
    go_enter Tryz.func53, Tryz.ntmps53
    go_wp2
    go_step3
    go_wp2_with fail
    (with_reducible refine (KO.out _ BA.out).mono ?_)
    rintro e w1 ⟨rfl, hb⟩
    have HB1 := hid (BA.out.trans (hb.mono BA.out.size))
    have L1 := hid (LA.out.old hb)
    clear hb
    go_wp2_with fail
    (with_reducible refine (KW.out _ HB1.out).mono ?_)
    rintro e w2 ⟨rfl, rfl⟩
    go_wp2_with fail
    (with_reducible refine (clone_nil _).mono ?_)
    rintro e w3 ⟨ad, cd, rfl, hb⟩
    have HB3 := hid (HB1.out.trans (hb.mono HB1.out.size))
    have L3 := hid (L1.out.old hb)
    clear hb
    go_wp2_with fail
    (with_reducible refine (int_o 1 (by decide) (by decide) _).mono ?_)
    rintro e w4 ⟨s4, a4, n4, c4, b4, m4, d4, rfl, hr, hb⟩
    obtain ⟨N, hN⟩ : ∃ N, N = w4.heap.size := ⟨_, rfl⟩
    have BN := hid (below_new' (w := w4) (o := .cells #[.bool s4, .slice a4 n4 c4, .slice b4 m4 d4] 37))
    have HB4 := hid ((HB3.out.trans (hb.mono HB3.out.size)).trans (BN.out.mono (Nat.le_trans HB3.out.size hb.size)))
    have L4 := hid ((L3.out.old hb).old BN.out)
    have LN := hid (show LocA 37 (w4.alloc (.cells #[.bool s4, .slice a4 n4 c4, .slice b4 m4 d4] 37)) N #[.bool s4, .slice a4 n4 c4, .slice b4 m4 d4] by rw [hN]; exact LocA.at rfl)
    have KD4 := hid (KD.out _ s4 a4 n4 c4 b4 m4 d4 ad cd (((hr.base HB3.out.size).old BN.out).eqo (by simp [sgR])) HB4.out.size)
    have PBN := hid hN
    clear hr hb L3 L1 BN
    go_wp2
    rw [← PBN.out]
    generalize w4.alloc (.cells #[.bool s4, .slice a4 n4 c4, .slice b4 m4 d4] 37) = W4 at HB4 L4 LN KD4 ⊢
    clear hN PBN
    go_step3
    go_wp2
    go_loopg [25] 0 (fun gg t wr => t = .int .i64 0 ∧ wr = W4)
    case atStart => exact ⟨rfl, rfl⟩
    case round =>
     obtain ⟨rfl, rfl⟩ := hrel
     have y0 := LN.out.c 0 (v := .bool s4) rfl
     have y1 := LN.out.c 1 (v := .slice a4 n4 c4) rfl
     have y2 := LN.out.c 2 (v := .slice b4 m4 d4) rfl
     go_wp2_with fail
     (with_reducible refine (KD4.out).mono ?_)
     rintro e w8 ⟨s8, a8, n8, c8, b8, m8, d8, rfl, hr, hb⟩
     have L8 := hid (L4.out.old hb)
     have HB8 := hid (HB4.out.trans (hb.mono HB4.out.size))
     clear y0 y1 y2
     have RR := hid (show RatO true DM w (.returned (.agg #[.bool s8, .slice a8 n8 c8, .slice b8 m8 d8])) (((w8.setCell ⟨w.heap.size, 0, none⟩ (.bool s8)).setCell ⟨w.heap.size, 1, none⟩ (.slice a8 n8 c8)).setCell ⟨w.heap.size, 2, none⟩ (.slice b8 m8 d8)) from
      ⟨_, _, _, _, _, _, _, rfl, (((hr.set L8.out (by decide) (i := 0) (y := .bool s8)).set (L8.out.set (i := 0) (x := .bool s8)) (by decide) (i := 1) (y := .slice a8 n8 c8)).set ((L8.out.set (i := 0) (x := .bool s8)).set (i := 1) (x := .slice a8 n8 c8)) (by decide) (i := 2) (y := .slice b8 m8 d8)), ((HB8.out.setCell (p := ⟨w.heap.size, 0, none⟩) (Nat.le_refl _) (.bool s8)).setCell (p := ⟨w.heap.size, 1, none⟩) (Nat.le_refl _) (.slice a8 n8 c8)).setCell (p := ⟨w.heap.size, 2, none⟩) (Nat.le_refl _) (.slice b8 m8 d8)⟩)
     clear hr hb
     have f0 := L8.out.f 0
     have f1 := L8.out.f 1
     have f2 := L8.out.f 2
     have p0 := L8.out.c 0 rfl
     have p1 := L8.out.c 1 rfl
     have p2 := L8.out.c 2 rfl
     go_wp2
     (try simp only [Exit.inBlock, Exit.then])
     (try rw [Exit.noGoto_ret])
     exact bodyPost_ret (v := .agg #[.bool s8, .slice a8 n8 c8, .slice b8 m8 d8]) (by simp [results, Tryz.results53, go_sem, p0, p1, p2]) rfl RR.out
   have KC := hid (fun (U : World) (hb : Below w.heap.size w U) => clone_rows (c := c) (show XX.length ≤ 40 by have := HXL.out; omega) (by have := HXL.out; omega) U (HVX.out.old hb))
   obtain ⟨lo', hlo'⟩ : ∃ lo', w.heap.size + 1 = lo' := ⟨_, rfl⟩
   go_enter Tryz.func53, Tryz.ntmps53
   go_wp2
   go_step3
   go_wp2_with fail
   (with_reducible refine (KO.out _ BA.out).mono ?_)
   rintro e w1 ⟨rfl, hb⟩
   have hz1 := hb.size
   have HB1 := hid (BA.out.trans (hb.mono BA.out.size))
   have L1 := hid (LA.out.old hb)
   have HZ1 := hid (show lo' ≤ w1.heap.size by rw [← hlo']; simpa using hz1)
   clear hb hz1
   go_wp2_with fail
   (with_reducible refine (KW.out _ HB1.out).mono ?_)
   rintro e w2 ⟨rfl, rfl⟩
   go_wp2_with fail
   (with_reducible refine (KC.out _ HB1.out).mono ?_)
   rintro e w3 ⟨G, cap, H0, rfl, hrow, hrows, hb⟩
   have HG := hid (hrow.lt G rfl)
   have HZ3 := hid hb.size
   have HB3 := hid (HB1.out.trans (hb.mono HB1.out.size))
   have L3 := hid (L1.out.old hb)
   obtain ⟨cur, hcur⟩ := own_cur hrow
   have hnc := hcur.2.2.2
   have HROW := hid hrow
   have HROWS := hid hrows
   clear hrow hrows hb hcur
   go_wp2_with fail
   (with_reducible refine (int_o 1 (by decide) (by decide) _).mono ?_)
   rintro e w4 ⟨s4, a4, n4, c4, b4, m4, d4, rfl, hr, hb⟩
   obtain ⟨N, hN⟩ : ∃ N, N = w4.heap.size := ⟨_, rfl⟩
   have hz4 := hb.size
   have BN := hid (below_new' (w := w4) (o := .cells #[.bool s4, .slice a4 n4 c4, .slice b4 m4 d4] 37))
   have HB4 := hid ((HB3.out.trans (hb.mono HB3.out.size)).trans (BN.out.mono (Nat.le_trans HB3.out.size hz4)))
   have L4 := hid ((L3.out.old hb).old BN.out)
   have HI4 := hid (show IS N s4 (.slice a4 n4 c4) (.slice b4 m4 d4) (some (sgR false)) G n cap lo' (w4.alloc (.cells #[.bool s4, .slice a4 n4 c4, .slice b4 m4 d4] 37)) H0 XX (w4.alloc (.cells #[.bool s4, .slice a4 n4 c4, .slice b4 m4 d4] 37)).heap.size from by
    have hg := HG.out
    have hz1 := HZ1.out
    have hz3 := HZ3.out
    have hw : w.heap.size ≤ lo' := by omega
    refine ⟨⟨own_base (own_block (own_block HROW.out fun k hk => hb.block k (HROW.out.lt k hk).2) fun k hk => BN.out.block k (Nat.lt_of_lt_of_le (HROW.out.lt k hk).2 hz4)) hz1, HXL.out, ⟨Nat.le_refl _, by rw [hN]; simp⟩, fun k hk => ?_⟩, ⟨by omega, by omega⟩, ?_, ?_⟩
    ·obtain ⟨b, c', e, v⟩ := HROWS.out k hk
     exact ⟨b, c', e, .inl (((v.old hb).old BN.out).wide (Nat.zero_le _) (by have := HHI.out; omega))⟩
    ·rw [hN]; exact LocA.at rfl
    ·exact ((hr.base (by omega)).old BN.out).eqo (by simp [sgR]))
   have HNW := hid (show w.heap.size ≠ N ∧ w.heap.size < lo' ∧ lo' ≤ N by have := HZ1.out; have := HZ3.out; omega)
   have PBN := hid hN
   clear hr hb hz4 L3 L1 HG HROW HROWS HZ3 BN
   go_wp2
   rw [← PBN.out]
   generalize w4.alloc (.cells #[.bool s4, .slice a4 n4 c4, .slice b4 m4 d4] 37) = W4 at HB4 L4 HI4 ⊢
   clear hN PBN
   go_step3
   go_wp2
   go_loopg [25] n (fun gg t wr => ∃ (k : Nat) (S : List (List Rat)) (sg : Bool) (H : List Value) (hi1 : Nat) (s1 : Bool) (a1 : Option Addr) (n1 c1 : Nat) (b1 : Option Addr) (m1 d1 : Nat), k + gg = n ∧ t = .int .i64 k ∧ Hid (detK XX k = some (some (S, sg))) ∧ Hid (IS N s1 (.slice a1 n1 c1) (.slice b1 m1 d1) (some (sgR sg)) G n cap lo' wr H S hi1) ∧ Hid (LocA 37 wr w.heap.size #[.bool false, .slice none 0 0, .slice none 0 0]) ∧ Below w.heap.size w wr)
   case atStart => exact ⟨0, XX, false, H0, _, s4, a4, n4, c4, b4, m4, d4, Nat.zero_add _, rfl, hid rfl, HI4, L4, HB4.out⟩
   case round =>
    obtain ⟨k, S, sg, H, hi1, s1, a1, n1, c1, b1, m1, d1, hk, rfl, hS, hI, hL, hbel⟩ := hrel
    obtain ⟨wo, rfl⟩ : ∃ wo, wo = wr := ⟨_, rfl⟩
    obtain ⟨go, rfl⟩ : ∃ go, go = gk := ⟨_, rfl⟩
    have HB := hid hbel
    have hz := hid hbel.size
    clear hbel
    have hinv := detK_inv HRW.out (show k ≤ XX.length by have := HXL.out; omega) hS.out
    have HSl := hid (show S.length = n by rw [hinv.2, HXL.out])
    have HSW := hid hinv.1
    clear hinv
    have hRI := RI_IS N s1 (.slice a1 n1 c1) (.slice b1 m1 d1) (some (sgR sg)) G n cap lo'
    by_cases hlt : k < n
    rotate_left
    ·obtain rfl : k = n := by omega
     have HDS := hid (show DM = prodG (some (sgR sg)) S S.length from by
      rw [HDM.out, detV_fin (S := S) (s := sg) (by rw [HXL.out]; exact hS.out), prodG_K])
     have KD := hid (diag_any (c := cap) (l0 := lo') HSW.out hn40 (by rw [HSl.out]; exact Nat.le_refl _) wo (hRI.mw hI.out) hI.out.2.2.2 (by have := hI.out.2.2.1.lt; have := HNW.out; omega))
     rw [← HDS.out] at KD
     have y0 := hI.out.2.2.1.c 0 (v := .bool s1) rfl
     have y1 := hI.out.2.2.1.c 1 (v := .slice a1 n1 c1) rfl
     have y2 := hI.out.2.2.1.c 2 (v := .slice b1 m1 d1) rfl
     have k1 : ¬ (k : Int) < k := by omega
     go_wp2_with fail
     (with_reducible refine (KD.out).mono ?_)
     rintro e w8 ⟨s8, a8, n8, c8, b8, m8, d8, rfl, hr, hb⟩
     have L8 := hid (hL.out.old hb)
     have HB8 := hid (HB.out.trans (hb.mono hz.out))
     clear y0 y1 y2
     have RR := hid (show RatO true DM w (.returned (.agg #[.bool s8, .slice a8 n8 c8, .slice b8 m8 d8])) (((w8.setCell ⟨w.heap.size, 0, none⟩ (.bool s8)).setCell ⟨w.heap.size, 1, none⟩ (.slice a8 n8 c8)).setCell ⟨w.heap.size, 2, none⟩ (.slice b8 m8 d8)) from
      ⟨_, _, _, _, _, _, _, rfl, ((((hr.base (show w.heap.size ≤ lo' from Nat.le_of_lt HNW.out.2.1)).set L8.out (by decide) (i := 0) (y := .bool s8)).set (L8.out.set (i := 0) (x := .bool s8)) (by decide) (i := 1) (y := .slice a8 n8 c8)).set ((L8.out.set (i := 0) (x := .bool s8)).set (i := 1) (x := .slice a8 n8 c8)) (by decide) (i := 2) (y := .slice b8 m8 d8)), ((HB8.out.setCell (p := ⟨w.heap.size, 0, none⟩) (Nat.le_refl _) (.bool s8)).setCell (p := ⟨w.heap.size, 1, none⟩) (Nat.le_refl _) (.slice a8 n8 c8)).setCell (p := ⟨w.heap.size, 2, none⟩) (Nat.le_refl _) (.slice b8 m8 d8)⟩)
     clear hr hb
     have f0 := L8.out.f 0
     have f1 := L8.out.f 1
     have f2 := L8.out.f 2
     have p0 := L8.out.c 0 rfl
     have p1 := L8.out.c 1 rfl
     have p2 := L8.out.c 2 rfl
     go_wp2
     (try simp only [Exit.inBlock, Exit.then])
     (try rw [Exit.noGoto_ret])
     exact bodyPost_ret (v := .agg #[.bool s8, .slice a8 n8 c8, .slice b8 m8 d8]) (by simp [results, Tryz.results53, go_sem, p0, p1, p2]) rfl RR.out
    have hdc : ¬ cap = k := by omega
    have d0 : (0 : Int) ≤ k := by omega
    have d1' : (k : Int) ≤ n := by omega
    have d2' : (k : Int) < n := by omega
    go_wp2
    go_loopg [33] (n - k) (fun gg t wr => ∃ i : Nat, i + gg = n - k ∧ t = .int .i64 i ∧ Hid (∀ j (hj : j < S.length), k ≤ j → j < k + i → el S[j] k = 0) ∧ Below wo.heap.size wo wr)
    case atStart => exact ⟨0, Nat.zero_add _, rfl, hid (fun j hj h1 h2 => absurd h1 (by omega)), Below.refl _ _⟩
    case round =>
     obtain ⟨i, hi2, rfl, hQ, hbi⟩ := hrel
     have HBi := hid hbi
     have HIi := hid (hRI.old hI.out hbi)
     have HB4i := hid (HB.out.trans (hbi.mono hz.out))
     clear hbi
     by_cases hilt : i < n - k
     rotate_left
     ·have HDN := hid (show DM = some ((0 : Int) : Rat) from by
       rw [HDM.out]
       exact detV_nul (c := k + 1) (by have := HXL.out; omega) (detK_zero hS.out (fnd_none fun j hj h1 => hQ.out j hj h1 (by have := HSl.out; omega))))
      have L5 := hid (hL.out.old HBi.out)
      have i1 : ¬ (i : Int) < ((n - k : Nat) : Int) := by omega
      go_wp2_with fail
      (with_reducible refine (int_o 0 (by decide) (by decide) _).mono ?_)
      rintro e w8 ⟨s8, a8, n8, c8, b8, m8, d8, rfl, hr, hb⟩
      have L8 := hid (L5.out.old hb)
      have HB8 := hid (HB4i.out.trans (hb.mono HB4i.out.size))
      have RR := hid (show RatO true DM w (.returned (.agg #[.bool s8, .slice a8 n8 c8, .slice b8 m8 d8])) (((w8.setCell ⟨w.heap.size, 0, none⟩ (.bool s8)).setCell ⟨w.heap.size, 1, none⟩ (.slice a8 n8 c8)).setCell ⟨w.heap.size, 2, none⟩ (.slice b8 m8 d8)) from
       ⟨_, _, _, _, _, _, _, rfl, (((((hr.base HB4i.out.size).eqo HDN.out.symm).set L8.out (by decide) (i := 0) (y := .bool s8)).set (L8.out.set (i := 0) (x := .bool s8)) (by decide) (i := 1) (y := .slice a8 n8 c8)).set ((L8.out.set (i := 0) (x := .bool s8)).set (i := 1) (x := .slice a8 n8 c8)) (by decide) (i := 2) (y := .slice b8 m8 d8)), ((HB8.out.setCell (p := ⟨w.heap.size, 0, none⟩) (Nat.le_refl _) (.bool s8)).setCell (p := ⟨w.heap.size, 1, none⟩) (Nat.le_refl _) (.slice a8 n8 c8)).setCell (p := ⟨w.heap.size, 2, none⟩) (Nat.le_refl _) (.slice b8 m8 d8)⟩)
      clear hr hb
      have f0 := L8.out.f 0
      have f1 := L8.out.f 1
      have f2 := L8.out.f 2
      have p0 := L8.out.c 0 rfl
      have p1 := L8.out.c 1 rfl
      have p2 := L8.out.c 2 rfl
      go_wp2
      (try simp only [Exit.inBlock, Exit.then])
      (try rw [Exit.noGoto_ret])
      exact bodyPost_ret (v := .agg #[.bool s8, .slice a8 n8 c8, .slice b8 m8 d8]) (by simp [results, Tryz.results53, go_sem, p0, p1, p2]) rfl RR.out
     have hqS : k + i < S.length := by have := HSl.out; omega
     obtain ⟨hql, hqa⟩ := HSW.out.at hqS
     obtain ⟨bx, cx, ex, vx⟩ := hRI.view HIi.out (k + i) hqS
     rw [hql] at ex vx
     obtain ⟨gx, ox, sx, a3, n3, c3, b3, m3, d3, rfl, hgx, x0, x1, x2, RX⟩ := vx.elx hqa (by omega) (k := k) (by omega)
     have hrow := hRI.row HIi.out
     have q0 := hrow.cells (g := G) rfl (k + i) _ ex
     rw [Go.WideShapes.add_plain, Nat.zero_add] at q0
     have KS := hid (sign_o RX)
     have i0 : (0 : Int) ≤ i := by omega
     have i1 : (i : Int) < ((n - k : Nat) : Int) := by omega
     by_cases hz0 : el S[k + i] k = 0
     case pos =>
      rw [sgn_zero hz0] at KS
      have HQ' := hid (show ∀ j (hj : j < S.length), k ≤ j → j < k + (i + 1) → el S[j] k = 0 from fun j hj h1 h2 => by
       rcases Nat.lt_or_eq_of_le (show j ≤ k + i by omega) with h | rfl
       ·exact hQ.out j hj h1 h
       ·exact hz0)
      clear vx ex hrow RX hz0 hql hqa
      go_wp2_with fail
      (with_reducible refine (KS.out).mono ?_)
      rintro e w5 ⟨rfl, hb⟩
      have HBj := hid (HBi.out.trans (hb.mono HBi.out.size))
      clear hb q0 x0 x1 x2
      go_wp2
      go_roundg (gk - 1)
      case measure => omega
      case rel => exact ⟨i + 1, by omega, by go_num, HQ', HBj.out⟩
     case neg =>
      obtain ⟨z, hzz⟩ : ∃ z, sgnO (some (el S[k + i] k)) = z := ⟨_, rfl⟩
      have hz2 : (z == 0) = false := beq_eq_false_iff_ne.2 (by rw [← hzz]; exact sgn_nz hz0)
      rw [hzz] at KS
      have hfs : fnd S k k = some (k + i) := fnd_some (by omega) hqS hz0 (fun j hj h1 h2 => hQ.out j hj h1 h2)
      have hS1l : (mvf S k (k + i)).length = n := by rw [mvf_len (by omega) hqS, HSl.out]
      have hkl : k < (mvf S k (k + i)).length := by omega
      have hS1W := HSW.out.mvf (show k ≤ k + i by omega) hqS
      have hS1d : (mvf S k (k + i))[k]'hkl = S[k + i] := by rw [mvf_get (by omega) hqS (by omega), if_neg (by omega), if_pos rfl]
      obtain ⟨B, hB⟩ := bool_of (dOk (mvf S k (k + i)) k)
      have HYes := hid (fun (hb : B = true) => show detK XX (k + 1) = some (some (dfin (mvf S k (k + i)) k, sg != decide (i % 2 = 1))) from by
       have := detK_fin hS.out hfs (hB.1 hb)
       rw [show k + i - k = i by omega] at this
       exact this)
      have HNo := hid (fun (hb : B = false) => show DM = none from by
       rw [HDM.out]
       exact detV_bad (c := k + 1) (by have := HXL.out; omega) (detK_bad hS.out hfs (fun ho => by have := hB.2 ho; rw [hb] at this; cases this)))
      have hHl : H.length = n := by have := (hRI.row hI.out).1; omega
      have HEX := hid (show (mvf H k (k + i))[k]? = some (.slice (some ⟨gx, ox, none⟩) n cx) from by
       obtain ⟨h1, h2⟩ := List.getElem?_eq_some_iff.1 ex
       rw [List.getElem?_eq_getElem (by rw [mvf_len (by omega) (by omega)]; omega), mvf_get (by omega) (by omega) (by omega), if_neg (by omega), if_pos rfl, h2])
      have KM := hid (fun (U : World) (hb : Below wo.heap.size wo U) => moveToFront_any (cR := cap - k) (m := n - k) (off := k) (i := i) hRI (by omega) (by omega) hn40 (by omega) U (hRI.old hI.out hb))
      have KF := hid (fun (aR : Option Addr) (cR : Nat) (haR : 0 < n - k - 1 → aR = some ⟨G, k + 1, none⟩) (U : World) (s' : Bool) (v' u' : Value) (o' : Option Rat) (hU : IS N s' v' u' o' G n cap lo' U (mvf H k (k + i)) (mvf S k (k + i)) hi1) => clearColumn_any (RI_IS N s' v' u' o' G n cap lo') (aR := aR) (cR := cR) (m := n - k - 1) (off := k + 1) (p := k) (cb := cx) (b := some ⟨gx, ox, none⟩) B hS1W hlt hn40 hn40 haR (by omega) hkl (.inl (by omega)) (by rw [hS1d]; exact hz0) (hB.trans (dOk_iff (m := n - k - 1) hkl (by omega))) U hU HEX.out)
      have HCD := hid (show clrs (mvf S k (k + i)) ((mvf S k (k + i))[k]'hkl) k (k + 1) (n - k - 1) = dfin (mvf S k (k + i)) k from clrs_dfin hkl (by omega))
      clear hzz hfs hS1l hS1W hS1d hB vx ex hrow RX hz0 hql hqa
      go_wp2_with fail
      (with_reducible refine (KS.out).mono ?_)
      rintro e w5 ⟨rfl, hb⟩
      have HBj := hid (HBi.out.trans (hb.mono HBi.out.size))
      have L5 := hid (hL.out.old HBj.out)
      clear hb q0 x0 x1 x2
      go_wp2_with fail
      (with_reducible refine (KM.out _ HBj.out).mono ?_)
      rintro e w6 ⟨vv, rfl, hI6, hb6⟩
      have HI6 := hid hI6
      have HB6 := hid ((HB.out.trans (HBj.out.mono hz.out)).trans (hb6.mono (Nat.le_of_lt HNW.out.2.1)))
      have L6 := hid (L5.out.underD hb6 HNW.out.2.1)
      clear hI6 hb6
      by_cases hpar : i % 2 = 1
      ·have KN := hid (neg_o HI6.out.2.2.2.ra)
       have y0 := HI6.out.2.2.1.c 0 (v := .bool s1) rfl
       have y1 := HI6.out.2.2.1.c 1 (v := .slice a1 n1 c1) rfl
       have y2 := HI6.out.2.2.1.c 2 (v := .slice b1 m1 d1) rfl
       have hp1 : (i : Int).tmod 2 = 1 := by rw [Int.tmod_eq_emod_of_nonneg (by omega)]; omega
       go_wp2_with fail
       (with_reducible refine (KN.out).mono ?_)
       rintro e w7 ⟨s7, a7, n7, c7, b7, m7, d7, rfl, hr7, hb7⟩
       have HI7 := hid ((RI_IS N s1 (.slice a1 n1 c1) (.slice b1 m1 d1) (some (sgR sg)) G n cap lo').old HI6.out hb7)
       have L7 := hid (L6.out.old hb7)
       have HB7 := hid (HB6.out.trans (hb7.mono HB6.out.size))
       clear y0 y1 y2
       have y0 := HI7.out.2.2.1.c 0 (v := .bool s1) rfl
       have y1 := HI7.out.2.2.1.c 1 (v := .slice a1 n1 c1) rfl
       have y2 := HI7.out.2.2.1.c 2 (v := .slice b1 m1 d1) rfl
       have f0 := HI7.out.2.2.1.f 0
       have f1 := HI7.out.2.2.1.f 1
       have f2 := HI7.out.2.2.1.f 2
       have HI7' := hid (HI7.out.put (s' := s7) (a' := a7) (n' := n7) (c' := c7) (b' := b7) (m' := m7) (d' := d7) (o' := some (sgR (!sg))) ((hr7.base (by have := hRI.row (w := w6) HI6.out; have := HI6.out.2.2.1.lt; have := HNW.out; omega)).eqo (by rw [negO_some, sgR_not])))
       have L7' := hid (((L7.out.setne (N := N) (i := 0) (x := .bool s7) HNW.out.1).setne (N := N) (i := 1) (x := .slice a7 n7 c7) HNW.out.1).setne (N := N) (i := 2) (x := .slice b7 m7 d7) HNW.out.1)
       have HB7' := hid (((HB7.out.setCell (p := ⟨N, 0, none⟩) (by have := HNW.out; show w.heap.size ≤ N; omega) (.bool s7)).setCell (p := ⟨N, 1, none⟩) (by have := HNW.out; show w.heap.size ≤ N; omega) (.slice a7 n7 c7)).setCell (p := ⟨N, 2, none⟩) (by have := HNW.out; show w.heap.size ≤ N; omega) (.slice b7 m7 d7))
       clear hr7 hb7
       go_wp2_with fail
       (with_reducible refine (KF.out (some ⟨G, k + 1, none⟩) (cap - k - 1) (fun _ => rfl) _ _ _ _ _ HI7'.out).mono ?_)
       rintro e w8 ⟨rfl, hb8, -, hx8⟩
       have HB8 := hid (HB7'.out.trans (hb8.mono (Nat.le_of_lt HNW.out.2.1)))
       have L8 := hid (L7'.out.underD hb8 HNW.out.2.1)
       have HX8 := hid hx8
       clear hb8 hx8
       cases B with
       |false =>
        have HDN := hid (HNo.out rfl)
        have f0 := L8.out.f 0
        have f1 := L8.out.f 1
        have f2 := L8.out.f 2
        have p0 := L8.out.c 0 rfl
        have p1 := L8.out.c 1 rfl
        have p2 := L8.out.c 2 rfl
        have RZ := hid (show RatO true DM w (.returned (.agg #[.bool false, .slice none 0 0, .slice none 0 0])) ((((w8).setCell ⟨w.heap.size, 0, none⟩ (.bool false)).setCell ⟨w.heap.size, 1, none⟩ (.slice none 0 0)).setCell ⟨w.heap.size, 2, none⟩ (.slice none 0 0)) from by
         rw [HDN.out]
         exact RatO_zero (((HB8.out.setCell (p := ⟨w.heap.size, 0, none⟩) (Nat.le_refl _) (.bool false)).setCell (p := ⟨w.heap.size, 1, none⟩) (Nat.le_refl _) (.slice none 0 0)).setCell (p := ⟨w.heap.size, 2, none⟩) (Nat.le_refl _) (.slice none 0 0)))
        go_wp2
        (try simp only [Exit.inBlock, Exit.then])
        (try rw [Exit.noGoto_ret])
        exact bodyPost_ret (v := .agg #[.bool false, .slice none 0 0, .slice none 0 0]) (by simp [results, Tryz.results53, go_sem, p0, p1, p2]) rfl RZ.out
       |true =>
        have HRK := hid (HYes.out rfl)
        obtain ⟨H8, hi8, hI8, -⟩ := HX8.out rfl
        rw [HCD.out] at hI8
        have HI8 := hid hI8
        clear hI8
        go_wp2
        go_roundg (go - 1)
        case measure => omega
        case rel => exact ⟨k + 1, _, _, H8, hi8, _, _, _, _, _, _, _, by omega, by go_num, hid (by rw [HRK.out]; simp only [hpar]; cases sg <;> rfl), HI8, L8, HB8.out⟩
      ·have hp1 : ¬ (i : Int).tmod 2 = 1 := by rw [Int.tmod_eq_emod_of_nonneg (by omega)]; omega
       go_wp2_with fail
       ·skip
        (with_reducible refine (KF.out (some ⟨G, k, none⟩) 0 (fun h0 => absurd h0 (by omega)) _ _ _ _ _ HI6.out).mono ?_)
        rintro e w8 ⟨rfl, hb8, -, hx8⟩
        have HB8 := hid (HB6.out.trans (hb8.mono (Nat.le_of_lt HNW.out.2.1)))
        have L8 := hid (L6.out.underD hb8 HNW.out.2.1)
        have HX8 := hid hx8
        clear hb8 hx8
        cases B with
        |false =>
         have HDN := hid (HNo.out rfl)
         have f0 := L8.out.f 0
         have f1 := L8.out.f 1
         have f2 := L8.out.f 2
         have p0 := L8.out.c 0 rfl
         have p1 := L8.out.c 1 rfl
         have p2 := L8.out.c 2 rfl
         have RZ := hid (show RatO true DM w (.returned (.agg #[.bool false, .slice none 0 0, .slice none 0 0])) ((((w8).setCell ⟨w.heap.size, 0, none⟩ (.bool false)).setCell ⟨w.heap.size, 1, none⟩ (.slice none 0 0)).setCell ⟨w.heap.size, 2, none⟩ (.slice none 0 0)) from by
          rw [HDN.out]
          exact RatO_zero (((HB8.out.setCell (p := ⟨w.heap.size, 0, none⟩) (Nat.le_refl _) (.bool false)).setCell (p := ⟨w.heap.size, 1, none⟩) (Nat.le_refl _) (.slice none 0 0)).setCell (p := ⟨w.heap.size, 2, none⟩) (Nat.le_refl _) (.slice none 0 0)))
         go_wp2
         (try simp only [Exit.inBlock, Exit.then])
         (try rw [Exit.noGoto_ret])
         exact bodyPost_ret (v := .agg #[.bool false, .slice none 0 0, .slice none 0 0]) (by simp [results, Tryz.results53, go_sem, p0, p1, p2]) rfl RZ.out
        |true =>
         have HRK := hid (HYes.out rfl)
         obtain ⟨H8, hi8, hI8, -⟩ := HX8.out rfl
         rw [HCD.out] at hI8
         have HI8 := hid hI8
         clear hI8
         go_wp2
         go_roundg (go - 1)
         case measure => omega
         case rel => exact ⟨k + 1, _, _, H8, hi8, _, _, _, _, _, _, _, by omega, by go_num, hid (by rw [HRK.out]; simp only [hpar]; cases sg <;> rfl), HI8, L8, HB8.out⟩
       ·skip
        (with_reducible refine (KF.out (some ⟨G, k + 1, none⟩) (cap - k - 1) (fun _ => rfl) _ _ _ _ _ HI6.out).mono ?_)
        rintro e w8 ⟨rfl, hb8, -, hx8⟩
        have HB8 := hid (HB6.out.trans (hb8.mono (Nat.le_of_lt HNW.out.2.1)))
        have L8 := hid (L6.out.underD hb8 HNW.out.2.1)
        have HX8 := hid hx8
        clear hb8 hx8
        cases B with
        |false =>
         have HDN := hid (HNo.out rfl)
         have f0 := L8.out.f 0
         have f1 := L8.out.f 1
         have f2 := L8.out.f 2
         have p0 := L8.out.c 0 rfl
         have p1 := L8.out.c 1 rfl
         have p2 := L8.out.c 2 rfl
         have RZ := hid (show RatO true DM w (.returned (.agg #[.bool false, .slice none 0 0, .slice none 0 0])) ((((w8).setCell ⟨w.heap.size, 0, none⟩ (.bool false)).setCell ⟨w.heap.size, 1, none⟩ (.slice none 0 0)).setCell ⟨w.heap.size, 2, none⟩ (.slice none 0 0)) from by
          rw [HDN.out]
          exact RatO_zero (((HB8.out.setCell (p := ⟨w.heap.size, 0, none⟩) (Nat.le_refl _) (.bool false)).setCell (p := ⟨w.heap.size, 1, none⟩) (Nat.le_refl _) (.slice none 0 0)).setCell (p := ⟨w.heap.size, 2, none⟩) (Nat.le_refl _) (.slice none 0 0)))
         go_wp2
         (try simp only [Exit.inBlock, Exit.then])
         (try rw [Exit.noGoto_ret])
         exact bodyPost_ret (v := .agg #[.bool false, .slice none 0 0, .slice none 0 0]) (by simp [results, Tryz.results53, go_sem, p0, p1, p2]) rfl RZ.out
        |true =>
         have HRK := hid (HYes.out rfl)
         obtain ⟨H8, hi8, hI8, -⟩ := HX8.out rfl
         rw [HCD.out] at hI8
         have HI8 := hid hI8
         clear hI8
         go_wp2
         go_roundg (go - 1)
         case measure => omega
         case rel => exact ⟨k + 1, _, _, H8, hi8, _, _, _, _, _, _, _, by omega, by go_num, hid (by rw [HRK.out]; simp only [hpar]; cases sg <;> rfl), HI8, L8, HB8.out⟩
end Go.Proofs.YthkehmnodcmlcaaGreat
