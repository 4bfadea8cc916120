import Derived.Test.YtjjainnafihkdaaGreatZm
import Derived.Test.YtjjainnafihkdaaGreatZc
import Derived.Test.YtjjainnafihkdaaGreatXd
import Derived.StillTailTactics
import Derived.Test.YtjjainnafihkdaaGreatYu
import Derived.Test.YtjjainnafihkdaaGreatVz
import Derived.Deep.LoopGhost
set_option maxRecDepth 100000
set_option maxHeartbeats 12800000
set_option linter.unusedVariables false
set_option linter.unusedSimpArgs false
namespace Go.Proofs.YtjjainnafihkdaaGreat
open Go.RowKit
open Go.Lib (hid)
def joinF (M O : List (List Fq)) : List (List Fq) := List.zipWith (· ++ ·) M O
theorem joinF_len {M O : List (List Fq)} (h : M.length ≤ O.length) : (joinF M O).length = M.length := by simp [joinF]; omega
theorem joinF_at {M O : List (List Fq)} {k : Nat} (h : M.length ≤ O.length) (hk : k < M.length) : (joinF M O)[k]'(by rw [joinF_len h]; exact hk) = M[k] ++ O[k]'(by omega) := by simp [joinF]
theorem joinF_snoc {M O : List (List Fq)} {k : Nat} (h : M.length ≤ O.length) (hk : k < M.length) : (joinF M O).take k ++ [M[k] ++ O[k]'(by omega)] = (joinF M O).take (k + 1) := by
 rw [List.take_succ_eq_append_getElem (by rw [joinF_len h]; exact hk), joinF_at h hk]
theorem oks_app' {K L : List Fq} (h : oks (vals K) = true) (h' : oks (vals L) = true) (hn : K.length + L.length ≤ 40) : oks (vals (K ++ L)) = true := by
 refine oks_yes (by rw [List.length_append]; exact hn) fun k hk => ?_
 by_cases hk1 : k < K.length
 ·rw [List.getElem_append_left hk1]; exact oks_at h hk1
 ·rw [List.getElem_append_right (by omega)]
  exact oks_at h' _
theorem join_w {M O : List (List Fq)} (h : M.length ≤ O.length) (h0 : 0 < M.length) : matW (joinF M O) = matW M + matW O := by
 rw [matW_at (by rw [joinF_len h]; exact h0), joinF_at h h0, List.length_append, matW_at h0, matW_at (by omega)]
theorem join_yes {M O : List (List Fq)} (h : M.length ≤ O.length) (hM : matOk M = true) (hO : matOk O = true) (hw : matW M + matW O ≤ 40) : matOk (joinF M O) = true := by
 have hl := joinF_len h
 have hn := matOk_n hM
 refine matOk_yes (by omega) fun k hk => ?_
 have hk' : k < M.length := by omega
 have a := matOk_row hM hk'
 have b := matOk_row hO (k := k) (by omega)
 rw [joinF_at h hk', join_w h (by omega), List.length_append]
 exact ⟨by omega, oks_app' a.2 b.2 (by omega)⟩
theorem Sm2_join {M O : List (List Fq)} (h : M.length ≤ O.length) (hM : Sm2 M) (hO : Sm2 O) (hw : ∀ k (hk : k < M.length), M[k].length + (O[k]'(by omega)).length ≤ 1048576) : Sm2 (joinF M O) := by
 refine ⟨fun K hK => ?_, by rw [joinF_len h]; exact hM.2⟩
 obtain ⟨k, hk, rfl⟩ := List.getElem_of_mem hK
 rw [joinF_len h] at hk
 rw [joinF_at h hk]
 refine ⟨fun f hf => ?_, by rw [List.length_append]; exact hw k hk⟩
 rcases List.mem_append.1 hf with hf | hf
 ·exact (hM.at hk).1 f hf
 ·exact (hO.at (by omega)).1 f hf
theorem fit_zero : fit (0 : Rat) := by have := fitO_i64 (n := 0) (by decide) (by decide); exact this _ rfl
theorem fit_one : fit (1 : Rat) := by have := fitO_i64 (n := 1) (by decide) (by decide); exact this _ rfl
end Go.Proofs.YtjjainnafihkdaaGreat

namespace Go.Proofs.YtjjainnafihkdaaGreat
open Go.RowKit
open Go.Lib (hid)
theorem joinRows_any {a b : Option Addr} {n c m d : Nat} {M O : List (List Fq)} {lo hi lo' hi' : Nat} (hM : Sm2 M) (hO : Sm2 O) (hl : M.length ≤ O.length) (w : World) (h : MW w a n M lo hi) (h' : MW w b m O lo' hi') :
  Calls Tryz.prog 111 #[.slice a n c, .slice b m d] w (fun e w' => ∃ a n c, e = .returned (.slice a n c) ∧ MW w' a n (joinF M O) 0 w'.heap.size ∧ Below w.heap.size w w') := by
 have HV := hid h
 have HW := hid h'
 obtain rfl := h.num
 obtain rfl := h'.num
 have hn := hM.2
 have hJl := joinF_len hl
 clear h h'
 go_enter Tryz.func111, Tryz.ntmps111
 go_wp2
 go_loopw [5, 10] (fun v i wr => ∃ (k : Nat) (a' : Option Addr) (c' : Nat), k ≤ M.length ∧ i = .int .i64 k ∧ v = .slice a' k c' ∧ Hid (JR wr (.slice a' k c') ((joinF M O).take k) w.heap.size) ∧ Hid (Below w.heap.size w wr)) (fun _ i _ => M.length - (intOf i).toNat)
 case atStart => exact ⟨0, none, 0, Nat.zero_le _, rfl, rfl, hid (JR_nil _ _), hid (Below.refl _ _)⟩
 case round =>
  obtain ⟨k, a', c', hk, rfl, rfl, hJ, hB⟩ := hrel
  by_cases hlt : k < M.length
  ·obtain ⟨g1, o1, b1, d1, rfl, hg1, q0, V1⟩ := (HV.out.old hB.out).at hlt
   obtain ⟨g2, o2, b2, d2, rfl, hg2, q1, V2⟩ := (HW.out.old hB.out).at (k := k) (by omega)
   have hs := joinF_snoc hl hlt
   have hk1 := (hM.at hlt).2
   have hk2 := (hO.at (k := k) (by omega)).2
   obtain ⟨K, hK⟩ : ∃ K, M[k] = K := ⟨_, rfl⟩
   obtain ⟨L, hL⟩ : ∃ L, O[k]'(by omega) = L := ⟨_, rfl⟩
   simp only [hK] at q0 V1 hs hk1
   simp only [hL] at q1 V2 hs hk2
   have HS := hid hs
   have HV1 := hid V1
   have HV2 := hid V2
   have a1' : (0 : Int) ≤ k := by omega
   have a2' : (k : Int) < M.length := by omega
   have a3' : (k : Int) < O.length := by omega
   have hz := hB.out.size
   have hTl := hid (show ((joinF M O).take k).length = k by rw [List.length_take, hJl]; omega)
   have BN := hid (below_new' (w := wr) (o := .cells #[.slice b1 K.length d1, .slice b2 L.length d2] 42))
   have KC := hid (concatR (by omega) (by omega) (wr.alloc (.cells #[.slice b1 K.length d1, .slice b2 L.length d2] 42)) (heap_alloc_new wr _) (V1.old BN.out) (V2.old BN.out))
   clear V1 V2 hs hK hL
   go_wp2_with fail
   (with_reducible refine (KC.out).mono ?_)
   rintro e w2 ⟨ax, nx, cx, rfl, hv, hb⟩
   have HBX := hid (BN.out.trans (hb.mono BN.out.size))
   have HB2 := hid (hB.out.trans (HBX.out.mono hz))
   have hz2 := HB2.out.size
   have HJ2 := hid (hJ.out.old HBX.out)
   have PJ := hid (HJ2.out.old (below_new' (o := .cells #[.slice ax nx cx] 42)))
   have PV := hid (hv.old (below_new' (o := .cells #[.slice ax nx cx] 42)))
   have PB := hid (heap_alloc_new w2 (.cells #[.slice ax nx cx] 42))
   have HB3 := hid (HB2.out.alloc hz2 (.cells #[.slice ax nx cx] 42))
   obtain ⟨xs, j1, j2, j3⟩ := PJ.out
   have J1 := hid j1
   have J2 := hid j2
   have J3 := hid j3
   rw [hTl.out] at J1
   clear hv hb j1 j2 j3 q0 q1
   go_wp2_with (at_builtin; refine wpList_pushH rfl _ _ rfl rfl J1.out rfl PB.out rfl (by omega) (by simp; omega) (m := k + 1) rfl ?_)
   intro gp cp wp hvp hbp hgp
   have HJ4 := hid (show JR wp (.slice (some ⟨gp, 0, none⟩) (k + 1) cp) ((joinF M O).take (k + 1)) w.heap.size by
    rw [← HS.out]
    exact JR.snoc J3.out J1.out PV.out J2.out hgp (by rw [hTl.out]) hvp)
   have HB4 := hid (HB3.out.trans hbp)
   clear hvp hbp hgp
   go_wp2
   go_roundw
   case rel => exact ⟨k + 1, some ⟨gp, 0, none⟩, cp, by omega, by go_num, rfl, HJ4, HB4⟩
   case measure => simp [intOf]; omega
  ·obtain rfl : k = M.length := by omega
   have R := hid (show ∃ a n c, (Ending.returned (.slice a' M.length c')) = .returned (.slice a n c) ∧ MW wr a n (joinF M O) 0 wr.heap.size ∧ Below w.heap.size w wr from ⟨_, _, _, rfl, by
    have := hJ.out.mw
    rwa [← hJl, List.take_length, hJl] at this, hB.out⟩)
   go_wp2
   go_ret
   exact R.out
end Go.Proofs.YtjjainnafihkdaaGreat

namespace Go.Proofs.YtjjainnafihkdaaGreat
open Go.RowKit
open Go.Lib (hid)
end Go.Proofs.YtjjainnafihkdaaGreat

namespace Go.Proofs.YtjjainnafihkdaaGreat
open Go.RowKit
open Go.Lib (hid)
theorem natI_gz {ps : List Nat} {k : Nat} (h : k < (natI ps).length) : (natI ps)[k] = (ps[k]'(by rw [natI_len] at h; exact h) : Int) := by simp [natI]
theorem Ints_nz {w : World} {lo : Nat} {a : Option Addr} {n c : Nat} {ps : List Nat} (h : Ints w lo (.slice a n c) (natI ps)) : n = ps.length ∧ ∀ k (hk : k < ps.length), ∃ g o, a = some ⟨g, o, none⟩ ∧ w.cell? ⟨g, o + k, none⟩ = some (.int .i64 (ps[k] : Int)) := by
 obtain ⟨a', c', e, -, hr, -⟩ := Ints_form h
 simp only [Value.slice.injEq] at e
 obtain ⟨rfl, rfl, rfl⟩ := e
 refine ⟨natI_len ps, fun k hk => ?_⟩
 have hl := natI_len ps
 obtain ⟨g, o, e, -, hc⟩ := hr.2 (by omega)
 have := hc k (by omega)
 rw [natI_gz (by omega)] at this
 exact ⟨g, o, e, this⟩
structure SX (w : World) (v : Value) (K : List Fq) (Es : List (List El)) (W j lo h0 : Nat) : Prop where
 vo : ∃ E, VO true w v E lo w.heap.size ∧ keys E = K ∧ ∀ e ∈ E, (∃ i, ∃ (hi : i < Es.length), i < j ∧ ∃ hW : W < Es[i].length, e = Es[i][W]) ∨ ∀ k, (e.v.ownBlock = some k ∨ e.u.ownBlock = some k) → h0 ≤ k
theorem SX.zero {w : World} {v : Value} {K : List Fq} {Es : List (List El)} {W lo h0 hi : Nat} (h : VK true w v K h0 hi) (hh : hi ≤ w.heap.size) (hl : lo ≤ h0) : SX w v K Es W 0 lo h0 := by
 obtain ⟨E, h, e⟩ := h
 refine ⟨E, h.wide hl hh, e, fun x hx => .inr fun k hk => ?_⟩
 have r := h.el x hx
 exact hk.elim (fun e => (Ints_lt r.a.ints k e).1) (fun e => (Ints_lt r.d.ints k e).1)
theorem flat_apt {Es : List (List El)} (h : Es.flatten.Pairwise Apt) {i j W V : Nat} (hi : i < Es.length) (hj : j < Es.length) (hne : i < j) (hW : W < Es[i].length) (hV : V < Es[j].length) : Apt Es[i][W] Es[j][V] := by
 have := List.pairwise_iff_getElem.1 (List.pairwise_flatten.1 h).2 i j hi hj hne
 exact this _ (List.getElem_mem hW) _ (List.getElem_mem hV)
theorem SX.put {w : World} {g n c : Nat} {K : List Fq} {Es : List (List El)} {W j p lo h0 h1 : Nat} (h : SX w (.slice (some ⟨g, 0, none⟩) n c) K Es W j lo h0) (hap : Es.flatten.Pairwise Apt) (hro : ∀ e ∈ Es.flatten, ROw w e.v e.u e.q.A e.q.D lo h1 ∧ NdE e) (hh : h1 ≤ h0) (hhw : h1 ≤ w.heap.size) (hj : j < Es.length) (hW : W < Es[j].length) (hp : p < K.length) {s : Bool} {x y : Value} (hs : s = Es[j][W].q.s) (hx : x = Es[j][W].v) (hy : y = Es[j][W].u) {f : Fq} (hf : Es[j][W].q = f) :
  SX (((w.setCell ⟨g, p * 3, none⟩ (.bool s)).setCell ⟨g, p * 3 + 1, none⟩ x).setCell ⟨g, p * 3 + 2, none⟩ y) (.slice (some ⟨g, 0, none⟩) n c) (K.set p f) Es W (j + 1) lo h0 := by
 obtain ⟨E, hE, rfl, hE2⟩ := h.vo
 rw [keys_len] at hp
 subst hs hx hy hf
 have hm : Es[j][W] ∈ Es.flatten := List.mem_flatten.2 ⟨_, List.getElem_mem hj, List.getElem_mem hW⟩
 obtain ⟨ro, nd⟩ := hro _ hm
 have hput := hE.put (i := p) (e := Es[j][W]) hp ⟨ro.a.wide (Nat.le_refl _) (.inr hhw), ro.d.wide (Nat.le_refl _) (.inr hhw)⟩ (fun _ => nd) (fun _ k hk hne => by
  rcases hE2 _ (List.getElem_mem hk) with ⟨i, hi, hij, hiW, e⟩ | hz
  ·rw [e]; exact flat_apt hap hi hj hij hiW hW
  ·intro b b1 b2
   have h2 := hz b b1
   have : b < h1 := b2.elim (ro.a.high b) (ro.d.high b)
   omega)
 refine ⟨E.set p Es[j][W], by simpa [size_set] using hput, by rw [keys, List.map_set]; rfl, fun e he => ?_⟩
 rcases List.mem_or_eq_of_mem_set he with he | rfl
 ·rcases hE2 e he with ⟨i, hi, hij, hiW, e'⟩ | hz
  ·exact .inl ⟨i, hi, by omega, hiW, e'⟩
  ·exact .inr hz
 ·exact .inl ⟨j, hj, by omega, hW, rfl⟩
end Go.Proofs.YtjjainnafihkdaaGreat
