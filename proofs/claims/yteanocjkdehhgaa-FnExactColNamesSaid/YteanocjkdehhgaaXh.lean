/- The laws' helpers on slices of slices of fractions' structs. -/
import Derived.Test.YteanocjkdehhgaaXm
import Derived.Deep.RegionHeld3
namespace Go.Proofs.Yteanocjkdehhgaa
open Go.RowKit
open Go.Lib (hid)
set_option linter.unusedVariables false

def mdM (M : List (List Fq)) (m : Int) (k : Nat) : List (List Fq) := mkM (M.take k) m ++ M.drop k
theorem mkM_append : ∀ (M L : List (List Fq)) (m : Int), mkM (M ++ L) m = mkM M m ++ mkM L (m + (szM M : Int))
  | [], L, m => by simp [mkM, szM]
  | K :: M, L, m => by
    simp only [List.cons_append, mkM, mkM_append M L, szM]
    congr 3
    omega
theorem mdM_zero (M : List (List Fq)) (m : Int) : mdM M m 0 = M := by simp [mdM, mkM]
theorem mdM_all (M : List (List Fq)) (m : Int) : mdM M m M.length = mkM M m := by simp [mdM]
theorem mdM_len {M : List (List Fq)} {m : Int} {k : Nat} (h : k ≤ M.length) : (mdM M m k).length = M.length := by simp [mdM, mkM_len]; omega
theorem mdM_at {M : List (List Fq)} {m : Int} {k : Nat} (h : k < M.length) : (mdM M m k)[k]'(by rw [mdM_len (by omega)]; exact h) = M[k] := by
  have hl : (mkM (M.take k) m).length = k := by rw [mkM_len, List.length_take]; omega
  simp only [mdM]
  rw [List.getElem_append_right (by omega)]
  simp [hl]
theorem mdM_set {M : List (List Fq)} {m : Int} {k : Nat} (h : k < M.length) : (mdM M m k).set k (mkK M[k] (m + (szM (M.take k) : Int))) = mdM M m (k + 1) := by
  have hl : (mkM (M.take k) m).length = k := by rw [mkM_len, List.length_take]; omega
  simp only [mdM]
  rw [List.set_append_right k _ (by omega), hl, Nat.sub_self, List.drop_eq_getElem_cons h, List.set_cons_zero, List.take_succ_eq_append_getElem h, mkM_append]
  simp [mkM]
set_option maxRecDepth 100000 in
set_option maxHeartbeats 1600000 in
theorem szRatSS_yes (a : Option Addr) (n c h : Nat) (M : List (List Fq)) (z : Int) (h0 : (M.length : Int) + (szM M : Int) ≤ z) (h1 : z ≤ 1048576) (w : World) (hc : MCame w h a n M) :
    Calls Try.prog 72 #[.slice a n c, .int .i64 z] w (RetB (.int .i64 (z - (M.length : Int) - (szM M : Int))) w) := by
  have HC := hid hc
  obtain rfl := hc.1
  clear hc
  go_enter Try.func72, Try.ntmps72
  go_wp2
  go_loopw [1, 5] (fun x i wr => ∃ (k : Nat) (y : Int), k ≤ M.length ∧ i = .int .i64 k ∧ x = .int .i64 y ∧ Hid (y = z - (M.length : Int) - (szM (M.take k) : Int)) ∧ Below w.heap.size w wr) (fun _ i _ => M.length - (intOf i).toNat)
  case atStart => exact ⟨0, z - (M.length : Int), Nat.zero_le _, rfl, rfl, hid (by simp [szM]), Below.refl _ _⟩
  case round =>
    obtain ⟨k, y, hk, rfl, rfl, hy, hbel⟩ := hrel
    by_cases hlt : k < M.length
    · obtain ⟨g, o, rfl, -, hg, hce⟩ := HC.out.2 (by omega)
      obtain ⟨b, d, q0, hv⟩ := hce k hlt
      have q0 := (hbel.cell (p := ⟨g, o + k, none⟩) hg).trans q0
      have hv := hv.old hbel
      have hs := szM_take hlt
      have hle := szM_at hlt
      clear hce
      generalize M[k] = K at q0 hv hs hle
      have HS := hid hs
      have hy1 : y ≤ 1048576 := by have := hy.out; omega
      have hy2 : (szK K : Int) ≤ y := by have := hy.out; omega
      have KS := hid (szRatS_yes b K.length d h K y hy2 hy1 wr hv)
      have HB := hid hbel
      have hy3 : ¬ y - (szK K : Int) < 0 := by omega
      have a1' : (0 : Int) ≤ k := by omega
      have a2 : (k : Int) < M.length := by omega
      clear hs hv hbel
      go_wp2_with fail
      (with_reducible refine (KS.out).mono ?_)
      rintro e w1 ⟨rfl, b1⟩
      have HB := hid (HB.out.trans (b1.mono HB.out.size))
      clear b1 q0
      go_wp2
      go_roundw
      case rel => exact ⟨k + 1, y - (szK K : Int), by omega, by go_num, rfl, hid (by have := hy.out; have := HS.out; omega), HB.out⟩
      case measure => simp [intOf]; omega
    · obtain rfl : k = M.length := by omega
      have HY := hid hbel
      clear hbel
      go_wp2
      go_ret
      exact ⟨ret_in (by have := hy.out; rw [List.take_length] at this; omega), HY.out⟩
/-- What came in is of a length that a slice may have. -/
def MLen (M : List (List Fq)) : Prop := ∀ K ∈ M, K.length ≤ maxLen ∧ ∀ f ∈ K, f.A.length ≤ maxLen ∧ f.D.length ≤ maxLen
set_option maxRecDepth 100000 in
set_option maxHeartbeats 1600000 in
theorem szRatSS_no (a : Option Addr) (n c h : Nat) (M : List (List Fq)) (z : Int) (hn : n ≤ maxLen) (hM : MLen M) (h0 : z < (M.length : Int) + (szM M : Int)) (hz : 0 ≤ z) (h1 : z ≤ 1048576) (w : World) (hc : MCame w h a n M) :
    Calls Try.prog 72 #[.slice a n c, .int .i64 z] w (RetB (.int .i64 (-1)) w) := by
  have HC := hid hc
  have HM := hid hM
  obtain rfl := hc.1
  clear hc hM
  unfold maxLen at hn
  by_cases hzl : z < (M.length : Int)
  · go_enter Try.func72, Try.ntmps72
    go_wp2
    go_ret
    exact ⟨rfl, Below.refl _ _⟩
  go_enter Try.func72, Try.ntmps72
  go_wp2
  go_loopw [1, 5] (fun x i wr => ∃ (k : Nat) (y : Int), k ≤ M.length ∧ i = .int .i64 k ∧ x = .int .i64 y ∧ Hid (y = z - (M.length : Int) - (szM (M.take k) : Int) ∧ 0 ≤ y) ∧ Below w.heap.size w wr) (fun _ i _ => M.length - (intOf i).toNat)
  case atStart => exact ⟨0, z - (M.length : Int), Nat.zero_le _, rfl, rfl, hid ⟨by simp [szM], by omega⟩, Below.refl _ _⟩
  case round =>
    obtain ⟨k, y, hk, rfl, rfl, hy, hbel⟩ := hrel
    by_cases hlt : k < M.length
    · obtain ⟨g, o, rfl, -, hg, hce⟩ := HC.out.2 (by omega)
      obtain ⟨b, d, q0, hv⟩ := hce k hlt
      have q0 := (hbel.cell (p := ⟨g, o + k, none⟩) hg).trans q0
      have hv := hv.old hbel
      have hs := szM_take hlt
      have hm := HM.out _ (List.getElem_mem hlt)
      clear hce
      generalize M[k] = K at q0 hv hs hm
      have HS := hid hs
      have HMM := hid hm
      have hy0 : 0 ≤ y := hy.out.2
      have hy1 : y ≤ 1048576 := by have := hy.out.1; omega
      have HB := hid hbel
      have a1' : (0 : Int) ≤ k := by omega
      have a2 : (k : Int) < M.length := by omega
      clear hs hbel hm
      by_cases hfit : (szK K : Int) ≤ y
      · have KS := hid (szRatS_yes b K.length d h K y hfit hy1 wr hv)
        have hy3 : ¬ y - (szK K : Int) < 0 := by omega
        clear hv
        go_wp2_with fail
        (with_reducible refine (KS.out).mono ?_)
        rintro e w1 ⟨rfl, b1⟩
        have HB := hid (HB.out.trans (b1.mono HB.out.size))
        clear b1 q0
        go_wp2
        go_roundw
        case rel => exact ⟨k + 1, y - (szK K : Int), by omega, by go_num, rfl, hid ⟨by have := hy.out.1; have := HS.out; omega, by omega⟩, HB.out⟩
        case measure => simp [intOf]; omega
      · have KS := hid (szRatS_no b K.length d h K y HMM.out.1 HMM.out.2 (by omega) hy0 hy1 wr hv)
        clear hv
        go_wp2_with fail
        (with_reducible refine (KS.out).mono ?_)
        rintro e w1 ⟨rfl, b1⟩
        have HB := hid (HB.out.trans (b1.mono HB.out.size))
        clear b1 q0
        go_wp2
        go_ret
        exact ⟨rfl, HB.out⟩
    · exfalso
      obtain rfl : k = M.length := by omega
      have := hy.out
      rw [List.take_length] at this
      omega
theorem made_one (z : Value) (n : Nat) : (madeCells #[z] n).toList = List.replicate n z := by
  apply List.ext_getElem?
  intro j
  by_cases hj : j < n
  · simp [madeCells, hj, Nat.mod_one]
  · simp [madeCells, hj]
theorem run_make_one {P : Program} (t e : TypeId) (z : Value) (bytes : Nat) (ht : P.underlying t = some (.slice e)) (hinfo : (P.info? e).map (fun i => (i.zero, i.size, i.bytes)) = some (some z, 1, bytes)) (hz1 : z.cells = #[z])
    (kl kc : IntKind) (n : Nat) (hbytes : bytes * n ≤ 281474976710656) (h63 : n ≤ 9223372036854775807) (w : World) :
    (Instr.makeSlice t (.int kl (n : Int)) (.int kc (n : Int))).run P w = .ok (.slice (some ⟨w.heap.size, 0, none⟩) n n) (w.alloc (.cells (madeCells #[z] n) e)) := by
  have := run_make_rowk (P := P) t e z #[z] 1 bytes ht hinfo hz1 kl kc n hbytes h63 w
  rwa [Nat.mul_one] at this
set_option maxRecDepth 100000 in
set_option maxHeartbeats 3200000 in
theorem toRatSS_came (a : Option Addr) (n c h : Nat) (M : List (List Fq)) (hM : M.length + szM M ≤ 1048576) (w : World) (hc : MCame w h a n M) :
    Calls Try.prog 78 #[.slice a n c] w (MatK true M w) := by
  have HC := hid hc
  obtain rfl := hc.1
  clear hc
  have hl : M.length ≤ 1048576 := by omega
  go_enter Try.func78, Try.ntmps78
  have hmk := fun W => run_make_one (P := Try.prog) 68 105 (.slice none 0 0) 24 Try.underlying68 infoRow rfl .i64 .i64 M.length (by omega) (by omega) W
  have HR := hid (show (w.alloc (.cells (madeCells #[.slice none 0 0] M.length) 105)).ownsRow w.heap.size 105 1 (.slice (some ⟨w.heap.size, 0, none⟩) M.length M.length) M.length (([] : List Rw).map Rw.v ++ List.replicate (M.length - 0) (.slice none 0 0)) from
    ⟨by simp, .inr ⟨w.heap.size, M.length, _, rfl, Nat.le_refl _, heap_alloc_new w _, Nat.le_refl _, by unfold maxLen; omega, by simp [size_madeCells], by rw [made_one]; simp⟩⟩)
  have HA := hid (show Below w.heap.size w (w.alloc (.cells (madeCells #[.slice none 0 0] M.length) 105)) from (Below.refl _ _).alloc (Nat.le_refl _) _)
  have HS := hid (show (w.alloc (.cells (madeCells #[.slice none 0 0] M.length) 105)).heap.size = w.heap.size + 1 by simp)
  go_wp2
  clear hmk
  generalize w.alloc (.cells (madeCells #[.slice none 0 0] M.length) 105) = w1 at HR HA HS ⊢
  obtain ⟨g, hg⟩ : ∃ g, g = w.heap.size := ⟨_, rfl⟩
  have HG := hid hg
  rw [← hg] at HR HA HS
  rw [← hg]
  clear hg
  go_loopw [4] (fun i wr => ∃ (k : Nat) (R : List Rw), k ≤ M.length ∧ i = .int .i64 k ∧ Hid (R.map Rw.K = M.take k) ∧ Hid (wr.ownsRow g 105 1 (.slice (some ⟨g, 0, none⟩) M.length M.length) M.length (R.map Rw.v ++ List.replicate (M.length - k) (.slice none 0 0))) ∧ Hid (∀ r ∈ R, VK true wr r.v r.K r.lo r.hi ∧ g < r.lo ∧ r.lo ≤ r.hi ∧ r.hi ≤ wr.heap.size) ∧ Hid (R.Pairwise fun r r' => r.hi ≤ r'.lo) ∧ Below g w wr ∧ g < wr.heap.size) (fun i _ => M.length - (intOf i).toNat)
  case atStart => exact ⟨0, [], Nat.zero_le _, rfl, hid rfl, HR, hid (fun r hr => by cases hr), hid List.Pairwise.nil, HA.out, by rw [HS.out]; omega⟩
  case round =>
    obtain ⟨k, R, hk, rfl, hK, hR, hE, hP, hbel, hgl⟩ := hrel
    have hRl := hid (show R.length = k by have := congrArg List.length hK.out; rw [List.length_map, List.length_take] at this; omega)
    by_cases hlt : k < M.length
    · obtain ⟨g1, o1, rfl, -, hg1, hce⟩ := HC.out.2 (by omega)
      obtain ⟨b, d, q0, hv⟩ := hce k hlt
      have hbw := hbel.mono (B' := w.heap.size) (by rw [HG.out]; exact Nat.le_refl _)
      have q0 := (hbw.cell (p := ⟨g1, o1 + k, none⟩) hg1).trans q0
      have hv := hv.old hbw
      have hn1 := szM_at hlt
      have htk := hid (List.take_succ_eq_append_getElem hlt)
      clear hce hbw
      generalize M[k] = K at q0 hv hn1 htk
      have KT := hid (toRatS_came b K.length d h K (by omega) wr hv)
      have HB := hid hbel
      have a1' : (0 : Int) ≤ k := by omega
      have a2 : (k : Int) < M.length := by omega
      have hgl2 := hid hgl
      clear hv hbel hn1 hgl
      go_wp2_with fail
      (with_reducible refine (KT.out).mono ?_)
      rintro e w2 ⟨a2', n2, c2, rfl, hO, hb⟩
      have hsz := hid hb.size
      have HB := hid (HB.out.trans (hb.mono (Nat.le_of_lt hgl2.out)))
      have hR2 := hid (own_block hR.out fun j hj => hb.block j (hR.out.lt j hj).2)
      have hE2 := hid (show ∀ r ∈ R, VK true w2 r.v r.K r.lo r.hi ∧ g < r.lo ∧ r.lo ≤ r.hi ∧ r.hi ≤ w2.heap.size from fun r hr => by
        have e := hE.out r hr
        exact ⟨e.1.old hb, e.2.1, e.2.2.1, Nat.le_trans e.2.2.2 hb.size⟩)
      have hO2 := hid hO
      have hcell := hR2.out.cells (g := g) rfl k (.slice none 0 0) (by rw [List.getElem?_append_right (by rw [List.length_map, hRl.out]; exact Nat.le_refl _), List.length_map, hRl.out, Nat.sub_self, show M.length - k = (M.length - (k + 1)) + 1 by omega, List.replicate_succ]; rfl)
      rw [Go.WideShapes.add_plain, Nat.zero_add] at hcell
      have f0 := World.ownsRow.frozenAt hR2.out k
      have hst := hid (World.ownsRow.stored hR2.out k (.slice a2' n2 c2)).1
      have hne := hid (show ∀ (y : Value) (L : List Fq) (l h' : Nat), VK true w2 y L l h' → g < l → VK true (w2.setCell ⟨g, k, none⟩ (.slice a2' n2 c2)) y L l h' from fun y L l h' hy hl => hy.block fun j j1 j2 j3 => Below.heap_setCell _ _ _ _ (by show j ≠ g; omega))
      have hset := hid (show (R.map Rw.v ++ List.replicate (M.length - k) (Value.slice none 0 0)).set k (Value.slice a2' n2 c2) = (R ++ ([⟨.slice a2' n2 c2, K, wr.heap.size, w2.heap.size⟩] : List Rw)).map Rw.v ++ List.replicate (M.length - (k + 1)) (Value.slice none 0 0) by
        rw [List.set_append_right k _ (by rw [List.length_map, hRl.out]; exact Nat.le_refl _), List.length_map, hRl.out, Nat.sub_self, show M.length - k = (M.length - (k + 1)) + 1 by omega, List.replicate_succ, List.set_cons_zero, List.map_append, List.append_assoc]; rfl)
      have HB2 := hid (HB.out.setCell (p := ⟨g, k, none⟩) (Nat.le_refl _) (.slice a2' n2 c2))
      clear hb hO q0
      go_wp2
      go_roundw
      case rel =>
        refine ⟨k + 1, R ++ [⟨.slice a2' n2 c2, K, wr.heap.size, w2.heap.size⟩], by omega, by go_num, hid ?_, hid ?_, hid (fun r hr => ?_), hid ?_, HB2.out, ?_⟩
        · rw [List.map_append, hK.out, htk.out]; rfl
        · rw [← hset.out]; exact hst.out
        · simp only [size_set]
          rcases List.mem_append.1 hr with hr | hr
          · have e := hE2.out r hr
            exact ⟨hne.out _ _ _ _ e.1 e.2.1, e.2⟩
          · rw [List.mem_singleton.1 hr]
            exact ⟨hne.out _ _ _ _ hO2.out hgl2.out, hgl2.out, hsz.out, Nat.le_refl _⟩
        · refine List.pairwise_append.2 ⟨hP.out, List.pairwise_singleton _ _, fun r hr r' hr' => ?_⟩
          rw [List.mem_singleton.1 hr']
          exact (hE.out r hr).2.2.2
        · simp only [size_set]; have := hgl2.out; have := hsz.out; omega
      case measure => simp [intOf]; omega
    · obtain rfl : k = M.length := by omega
      have HB := hid hbel
      clear hbel
      go_wp2
      go_ret
      have h1 := hR.out
      rw [Nat.sub_self, List.replicate_zero, List.append_nil] at h1
      have h2 := hK.out
      rw [List.take_length] at h2
      have h3 := HG.out
      subst h3
      refine MatK_of rfl ⟨R, ⟨by rw [hRl.out]; exact h1, fun j hj => (h1.lt j hj).2, fun r hr => ?_, hP.out, fun j hj r hr => .inl ?_⟩, h2⟩ HB.out
      · have e := hE.out r hr
        exact ⟨e.1, Nat.le_of_lt e.2.1, e.2.2⟩
      · have : j = w.heap.size := by simpa [Value.ownBlock] using hj.symm
        rw [this]
        exact (hE.out r hr).2.1
set_option maxRecDepth 100000 in
set_option maxHeartbeats 3200000 in
theorem eqRatSS_w {a1 a2 : Option Addr} {n1 n2 c1 c2 : Nat} {M : List (List Fq)} {l1 h1 l2 h2 : Nat} (hM : szM M ≤ 4194304) (hL : M.length ≤ 4194304) (w : World) (o1 : MW w a1 n1 M l1 h1) (o2 : MW w a2 n2 M l2 h2) :
    Calls Try.prog 83 #[.slice a1 n1 c1, .slice a2 n2 c2] w (RetB (.bool true) w) := by
  have HM := hid hM
  have O1 := hid o1
  have O2 := hid o2
  obtain rfl := o1.1
  obtain rfl := o2.1
  clear o1 o2 hM
  go_enter Try.func83, Try.ntmps83
  go_wp2
  go_loopw [5] (fun i wr => ∃ (k : Nat), k ≤ M.length ∧ i = .int .i64 k ∧ Below w.heap.size w wr) (fun i _ => M.length - (intOf i).toNat)
  case atStart => exact ⟨0, Nat.zero_le _, rfl, Below.refl _ _⟩
  case round =>
    obtain ⟨k, hk, rfl, hbel⟩ := hrel
    by_cases hlt : k < M.length
    · obtain ⟨g1, p1, b1, d1, rfl, hg1, q0, R1⟩ := (O1.out.old hbel).at hlt
      obtain ⟨g2, p2, b2, d2, rfl, hg2, q1, R2⟩ := (O2.out.old hbel).at hlt
      have hn := szM_at hlt
      have hMv := HM.out
      generalize M[k] = K at q0 q1 R1 R2 hn
      have KE := hid (fun (W : World) (hb : Below wr.heap.size wr W) => eqRatS_w (c1 := d1) (c2 := d2) (show szK K ≤ 4194304 by omega) W (R1.old hb) (R2.old hb))
      have HB := hid hbel
      have a1' : (0 : Int) ≤ k := by omega
      have a2' : (k : Int) < M.length := by omega
      clear R1 R2 hbel hn
      go_wp2_with fail
      go_region_held3 (fun w' => w'.cell? ⟨g1, p1 + k, none⟩ = some (.slice b1 K.length d1) ∧ w'.cell? ⟨g2, p2 + k, none⟩ = some (.slice b2 K.length d2)) (first | with_reducible exact ⟨q0, q1⟩ | go_keep)
        (first | (go_at_call 117; (with_reducible refine (KE.out _ (Below_drew1 (Below.refl _ _))).mono ?_); rintro e w2 ⟨rfl, hb⟩; have HB2 := hid ((Below_drew1 HB.out).trans (hb.mono HB.out.size)); have q0 := (hb.cell (p := ⟨g1, p1 + k, none⟩) hg1).trans q0; have q1 := (hb.cell (p := ⟨g2, p2 + k, none⟩) hg2).trans q1; clear hb))
      clear q0 q1
      go_wp2
      go_roundw
      case rel => exact ⟨k + 1, by omega, by go_num, HB2.out⟩
      case measure => simp [intOf]; omega
    · have HB := hid hbel
      clear hbel
      go_wp2
      go_ret
      exact ⟨rfl, HB.out⟩
def MarkM (v : Value) (M : List (List Fq)) (m : Int) (lo hi : Nat) (w : World) (e : Ending) (w' : World) : Prop := e = .returned (.int .i64 (m + (szM M : Int))) ∧ MK true w' v (mkM M m) lo hi ∧ Only (InG lo hi w.heap.size) w w'
end Go.Proofs.Yteanocjkdehhgaa
