/- Merged: Yl Yq Yr. -/
import Derived.Test.YtamhmpjadnfpdaaGreatYk
import Derived.Test.YtamhmpjadnfpdaaGreatXh
import Derived.Test.YtamhmpjadnfpdaaGreatYh
/- The rows' reduced form, the pivots and the rank: what they are, and the program's functions. -/
namespace Go.Proofs.YtamhmpjadnfpdaaGreat
open Go.RowKit
open Go.Lib (hid)
set_option linter.unusedVariables false
set_option linter.unusedSimpArgs false

/-- The fractions of structs. -/
def un (M : List (List Fq)) : List (List Rat) := M.map fun K => K.map fun f => f.o.getD 0
theorem un_fr : ∀ {X : List Rat}, AF X → (rv X).map (fun f => f.o.getD 0) = X
  | [], _ => rfl
  | x :: X, h => by
    have ih := un_fr (X := X) fun y hy => h y (List.mem_cons_of_mem _ hy)
    unfold rv at ih ⊢
    rw [List.map_cons, List.map_cons, fr_o (h x (List.mem_cons_self ..)), Option.getD_some, ih]
theorem un_row {K : List Fq} (h : oks (vals K) = true) : K = rv (K.map fun f => f.o.getD 0) ∧ AF (K.map fun f => f.o.getD 0) := by
  obtain ⟨X, e, hX⟩ := rv_row h
  subst e
  rw [un_fr hX]
  exact ⟨rfl, hX⟩
theorem un_rv {M : List (List Fq)} (h : matOk M = true) : M = (un M).map rv ∧ Rows (matW M) (un M) := by
  have hr : ∀ K ∈ M, K.length = matW M ∧ oks (vals K) = true := fun K hK => by
    obtain ⟨k, hk, rfl⟩ := List.getElem_of_mem hK
    exact matOk_row h hk
  refine ⟨?_, fun X hX => ?_, fun X hX => ?_⟩
  · unfold un
    rw [List.map_map]
    conv => lhs; rw [← List.map_id M]
    exact List.map_congr_left fun K hK => (un_row (hr K hK).2).1
  · obtain ⟨K, hK, rfl⟩ := List.mem_map.1 hX
    rw [List.length_map]; exact (hr K hK).1
  · obtain ⟨K, hK, rfl⟩ := List.mem_map.1 hX
    exact (un_row (hr K hK).2).2
theorem un_len (M : List (List Fq)) : (un M).length = M.length := by simp [un]
noncomputable def redM (M : List (List Fq)) : Option (List (List Rat) × List Nat) := if matOk M = true then redK (un M) (matW M) else none
noncomputable def rreM (M : List (List Fq)) : List (List Fq) := match redM M with
  | none => []
  | some (S, _) => S.map rv
noncomputable def pivM (M : List (List Fq)) : List Int := match redM M with
  | none => []
  | some (_, ps) => natI ps
theorem redM_no {M : List (List Fq)} (h : matOk M = false) : rreM M = [] ∧ pivM M = [] := by
  unfold rreM pivM redM
  rw [h, if_neg (by decide)]
  exact ⟨rfl, rfl⟩
theorem redM_none {M : List (List Fq)} (h : matOk M = true) (e : redK (un M) (matW M) = none) : rreM M = [] ∧ pivM M = [] := by
  unfold rreM pivM redM
  rw [h, if_pos rfl, e]
  exact ⟨rfl, rfl⟩
theorem redM_some {M : List (List Fq)} (h : matOk M = true) {S : List (List Rat)} {ps : List Nat} (e : redK (un M) (matW M) = some (S, ps)) : rreM M = S.map rv ∧ pivM M = natI ps := by
  unfold rreM pivM redM
  rw [h, if_pos rfl, e]
  exact ⟨rfl, rfl⟩
theorem redM_nil {M : List (List Fq)} (h0 : M.length = 0) : rreM M = [] ∧ pivM M = [] := by
  have : M = [] := List.eq_nil_of_length_eq_zero h0
  subst this
  exact redM_some (M := []) rfl rfl
theorem fv_sz {X : List Rat} (h : AF X) (hl : X.length ≤ 40) : szK (rv X) ≤ 1960 := by
  have := szK_each (K := rv X) fun f hf => by
    obtain ⟨x, hx, rfl⟩ := List.mem_map.1 hf
    exact fqo_n (o := some x) fun y e => by cases e; exact h x hx
  rw [rv_len] at this
  omega
theorem rreM_sz (M : List (List Fq)) : (rreM M).length ≤ 40 ∧ szM (rreM M) ≤ 78400 := by
  cases hok : matOk M with
  | false => rw [(redM_no hok).1]; simp [szM]
  | true =>
    cases e : redK (un M) (matW M) with
    | none => rw [(redM_none hok e).1]; simp [szM]
    | some q =>
      obtain ⟨S, ps⟩ := q
      have hi := redK_inv (un_rv hok).2 e
      have hn := matOk_n hok
      have hw := matOk_w hok
      rw [(redM_some hok e).1]
      have hl : (S.map rv).length ≤ 40 := by rw [List.length_map, hi.2.1, un_len]; exact hn
      refine ⟨hl, szM_40 hl fun K hK => ?_⟩
      obtain ⟨X, hX, rfl⟩ := List.mem_map.1 hK
      exact fv_sz (hi.1.af X hX) (by rw [hi.1.len X hX]; exact hw)
theorem pivM_sz (M : List (List Fq)) : (pivM M).length ≤ 40 := by
  cases hok : matOk M with
  | false => rw [(redM_no hok).2]; simp
  | true =>
    cases e : redK (un M) (matW M) with
    | none => rw [(redM_none hok e).2]; simp
    | some q =>
      obtain ⟨S, ps⟩ := q
      have hi := redK_inv (un_rv hok).2 e
      have hn := matOk_n hok
      rw [(redM_some hok e).2, natI_len]
      have := hi.2.1
      rw [un_len] at this
      omega
/-- A slice of rows of the program's own. -/
def MXK (w : World) (v : Value) (M : List (List Fq)) (lo hi : Nat) : Prop := MAK w v M lo hi ∨ ∃ G n cap As P, v = .slice (some ⟨G, 0, none⟩) n cap ∧ MX w G n cap As P lo hi ∧ P.map (sgk As) = M
theorem MXK.old {w w' : World} {v : Value} {M : List (List Fq)} {lo hi : Nat} (h : MXK w v M lo hi) (hb : Below w.heap.size w w') : MXK w' v M lo hi := by
  rcases h with h | ⟨G, n, cap, As, P, e, h, hk⟩
  · exact .inl (h.old hb)
  · exact .inr ⟨G, n, cap, As, P, e, h.old hb, hk⟩
theorem MXK.onlyG {w w' : World} {v : Value} {M : List (List Fq)} {lo hi a b : Nat} (h : MXK w v M lo hi) (hb : Only (InG a b w.heap.size) w w') (hd : hi ≤ a ∨ b ≤ lo) : MXK w' v M lo hi := by
  rcases h with h | ⟨G, n, cap, As, P, e, h, hk⟩
  · exact .inl (h.onlyG hb hd)
  · exact .inr ⟨G, n, cap, As, P, e, h.onlyG hb hd, hk⟩
theorem MXK.num {w : World} {a : Option Addr} {n d : Nat} {M : List (List Fq)} {lo hi : Nat} (h : MXK w (.slice a n d) M lo hi) : n = M.length := by
  rcases h with h | ⟨G, n', cap, As, P, e, h, rfl⟩
  · exact h.num
  · simp only [Value.slice.injEq] at e
    rw [List.length_map, h.len]
    exact e.2.1
theorem MXK.mw {w : World} {a : Option Addr} {n d : Nat} {M : List (List Fq)} {lo hi : Nat} (h : MXK w (.slice a n d) M lo hi) : MW w a n M lo hi := by
  rcases h with h | ⟨G, n', cap, As, P, e, h, rfl⟩
  · exact h.mw
  · simp only [Value.slice.injEq] at e
    obtain ⟨rfl, rfl, rfl⟩ := e
    have hl := h.len
    have hlG := h.lo_le
    refine ⟨by rw [List.length_map, hl], fun h0 => ⟨G, 0, rfl, hlG.1, h.gh, hlG.2, fun i hi' => ?_⟩⟩
    rw [List.length_map] at hi'
    have hv := h.view hi'
    have hc := h.row.cells (g := G) rfl i (hdr As P[i]) (by simp [hi'])
    rw [Go.WideShapes.add_plain, Nat.zero_add] at hc
    simp only [List.getElem_map, Nat.zero_add]
    have hs : (sgk As P[i]).length = ((ag As P[i].1).seg P[i].2).length := by rw [sgk, keys_len]
    rw [hs]
    exact ⟨_, _, hc, hv⟩
/-- A row, to be marked. -/
theorem MXK.row {w : World} {a : Option Addr} {n d : Nat} {M : List (List Fq)} {lo hi : Nat} (h : MXK w (.slice a n d) M lo hi) {k : Nat} (hk : k < M.length) :
    ∃ G g o c, a = some ⟨G, 0, none⟩ ∧ G < w.heap.size ∧ w.cell? ⟨G, k, none⟩ = some (.slice (some ⟨g, o, none⟩) M[k].length c) ∧
      ∀ y : Int, szK M[k] ≤ 4194304 → 0 ≤ y → y ≤ 4194304 → Calls Tryz.prog 32 #[.slice (some ⟨g, o, none⟩) M[k].length c, .int .i64 y] w
        fun e w' => e = .returned (.int .i64 (y + (szK M[k] : Int))) ∧ MXK w' (.slice a n d) (M.set k (mkK M[k] y)) lo hi ∧ Only (InG lo hi w.heap.size) w w' := by
  rcases h with h | ⟨G, n', cap, As, P, e, h, rfl⟩
  · obtain ⟨G, g, o, c, e, hG, q, hm⟩ := h.row hk
    exact ⟨G, g, o, c, e, hG, q, fun y h1 h2 h3 => (hm y h1 h2 h3).mono fun e w' ⟨a1, a2, a3⟩ => ⟨a1, .inl a2, a3⟩⟩
  · rw [List.length_map] at hk
    simp only [Value.slice.injEq] at e
    obtain ⟨rfl, rfl, rfl⟩ := e
    have hl := h.len
    have hlG := h.lo_le
    obtain ⟨h1, h2⟩ := h.inb _ (List.getElem_mem hk)
    obtain ⟨o1, o2, o3⟩ := h.ok _ h1
    have hc := h.row.cells (g := G) rfl k (hdr As P[k]) (by simp [hk])
    rw [Go.WideShapes.add_plain, Nat.zero_add] at hc
    simp only [List.getElem_map]
    have hs : (sgk As P[k]).length = ((ag As P[k].1).seg P[k].2).length := by rw [sgk, keys_len]
    refine ⟨G, (ag As P[k].1).g, (ag As P[k].1).off P[k].2, (ag As P[k].1).cc, rfl, hlG.2, by rw [hs]; exact hc, fun y hy0 hy1 hy2 => ?_⟩
    obtain ⟨A, hA⟩ : ∃ A, A = ag As P[k].1 := ⟨_, rfl⟩
    obtain ⟨i, hi'⟩ : ∃ i, i = P[k].2 := ⟨_, rfl⟩
    obtain ⟨a', ha'⟩ : ∃ a', a' = P[k].1 := ⟨_, rfl⟩
    have hPk : P[k] = (a', i) := by rw [ha', hi']
    have h20 := h2
    rw [← hA, ← hi'] at h2
    have hsk : sgk As P[k] = keys A.Es[i] := by
      unfold sgk
      rw [← hA, ← hi', seg_at h2]
    have o1' : A.vo w := by rw [hA]; exact o1
    have hsp := flat_split h2
    have hv := o1'
    unfold Arr.vo at hv
    rw [hsp, List.append_assoc] at hv
    rw [hsk] at hy0
    have key := markRatS_part (cc := A.cc) (m := y) (o := A.off i) rfl hy0 hy1 hy2 w hv
    rw [hsk, keys_len, ← hA, ← hi']
    refine key.mono fun e w' ⟨he, hv', ho⟩ => ⟨he, .inr ⟨G, n, d, As.set a' { A with Es := A.Es.set i (mkE A.Es[i] y) }, P, rfl, ?_, ?_⟩, ho.mono fun j hj => .inl ?_⟩
    · -- the blocks that were written
      have hin : ∀ j, Blk A.g A.Es[i] j → A.lo ≤ j ∧ j < A.hi := fun j hj => by
        rcases hj with rfl | ⟨x, hx, hb⟩
        · exact ⟨(o1'.lt _ rfl).1, o1'.high _ rfl⟩
        · have hx' : x ∈ A.Es.flatten ++ A.Z := List.mem_append_left _ (List.mem_flatten.2 ⟨_, List.getElem_mem h2, hx⟩)
          have hr := o1'.el x hx'
          rcases hb with hb | hb
          · exact ⟨(Ints_lt hr.a.ints j hb).1, hr.a.high j hb⟩
          · exact ⟨(Ints_lt hr.d.ints j hb).1, hr.d.high j hb⟩
      have ha1 : a' < As.length := by rw [ha']; exact h1
      have hag : ∀ x, ag (As.set a' { A with Es := A.Es.set i (mkE A.Es[i] y) }) x = if x = a' then { A with Es := A.Es.set i (mkE A.Es[i] y) } else ag As x := fun x => by
        unfold ag
        by_cases e : x = a'
        · subst e
          rw [if_pos rfl]
          simp [ha1]
        · rw [if_neg e, List.getD_eq_getElem?_getD, List.getElem?_set_ne (fun e' => e e'.symm), ← List.getD_eq_getElem?_getD]
      have hlen : ∀ j, ((A.Es.set i (mkE A.Es[i] y)).getD j []).length = (A.Es.getD j []).length := fun j => by
        by_cases e : i = j
        · subst e; simp [h2, mkE_len]
        · rw [List.getD_eq_getElem?_getD, List.getElem?_set_ne e, ← List.getD_eq_getElem?_getD]
      have hfl : ∀ j, ((A.Es.set i (mkE A.Es[i] y)).take j).flatten.length = (A.Es.take j).flatten.length := fun j => by
        rw [List.length_flatten, List.length_flatten]
        congr 1
        apply List.ext_getElem
        · simp
        · intro p p1 p2
          simp only [List.getElem_map, List.getElem_take]
          have hp : p < A.Es.length := by simp at p2; omega
          have := hlen p
          rw [List.getD_eq_getElem?_getD, List.getElem?_eq_getElem (by simpa using hp), List.getD_eq_getElem?_getD, List.getElem?_eq_getElem hp] at this
          exact this
      have hh : ∀ r, hdr (As.set a' { A with Es := A.Es.set i (mkE A.Es[i] y) }) r = hdr As r := fun r => by
        unfold hdr
        rw [hag]
        by_cases e : r.1 = a'
        · rw [if_pos e, e, ha', ← hA]
          simp only [Arr.off, Arr.seg, hfl, hlen]
        · rw [if_neg e]
      refine ⟨?_, h.gh, Nat.le_trans h.le ho.size, fun x hx => ?_, fun x z hxz hz => ?_, h.nd, fun r hr => ?_⟩
      · rw [List.map_congr_left fun r _ => hh r]
        refine own_block h.row fun j hj => ho.block j fun hb => ?_
        rcases hb with hb | ⟨x, hx, hb⟩
        · exact own_ne h.row o1'.row (by decide) j hj (by rw [hb]; rfl)
        · have hx' : x ∈ A.Es.flatten ++ A.Z := List.mem_append_left _ (List.mem_flatten.2 ⟨_, List.getElem_mem h2, hx⟩)
          have hr := o1'.el x hx'
          rcases hb with hb | hb
          · exact own_ne h.row hr.a.ints (by decide) j hj hb
          · exact own_ne h.row hr.d.ints (by decide) j hj hb
      · rw [List.length_set] at hx
        rw [hag]
        by_cases e : x = a'
        · rw [if_pos e]
          refine ⟨?_, (by show lo ≤ A.lo; rw [hA]; exact o2), (by show A.hi ≤ hi; rw [hA]; exact o3)⟩
          show VO true w' _ ((A.Es.set i (mkE A.Es[i] y)).flatten ++ A.Z) A.lo A.hi
          rw [flat_set' h2, List.append_assoc]
          exact hv'
        · rw [if_neg e]
          have hx' := h.ok x hx
          refine ⟨VO.blockI hx'.1 fun j j1 j2 j3 => ho.block j fun hb => ?_, hx'.2⟩
          have h5 := hin j hb
          rw [hA, ← ha'] at h5
          rcases Nat.lt_or_gt_of_ne e with hl' | hl'
          · have := h.ap x a' hl' ha1; omega
          · have := h.ap a' x hl' hx; omega
      · rw [List.length_set] at hz
        have h6 := h.ap x z hxz hz
        rw [hag, hag]
        by_cases e : x = a'
        · rw [if_pos e, if_neg (by omega)]
          rw [e, ha', ← hA] at h6
          exact h6
        · rw [if_neg e]
          by_cases e2 : z = a'
          · rw [if_pos e2]
            rw [e2, ha', ← hA] at h6
            exact h6
          · rw [if_neg e2]; exact h6
      · have h6 := h.inb r hr
        rw [List.length_set, hag]
        refine ⟨h6.1, ?_⟩
        by_cases e : r.1 = a'
        · rw [if_pos e]
          show r.2 < (A.Es.set i _).length
          rw [List.length_set, hA, ← ha', ← e]
          exact h6.2
        · rw [if_neg e]; exact h6.2
    · -- what they hold
      have ha1 : a' < As.length := by rw [ha']; exact h1
      apply List.ext_getElem
      · simp
      · intro j j1 j2
        rw [List.length_map] at j1
        rw [List.getElem_map, List.getElem_set]
        by_cases e : k = j
        · subst e
          rw [if_pos rfl, hPk]
          unfold sgk ag
          simp [ha1, Arr.seg, h2, keys_mkE]
        · rw [if_neg e, List.getElem_map]
          have hne : P[j] ≠ (a', i) := fun e2 => by
            have := List.pairwise_iff_getElem.1 h.nd
            rcases Nat.lt_or_gt_of_ne e with hl' | hl'
            · exact this k j hk j1 hl' (by rw [hPk, e2])
            · exact this j k j1 hk hl' (by rw [hPk, e2])
          unfold sgk
          by_cases e3 : P[j].1 = a'
          · have e4 : P[j].2 ≠ i := fun e5 => hne (Prod.ext e3 e5)
            have : ag (As.set a' { A with Es := A.Es.set i (mkE A.Es[i] y) }) P[j].1 = { A with Es := A.Es.set i (mkE A.Es[i] y) } := by
              rw [e3]; unfold ag; simp [ha1]
            have h7 : ag As P[j].1 = A := by rw [hA, ← ha', ← e3]
            rw [this, h7]
            simp only [Arr.seg]
            rw [List.getD_eq_getElem?_getD, List.getElem?_set_ne (fun e' => e4 e'.symm), ← List.getD_eq_getElem?_getD]
          · have : ag (As.set a' { A with Es := A.Es.set i (mkE A.Es[i] y) }) P[j].1 = ag As P[j].1 := by
              unfold ag
              rw [List.getD_eq_getElem?_getD, List.getElem?_set_ne (fun e' => e3 e'.symm), ← List.getD_eq_getElem?_getD]
            rw [this]
    · have h5 : A.lo ≤ j ∧ j < A.hi := by
        rcases hj with rfl | ⟨x, hx, hb⟩
        · exact ⟨(o1'.lt _ rfl).1, o1'.high _ rfl⟩
        · have hx' : x ∈ A.Es.flatten ++ A.Z := List.mem_append_left _ (List.mem_flatten.2 ⟨_, List.getElem_mem h2, hx⟩)
          have hr := o1'.el x hx'
          rcases hb with hb | hb
          · exact ⟨(Ints_lt hr.a.ints j hb).1, hr.a.high j hb⟩
          · exact ⟨(Ints_lt hr.d.ints j hb).1, hr.d.high j hb⟩
      rw [hA] at h5
      exact ⟨by omega, by omega⟩
def MarkX (v : Value) (M : List (List Fq)) (m : Int) (lo hi : Nat) (w : World) (e : Ending) (w' : World) : Prop := e = .returned (.int .i64 (m + (szM M : Int))) ∧ MXK w' v (mkM M m) lo hi ∧ Only (InG lo hi w.heap.size) w w'
set_option maxRecDepth 100000 in
set_option maxHeartbeats 3200000 in
theorem markRatSS_x {a : Option Addr} {n c : Nat} {M : List (List Fq)} {m : Int} {lo hi : Nat} (hM : szM M ≤ 2097152) (hL : M.length ≤ 4194304) (m0 : 0 ≤ m) (m1 : m ≤ 2097152) (w : World) (o1 : MXK w (.slice a n c) M lo hi) :
    Calls Tryz.prog 18 #[.slice a n c, .int .i64 m] w (MarkX (.slice a n c) M m lo hi w) := by
  have HM := hid hM
  have O1 := hid o1
  obtain rfl := o1.num
  clear o1 hM
  go_enter Tryz.func18, Tryz.ntmps18
  go_wp2
  go_loopw [1, 5] (fun x i wr => ∃ (k : Nat) (y : Int), k ≤ M.length ∧ i = .int .i64 k ∧ x = .int .i64 y ∧ Hid (y = m + (szM (M.take k) : Int)) ∧ Hid (MXK wr (.slice a M.length c) (mdM M m k) lo hi) ∧ Hid (Only (InG lo hi w.heap.size) w wr)) (fun _ i _ => M.length - (intOf i).toNat)
  case atStart => exact ⟨0, m, Nat.zero_le _, rfl, rfl, hid (by simp [szM]), hid (by rw [mdM_zero]; exact O1.out), hid (Only.refl _ _)⟩
  case round =>
    obtain ⟨k, y, hk, rfl, rfl, hy, hV, hB⟩ := hrel
    by_cases hlt : k < M.length
    · have hl := hid (mdM_len (M := M) (m := m) (k := k) hk)
      have hlm := hid (show k < (mdM M m k).length by rw [hl.out]; exact hlt)
      obtain ⟨g, g2, o2, c2, rfl, hg, q0, put⟩ := hV.out.row hlm.out
      have hat := mdM_at (m := m) hlt
      have hset := mdM_set (m := m) hlt
      have hy2 := hy.out
      have hn := szM_at hlt
      have hst := szM_take hlt
      have hKv := HM.out
      rw [← hy2] at hset
      rw [hat] at q0 put
      clear hat hy2
      generalize M[k] = K at q0 put hset hn hst
      have HST := hid hst
      have HSET := hid hset
      have y0 : 0 ≤ y := by have := hy.out; omega
      have yb : y ≤ 4194304 := by have := hy.out; omega
      have KA := hid (put y (by omega) y0 yb)
      have a1' : (0 : Int) ≤ k := by omega
      have a2' : (k : Int) < M.length := by omega
      clear hst hn hset put
      go_wp2_with fail
      (with_reducible refine (KA.out).mono ?_)
      rintro e w2 ⟨rfl, hv2, ho2⟩
      have V2 := hid hv2
      have B2 := hid (hB.out.trans (ho2.mono fun j hj => by
        have h2 := hB.out.size
        rcases InG_cases hj with h3 | h3
        · exact .inl ⟨h3.1, h3.2⟩
        · exact .inr (by omega)))
      clear hv2 ho2 q0
      go_wp2
      go_roundw
      case rel => exact ⟨k + 1, y + (szK K : Int), by omega, by go_num, rfl, hid (by have := hy.out; have := HST.out; omega), hid (by rw [← HSET.out]; exact V2.out), B2⟩
      case measure => simp [intOf]; omega
    · obtain rfl : k = M.length := by omega
      go_wp2
      go_ret
      have h1 := hV.out
      rw [mdM_all] at h1
      have h2 := hy.out
      rw [List.take_length] at h2
      subst h2
      exact ⟨rfl, h1, hB.out⟩
end Go.Proofs.YtamhmpjadnfpdaaGreat

/- The rows' reduced form, the pivots and the rank (the program). -/
namespace Go.Proofs.YtamhmpjadnfpdaaGreat
open Go.RowKit
open Go.Lib (hid)
set_option linter.unusedVariables false
set_option linter.unusedSimpArgs false

set_option maxRecDepth 100000 in
set_option maxHeartbeats 6400000 in
theorem reduceRows_bad {a : Option Addr} {n c : Nat} {M : List (List Fq)} {lo hi : Nat} (hM : Sm2 M) (hok : matOk M = false) (w : World) (h : MW w a n M lo hi) :
    Calls Tryz.prog 61 #[.slice a n c] w (fun e w' => e = .returned (.tuple #[.slice none 0 0, .slice none 0 0]) ∧ Below w.heap.size w w') := by
  have KO := hid (impl_MatOk (c := c) hM w h)
  rw [hok] at KO
  clear h hok
  go_enter Tryz.func61, Tryz.ntmps61
  go_wp2
  go_step3
  go_wp2_with fail
  (with_reducible refine (KO.out).mono ?_)
  rintro e w1 ⟨rfl, hb⟩
  have HB := hid hb
  clear hb
  go_wp2
  (try simp only [Exit.inBlock, Exit.then])
  (try rw [Exit.noGoto_ret])
  refine bodyPost_ret (results_tmp2 rfl _ _ _) rfl ?_
  exact ⟨rfl, HB.out⟩
set_option maxRecDepth 100000 in
set_option maxHeartbeats 12800000 in
theorem reduceRows_nil {a : Option Addr} {n c : Nat} {M : List (List Fq)} {lo hi : Nat} (h0 : M.length = 0) (w : World) (h : MW w a n M lo hi) :
    Calls Tryz.prog 61 #[.slice a n c] w (fun e w' => ∃ a' c', e = .returned (.tuple #[.slice a' 0 c', .slice none 0 0]) ∧ MAK w' (.slice a' 0 c') [] w.heap.size w'.heap.size ∧ Below w.heap.size w w') := by
  have hM0 : M = [] := List.eq_nil_of_length_eq_zero h0
  subst hM0
  have HV := hid h
  obtain rfl := h.num
  have hSM : Sm2 [] := ⟨fun K hK => (by cases hK), by simp⟩
  have KO := hid (impl_MatOk (c := c) hSM w h)
  rw [show matOk [] = true from rfl] at KO
  have KC := hid (fun (U : World) (hb : Below w.heap.size w U) => copyMat_any (c := c) hSM rfl U (HV.out.old hb))
  have KW := hid (fun (U : World) (hb : Below w.heap.size w U) => impl_matWidth (c := c) hSM U (HV.out.old hb))
  rw [show matW [] = 0 from rfl] at KW
  simp only [List.length_nil] at KO KC KW ⊢
  clear h hSM h0
  go_enter Tryz.func61, Tryz.ntmps61
  go_wp2
  go_step3
  go_wp2_with fail
  (with_reducible refine (KO.out).mono ?_)
  rintro e w1 ⟨rfl, hb⟩
  have HB1 := hid hb
  clear hb
  go_wp2_with fail
  (with_reducible refine (KC.out _ HB1.out).mono ?_)
  rintro e w2 ⟨a1, n1, c1, rfl, hMG, hb⟩
  obtain rfl : n1 = 0 := by have := hMG.num; simpa using this
  have HM := hid (show MAK w2 (.slice a1 0 c1) [] w.heap.size w2.heap.size from hMG.wide HB1.out.size (Nat.le_refl _))
  have HB2 := hid (HB1.out.trans (hb.mono HB1.out.size))
  clear hMG hb
  go_wp2
  go_step3
  go_wp2_with fail
  (with_reducible refine (KW.out _ HB2.out).mono ?_)
  rintro e w3 ⟨rfl, rfl⟩
  go_wp2
  go_loopg [5, 17] 0 (fun gg pv t wr => pv = .slice none 0 0 ∧ t = .int .i64 0 ∧ wr = w2)
  case atStart => exact ⟨rfl, rfl, rfl⟩
  case round =>
    obtain ⟨rfl, rfl, rfl⟩ := hrel
    go_wp2
    (try simp only [Exit.inBlock, Exit.then])
    (try rw [Exit.noGoto_ret])
    refine bodyPost_ret (results_tmp2 rfl _ _ _) rfl ?_
    exact ⟨_, _, rfl, HM.out, HB2.out⟩
/-- What the program's elimination gives, of any list. -/
theorem reduceRows_all {a : Option Addr} {n c : Nat} {M : List (List Fq)} {lo hi : Nat} (hM : Sm2 M) (w : World) (h : MW w a n M lo hi) :
    Calls Tryz.prog 61 #[.slice a n c] w (fun e w' => ∃ a1 n1 c1 a2 n2 c2, e = .returned (.tuple #[.slice a1 n1 c1, .slice a2 n2 c2]) ∧ MXK w' (.slice a1 n1 c1) (rreM M) w.heap.size w'.heap.size ∧ Ints w' w.heap.size (.slice a2 n2 c2) (pivM M) ∧ Below w.heap.size w w') := by
  cases hok : matOk M with
  | false =>
    obtain ⟨e1, e2⟩ := redM_no hok
    rw [e1, e2]
    exact (reduceRows_bad hM hok w h).mono fun e w' ⟨he, hb⟩ => ⟨_, _, _, _, _, _, he, .inl (.inl ⟨rfl, rfl⟩), Ints_nil _ _, hb⟩
  | true =>
    by_cases h0 : M.length = 0
    · obtain ⟨e1, e2⟩ := redM_nil h0
      rw [e1, e2]
      exact (reduceRows_nil h0 w h).mono fun e w' ⟨a', c', he, hm, hb⟩ => ⟨_, _, _, _, _, _, he, .inl hm, Ints_nil _ _, hb⟩
    · obtain ⟨e1, e2⟩ := un_rv hok
      have hn := matOk_n hok
      have hw := matOk_w hok
      have hl := un_len M
      have h' : MW w a n ((un M).map rv) lo hi := by rw [← e1]; exact h
      refine (reduceRows_any (c := c) e2 (by omega) hw (by omega) w h').mono fun e w' hr => ?_
      cases e3 : redK (un M) (matW M) with
      | none =>
        rw [e3] at hr
        obtain ⟨f1, f2⟩ := redM_none hok e3
        rw [f1, f2]
        exact ⟨_, _, _, _, _, _, hr.1, .inl (.inl ⟨rfl, rfl⟩), Ints_nil _ _, hr.2⟩
      | some q =>
        obtain ⟨S, ps⟩ := q
        rw [e3] at hr
        obtain ⟨f1, f2⟩ := redM_some hok e3
        rw [f1, f2]
        obtain ⟨G, cap, pv, H, hi', he, ⟨As, P, hx, hH, hS, -, -⟩, hp, hb⟩ := hr
        obtain ⟨xp, yp, rfl⟩ := natI_form hp
        refine ⟨_, _, _, _, _, _, he, .inr ⟨G, _, cap, As, P, rfl, ⟨hx.row, by have := hx.gh; have := hx.le; omega, Nat.le_refl _, fun a ha => ⟨(hx.ok a ha).1, (hx.ok a ha).2.1, by have := (hx.ok a ha).2.2; have := hx.le; omega⟩, hx.ap, hx.nd, hx.inb⟩, hS.symm⟩, hp, hb⟩
set_option maxRecDepth 100000 in
set_option maxHeartbeats 6400000 in
theorem impl_RRE {a : Option Addr} {n c : Nat} {M : List (List Fq)} {lo hi : Nat} (hM : Sm2 M) (w : World) (h : MW w a n M lo hi) :
    Calls Tryz.prog 16 #[.slice a n c] w (fun e w' => ∃ a n c, e = .returned (.slice a n c) ∧ MXK w' (.slice a n c) (rreM M) w.heap.size w'.heap.size ∧ Below w.heap.size w w') := by
  have KR := hid (reduceRows_all (c := c) hM w h)
  obtain ⟨RS, hRS⟩ : ∃ RS, RS = rreM M := ⟨_, rfl⟩
  rw [← hRS] at KR ⊢
  clear h hRS
  go_enter Tryz.func16, Tryz.ntmps16
  go_wp2_with fail
  (with_reducible refine (KR.out).mono ?_)
  rintro e w2 ⟨a1, n1, c1, a2, n2, c2, rfl, h1, -, hb⟩
  have R := hid (show (fun (e : Ending) (w' : World) => ∃ a n c, e = .returned (.slice a n c) ∧ MXK w' (.slice a n c) RS w.heap.size w'.heap.size ∧ Below w.heap.size w w') (.returned (.slice a1 n1 c1)) w2 from ⟨_, _, _, rfl, h1, hb⟩)
  clear h1 hb
  go_wp2
  go_ret
  exact R.out
set_option maxRecDepth 100000 in
set_option maxHeartbeats 6400000 in
theorem impl_Pivots {a : Option Addr} {n c : Nat} {M : List (List Fq)} {lo hi : Nat} (hM : Sm2 M) (w : World) (h : MW w a n M lo hi) :
    Calls Tryz.prog 21 #[.slice a n c] w (fun e w' => ∃ v, e = .returned v ∧ Ints w' w.heap.size v (pivM M) ∧ Below w.heap.size w w') := by
  have KR := hid (reduceRows_all (c := c) hM w h)
  obtain ⟨RS, hRS⟩ : ∃ RS, RS = pivM M := ⟨_, rfl⟩
  rw [← hRS] at KR ⊢
  clear h hRS
  go_enter Tryz.func21, Tryz.ntmps21
  go_wp2_with fail
  (with_reducible refine (KR.out).mono ?_)
  rintro e w2 ⟨a1, n1, c1, a2, n2, c2, rfl, -, h1, hb⟩
  have R := hid (show (fun (e : Ending) (w' : World) => ∃ v, e = .returned v ∧ Ints w' w.heap.size v RS ∧ Below w.heap.size w w') (.returned (.slice a2 n2 c2)) w2 from ⟨_, rfl, h1, hb⟩)
  clear h1 hb
  go_wp2
  go_ret
  exact R.out
set_option maxRecDepth 100000 in
set_option maxHeartbeats 6400000 in
theorem impl_Rank {a : Option Addr} {n c : Nat} {M : List (List Fq)} {lo hi : Nat} (hM : Sm2 M) (w : World) (h : MW w a n M lo hi) :
    Calls Tryz.prog 26 #[.slice a n c] w (RetB (.int .i64 ((pivM M).length : Int)) w) := by
  have KR := hid (impl_Pivots (c := c) hM w h)
  obtain ⟨RS, hRS⟩ : ∃ RS, RS = pivM M := ⟨_, rfl⟩
  rw [← hRS] at KR ⊢
  clear h hRS
  go_enter Tryz.func26, Tryz.ntmps26
  go_wp2_with fail
  (with_reducible refine (KR.out).mono ?_)
  rintro e w2 ⟨v, rfl, h1, hb⟩
  obtain ⟨a1, c1, rfl, -⟩ := Ints_form h1
  have HB := hid hb
  clear h1 hb
  go_wp2
  go_ret
  exact ⟨rfl, HB.out⟩
end Go.Proofs.YtamhmpjadnfpdaaGreat

/- The rows' reduced form, the pivots and the rank (the reference). -/
namespace Go.Proofs.YtamhmpjadnfpdaaGreat
open Go.RowKit
open Go.Lib (hid)
set_option linter.unusedVariables false
set_option linter.unusedSimpArgs false

theorem l09Cols_any {a : Option Addr} {n c : Nat} {M : List (List Fq)} {lo hi : Nat} (w : World) (h : MW w a n M lo hi) :
    Calls Tryz.prog 60 #[.slice a n c] w (fun e w' => e = .returned (.int .i64 (matW M : Int)) ∧ w = w') := by
  obtain rfl := h.num
  by_cases h0 : M.length = 0
  · rw [matW_nil h0, h0]
    clear h
    go_enter Tryz.func60, Tryz.ntmps60
    go_wp2
    go_ret
    exact ⟨rfl, rfl⟩
  · obtain ⟨g, o, b, d, rfl, hg, q0, -⟩ := h.at (k := 0) (by omega)
    rw [Nat.add_zero, ← matW_at (by omega)] at q0
    have e0 : ((M.length : Int) == 0) = false := beq_eq_false_iff_ne.2 (by omega)
    have a0 : (0 : Int) < M.length := by omega
    generalize matW M = W at q0 ⊢
    clear h h0
    go_enter Tryz.func60, Tryz.ntmps60
    go_wp2
    go_ret
    exact ⟨rfl, rfl⟩
set_option maxRecDepth 100000 in
set_option maxHeartbeats 12800000 in
theorem l09Reduce_nil {a : Option Addr} {n c : Nat} {lo hi : Nat} (w : World) (h : MW w a n [] lo hi) :
    Calls Tryz.prog 59 #[.slice a n c, .int .i64 0] w (RedS (some ([], [])) 0 w) := by
  obtain rfl := h.num
  have KC := hid (l08Copy_any (c := c) (M := []) ⟨fun K hK => (by cases hK), by simp⟩ w h)
  simp only [List.length_nil] at KC ⊢
  clear h
  go_enter Tryz.func59, Tryz.ntmps59
  go_wp2_with fail
  (with_reducible refine (KC.out).mono ?_)
  rintro e w1 ⟨a1, cap, R, rfl, hMR, hRK, hb⟩
  have HM := hid (show MW w1 a1 0 [] w.heap.size w1.heap.size by have := hMR.mw; rw [hRK] at this; exact this)
  have HP0 := hid (show Ints (w1.alloc (.cells #[] 3)) w.heap.size (.slice (some ⟨w1.heap.size, 0, none⟩) 0 0) (natI []) from Ints_lit (heap_alloc_new w1 _) hb.size)
  have HM0 := hid (HM.out.old (below_new' (o := .cells #[] 3)))
  have HB0 := hid (hb.alloc hb.size (.cells #[] 3))
  have hs0 := hid (show w1.heap.size ≤ (w1.alloc (.cells #[] 3)).heap.size by simp)
  clear hMR hRK hb
  go_wp2
  generalize w1.alloc (.cells #[] 3) = w2 at HP0 HM0 HB0 hs0 ⊢
  go_loopw [8, 9, 10] (fun pv dn t wr => pv = .slice (some ⟨w1.heap.size, 0, none⟩) 0 0 ∧ t = .int .i64 0 ∧ wr = w2) (fun _ _ _ _ => 0)
  case atStart => exact ⟨rfl, rfl, rfl⟩
  case round =>
    obtain ⟨rfl, rfl, rfl⟩ := hrel
    go_wp2
    (try simp only [Exit.inBlock, Exit.then])
    refine bodyPost_ret (results_tmp3 rfl _ _ _) rfl ?_
    exact ⟨_, _, _, rfl, HM0.out.wide (Nat.le_refl _) hs0.out, HP0.out, HB0.out⟩
theorem redS_all {a : Option Addr} {n c : Nat} {M : List (List Fq)} {lo hi : Nat} (hok : matOk M = true) (w : World) (h : MW w a n M lo hi) :
    Calls Tryz.prog 59 #[.slice a n c, .int .i64 (matW M : Int)] w (fun e w' => ∃ a1 n1 c1 a2 n2 c2 b, e = .returned (.tuple #[.slice a1 n1 c1, .slice a2 n2 c2, .bool b]) ∧ MW w' a1 n1 (rreM M) w.heap.size w'.heap.size ∧ Ints w' w.heap.size (.slice a2 n2 c2) (pivM M) ∧ Below w.heap.size w w') := by
  by_cases h0 : M.length = 0
  · have hM0 : M = [] := List.eq_nil_of_length_eq_zero h0
    subst hM0
    obtain ⟨e1, e2⟩ := redM_nil (M := []) rfl
    rw [e1, e2]
    refine (l09Reduce_nil (c := c) w h).mono fun e w' hr => ?_
    obtain ⟨a1, c1, pv, he, hm, hp, hb⟩ := hr
    obtain ⟨xp, yp, rfl⟩ := natI_form hp
    exact ⟨_, _, _, _, _, _, _, he, hm, hp, hb⟩
  · obtain ⟨e1, e2⟩ := un_rv hok
    have hn := matOk_n hok
    have hw := matOk_w hok
    have hl := un_len M
    have h' : MW w a n ((un M).map rv) lo hi := by rw [← e1]; exact h
    refine (l09Reduce_any (c := c) e2 (by omega) hw (by omega) (Nat.le_refl _) w h').mono fun e w' hr => ?_
    cases e3 : redK (un M) (matW M) with
    | none =>
      rw [e3] at hr
      obtain ⟨f1, f2⟩ := redM_none hok e3
      rw [f1, f2]
      exact ⟨_, _, _, _, _, _, _, hr.1, MW_nil _ _ _ _, Ints_nil _ _, hr.2⟩
    | some q =>
      obtain ⟨S, ps⟩ := q
      rw [e3] at hr
      obtain ⟨f1, f2⟩ := redM_some hok e3
      rw [f1, f2]
      obtain ⟨a1, c1, pv, he, hm, hp, hb⟩ := hr
      obtain ⟨xp, yp, rfl⟩ := natI_form hp
      exact ⟨_, _, _, _, _, _, _, he, hm, hp, hb⟩
set_option maxRecDepth 100000 in
set_option maxHeartbeats 6400000 in
theorem spec_RRE {a : Option Addr} {n c : Nat} {M : List (List Fq)} {lo hi : Nat} (hM : Sm2 M) (w : World) (h : MW w a n M lo hi) :
    Calls Tryz.prog 14 #[.slice a n c] w (fun e w' => ∃ a n c, e = .returned (.slice a n c) ∧ MW w' a n (rreM M) w.heap.size w'.heap.size ∧ Below w.heap.size w w') := by
  have HV := hid h
  have KO := hid (spec_MatOk_w (c := c) hM w h)
  obtain ⟨RS, hRS⟩ : ∃ RS, RS = rreM M := ⟨_, rfl⟩
  cases hok : matOk M with
  | false =>
    rw [hok] at KO
    have HR0 := hid (show RS = [] by rw [hRS]; exact (redM_no hok).1)
    rw [← hRS]
    clear h hok hRS
    go_enter Tryz.func14, Tryz.ntmps14
    go_wp2_with fail
    (with_reducible refine (KO.out).mono ?_)
    rintro e w2 ⟨rfl, hb⟩
    have R := hid (show (fun (e : Ending) (w' : World) => ∃ a n c, e = .returned (.slice a n c) ∧ MW w' a n RS w.heap.size w'.heap.size ∧ Below w.heap.size w w') (.returned (.slice none 0 0)) w2 by rw [HR0.out]; exact ⟨_, _, _, rfl, MW_nil _ _ _ _, hb⟩)
    clear hb
    go_wp2
    go_ret
    exact R.out
  | true =>
    rw [hok] at KO
    have KL := hid (fun (U : World) (hb : Below w.heap.size w U) => l09Cols_any (c := c) U (h.old hb))
    have KR := hid (fun (U : World) (hb : Below w.heap.size w U) => redS_all (c := c) hok U (h.old hb))
    rw [← hRS] at KR ⊢
    generalize matW M = W at KL KR
    clear h hok hRS
    go_enter Tryz.func14, Tryz.ntmps14
    go_wp2_with fail
    (with_reducible refine (KO.out).mono ?_)
    rintro e w2 ⟨rfl, hb⟩
    have HB2 := hid hb
    clear hb
    go_wp2_with fail
    (with_reducible refine (KL.out _ HB2.out).mono ?_)
    rintro e w3 ⟨rfl, rfl⟩
    go_wp2_with fail
    (with_reducible refine (KR.out _ HB2.out).mono ?_)
    rintro e w4 ⟨a1, n1, c1, a2, n2, c2, b, rfl, h1, -, hb⟩
    have R := hid (show (fun (e : Ending) (w' : World) => ∃ a n c, e = .returned (.slice a n c) ∧ MW w' a n RS w.heap.size w'.heap.size ∧ Below w.heap.size w w') (.returned (.slice a1 n1 c1)) w4 from ⟨_, _, _, rfl, h1.wide HB2.out.size (Nat.le_refl _), HB2.out.trans (hb.mono HB2.out.size)⟩)
    clear h1 hb
    go_wp2
    go_ret
    exact R.out
set_option maxRecDepth 100000 in
set_option maxHeartbeats 6400000 in
theorem spec_Pivots {a : Option Addr} {n c : Nat} {M : List (List Fq)} {lo hi : Nat} (hM : Sm2 M) (w : World) (h : MW w a n M lo hi) :
    Calls Tryz.prog 20 #[.slice a n c] w (fun e w' => ∃ v, e = .returned v ∧ Ints w' w.heap.size v (pivM M) ∧ Below w.heap.size w w') := by
  have HV := hid h
  have KO := hid (spec_MatOk_w (c := c) hM w h)
  obtain ⟨RS, hRS⟩ : ∃ RS, RS = pivM M := ⟨_, rfl⟩
  cases hok : matOk M with
  | false =>
    rw [hok] at KO
    have HR0 := hid (show RS = [] by rw [hRS]; exact (redM_no hok).2)
    rw [← hRS]
    clear h hok hRS
    go_enter Tryz.func20, Tryz.ntmps20
    go_wp2_with fail
    (with_reducible refine (KO.out).mono ?_)
    rintro e w2 ⟨rfl, hb⟩
    have R := hid (show (fun (e : Ending) (w' : World) => ∃ v, e = .returned v ∧ Ints w' w.heap.size v RS ∧ Below w.heap.size w w') (.returned (.slice none 0 0)) w2 by rw [HR0.out]; exact ⟨_, rfl, Ints_nil _ _, hb⟩)
    clear hb
    go_wp2
    go_ret
    exact R.out
  | true =>
    rw [hok] at KO
    have KL := hid (fun (U : World) (hb : Below w.heap.size w U) => l09Cols_any (c := c) U (h.old hb))
    have KR := hid (fun (U : World) (hb : Below w.heap.size w U) => redS_all (c := c) hok U (h.old hb))
    rw [← hRS] at KR ⊢
    generalize matW M = W at KL KR
    clear h hok hRS
    go_enter Tryz.func20, Tryz.ntmps20
    go_wp2_with fail
    (with_reducible refine (KO.out).mono ?_)
    rintro e w2 ⟨rfl, hb⟩
    have HB2 := hid hb
    clear hb
    go_wp2_with fail
    (with_reducible refine (KL.out _ HB2.out).mono ?_)
    rintro e w3 ⟨rfl, rfl⟩
    go_wp2_with fail
    (with_reducible refine (KR.out _ HB2.out).mono ?_)
    rintro e w4 ⟨a1, n1, c1, a2, n2, c2, b, rfl, -, h1, hb⟩
    have R := hid (show (fun (e : Ending) (w' : World) => ∃ v, e = .returned v ∧ Ints w' w.heap.size v RS ∧ Below w.heap.size w w') (.returned (.slice a2 n2 c2)) w4 from ⟨_, rfl, Ints_base h1 HB2.out.size, HB2.out.trans (hb.mono HB2.out.size)⟩)
    clear h1 hb
    go_wp2
    go_ret
    exact R.out
set_option maxRecDepth 100000 in
set_option maxHeartbeats 6400000 in
theorem spec_Rank {a : Option Addr} {n c : Nat} {M : List (List Fq)} {lo hi : Nat} (hM : Sm2 M) (w : World) (h : MW w a n M lo hi) :
    Calls Tryz.prog 25 #[.slice a n c] w (RetB (.int .i64 ((pivM M).length : Int)) w) := by
  have KR := hid (spec_Pivots (c := c) hM w h)
  obtain ⟨RS, hRS⟩ : ∃ RS, RS = pivM M := ⟨_, rfl⟩
  rw [← hRS] at KR ⊢
  clear h hRS
  go_enter Tryz.func25, Tryz.ntmps25
  go_wp2_with fail
  (with_reducible refine (KR.out).mono ?_)
  rintro e w2 ⟨v, rfl, h1, hb⟩
  obtain ⟨a1, c1, rfl, -⟩ := Ints_form h1
  have HB := hid hb
  clear h1 hb
  go_wp2
  go_ret
  exact ⟨rfl, HB.out⟩
end Go.Proofs.YtamhmpjadnfpdaaGreat
