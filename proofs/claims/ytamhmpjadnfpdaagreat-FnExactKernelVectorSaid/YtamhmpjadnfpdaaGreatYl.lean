/- Merged: Yl Yq Yr. -/
import Derived.Test.YtamhmpjadnfpdaaGreatYk
import Derived.Test.YtamhmpjadnfpdaaGreatXh
import Derived.Test.YtamhmpjadnfpdaaGreatYh
/- The rows' reduced form, the pivots and the rank: what they are, and the program's functions. -/
namespace Go.Proofs.YtamhmpjadnfpdaaGreat
open Go.RowKit
open Go.Lib (hid)
set_option linter.unusedVariables false
set_option linter.unusedSimpArgs false

/-- The fractions of structs. -/
def un (M : List (List Fq)) : List (List Rat) := M.map fun K => K.map fun f => f.o.getD 0
theorem un_fr : ∀ {X : List Rat}, AF X → (rv X).map (fun f => f.o.getD 0) = X
  | [], _ => rfl
  | x :: X, h => by
    have ih := un_fr (X := X) fun y hy => h y (List.mem_cons_of_mem _ hy)
    unfold rv at ih ⊢
    rw [List.map_cons, List.map_cons, fr_o (h x (List.mem_cons_self ..)), Option.getD_some, ih]
theorem un_row {K : List Fq} (h : oks (vals K) = true) : K = rv (K.map fun f => f.o.getD 0) ∧ AF (K.map fun f => f.o.getD 0) := by
  obtain ⟨X, e, hX⟩ := rv_row h
  subst e
  rw [un_fr hX]
  exact ⟨rfl, hX⟩
theorem un_rv {M : List (List Fq)} (h : matOk M = true) : M = (un M).map rv ∧ Rows (matW M) (un M) := by
  have hr : ∀ K ∈ M, K.length = matW M ∧ oks (vals K) = true := fun K hK => by
    obtain ⟨k, hk, rfl⟩ := List.getElem_of_mem hK
    exact matOk_row h hk
  refine ⟨?_, fun X hX => ?_, fun X hX => ?_⟩
  · unfold un
    rw [List.map_map]
    conv => lhs; rw [← List.map_id M]
    exact List.map_congr_left fun K hK => (un_row (hr K hK).2).1
  · obtain ⟨K, hK, rfl⟩ := List.mem_map.1 hX
    rw [List.length_map]; exact (hr K hK).1
  · obtain ⟨K, hK, rfl⟩ := List.mem_map.1 hX
    exact (un_row (hr K hK).2).2
theorem un_len (M : List (List Fq)) : (un M).length = M.length := by simp [un]
noncomputable def redM (M : List (List Fq)) : Option (List (List Rat) × List Nat) := if matOk M = true then redK (un M) (matW M) else none
noncomputable def rreM (M : List (List Fq)) : List (List Fq) := match redM M with
  | none => []
  | some (S, _) => S.map rv
noncomputable def pivM (M : List (List Fq)) : List Int := match redM M with
  | none => []
  | some (_, ps) => natI ps
theorem redM_no {M : List (List Fq)} (h : matOk M = false) : rreM M = [] ∧ pivM M = [] := by
  unfold rreM pivM redM
  rw [h, if_neg (by decide)]
  exact ⟨rfl, rfl⟩
theorem redM_none {M : List (List Fq)} (h : matOk M = true) (e : redK (un M) (matW M) = none) : rreM M = [] ∧ pivM M = [] := by
  unfold rreM pivM redM
  rw [h, if_pos rfl, e]
  exact ⟨rfl, rfl⟩
theorem redM_some {M : List (List Fq)} (h : matOk M = true) {S : List (List Rat)} {ps : List Nat} (e : redK (un M) (matW M) = some (S, ps)) : rreM M = S.map rv ∧ pivM M = natI ps := by
  unfold rreM pivM redM
  rw [h, if_pos rfl, e]
  exact ⟨rfl, rfl⟩
theorem redM_nil {M : List (List Fq)} (h0 : M.length = 0) : rreM M = [] ∧ pivM M = [] := by
  have : M = [] := List.eq_nil_of_length_eq_zero h0
  subst this
  exact redM_some (M := []) rfl rfl
theorem fv_sz {X : List Rat} (h : AF X) (hl : X.length ≤ 40) : szK (rv X) ≤ 1960 := by
  have := szK_each (K := rv X) fun f hf => by
    obtain ⟨x, hx, rfl⟩ := List.mem_map.1 hf
    exact fqo_n (o := some x) fun y e => by cases e; exact h x hx
  rw [rv_len] at this
  omega
/-- A slice of rows of the program's own. -/
def MXK (w : World) (v : Value) (M : List (List Fq)) (lo hi : Nat) : Prop := MAK w v M lo hi ∨ ∃ G n cap As P, v = .slice (some ⟨G, 0, none⟩) n cap ∧ MX w G n cap As P lo hi ∧ P.map (sgk As) = M
theorem MXK.old {w w' : World} {v : Value} {M : List (List Fq)} {lo hi : Nat} (h : MXK w v M lo hi) (hb : Below w.heap.size w w') : MXK w' v M lo hi := by
  rcases h with h | ⟨G, n, cap, As, P, e, h, hk⟩
  · exact .inl (h.old hb)
  · exact .inr ⟨G, n, cap, As, P, e, h.old hb, hk⟩
theorem MXK.onlyG {w w' : World} {v : Value} {M : List (List Fq)} {lo hi a b : Nat} (h : MXK w v M lo hi) (hb : Only (InG a b w.heap.size) w w') (hd : hi ≤ a ∨ b ≤ lo) : MXK w' v M lo hi := by
  rcases h with h | ⟨G, n, cap, As, P, e, h, hk⟩
  · exact .inl (h.onlyG hb hd)
  · exact .inr ⟨G, n, cap, As, P, e, h.onlyG hb hd, hk⟩
theorem MXK.num {w : World} {a : Option Addr} {n d : Nat} {M : List (List Fq)} {lo hi : Nat} (h : MXK w (.slice a n d) M lo hi) : n = M.length := by
  rcases h with h | ⟨G, n', cap, As, P, e, h, rfl⟩
  · exact h.num
  · simp only [Value.slice.injEq] at e
    rw [List.length_map, h.len]
    exact e.2.1
theorem MXK.mw {w : World} {a : Option Addr} {n d : Nat} {M : List (List Fq)} {lo hi : Nat} (h : MXK w (.slice a n d) M lo hi) : MW w a n M lo hi := by
  rcases h with h | ⟨G, n', cap, As, P, e, h, rfl⟩
  · exact h.mw
  · simp only [Value.slice.injEq] at e
    obtain ⟨rfl, rfl, rfl⟩ := e
    have hl := h.len
    have hlG := h.lo_le
    refine ⟨by rw [List.length_map, hl], fun h0 => ⟨G, 0, rfl, hlG.1, h.gh, hlG.2, fun i hi' => ?_⟩⟩
    rw [List.length_map] at hi'
    have hv := h.view hi'
    have hc := h.row.cells (g := G) rfl i (hdr As P[i]) (by simp [hi'])
    rw [Go.WideShapes.add_plain, Nat.zero_add] at hc
    simp only [List.getElem_map, Nat.zero_add]
    have hs : (sgk As P[i]).length = ((ag As P[i].1).seg P[i].2).length := by rw [sgk, keys_len]
    rw [hs]
    exact ⟨_, _, hc, hv⟩
end Go.Proofs.YtamhmpjadnfpdaaGreat

/- The rows' reduced form, the pivots and the rank (the program). -/
namespace Go.Proofs.YtamhmpjadnfpdaaGreat
open Go.RowKit
open Go.Lib (hid)
set_option linter.unusedVariables false
set_option linter.unusedSimpArgs false

set_option maxRecDepth 100000 in
set_option maxHeartbeats 6400000 in
theorem reduceRows_bad {a : Option Addr} {n c : Nat} {M : List (List Fq)} {lo hi : Nat} (hM : Sm2 M) (hok : matOk M = false) (w : World) (h : MW w a n M lo hi) :
    Calls Tryz.prog 61 #[.slice a n c] w (fun e w' => e = .returned (.tuple #[.slice none 0 0, .slice none 0 0]) ∧ Below w.heap.size w w') := by
  have KO := hid (impl_MatOk (c := c) hM w h)
  rw [hok] at KO
  clear h hok
  go_enter Tryz.func61, Tryz.ntmps61
  go_wp2
  go_step3
  go_wp2_with fail
  (with_reducible refine (KO.out).mono ?_)
  rintro e w1 ⟨rfl, hb⟩
  have HB := hid hb
  clear hb
  go_wp2
  (try simp only [Exit.inBlock, Exit.then])
  (try rw [Exit.noGoto_ret])
  refine bodyPost_ret (results_tmp2 rfl _ _ _) rfl ?_
  exact ⟨rfl, HB.out⟩
set_option maxRecDepth 100000 in
set_option maxHeartbeats 12800000 in
theorem reduceRows_nil {a : Option Addr} {n c : Nat} {M : List (List Fq)} {lo hi : Nat} (h0 : M.length = 0) (w : World) (h : MW w a n M lo hi) :
    Calls Tryz.prog 61 #[.slice a n c] w (fun e w' => ∃ a' c', e = .returned (.tuple #[.slice a' 0 c', .slice none 0 0]) ∧ MAK w' (.slice a' 0 c') [] w.heap.size w'.heap.size ∧ Below w.heap.size w w') := by
  have hM0 : M = [] := List.eq_nil_of_length_eq_zero h0
  subst hM0
  have HV := hid h
  obtain rfl := h.num
  have hSM : Sm2 [] := ⟨fun K hK => (by cases hK), by simp⟩
  have KO := hid (impl_MatOk (c := c) hSM w h)
  rw [show matOk [] = true from rfl] at KO
  have KC := hid (fun (U : World) (hb : Below w.heap.size w U) => copyMat_any (c := c) hSM rfl U (HV.out.old hb))
  have KW := hid (fun (U : World) (hb : Below w.heap.size w U) => impl_matWidth (c := c) hSM U (HV.out.old hb))
  rw [show matW [] = 0 from rfl] at KW
  simp only [List.length_nil] at KO KC KW ⊢
  clear h hSM h0
  go_enter Tryz.func61, Tryz.ntmps61
  go_wp2
  go_step3
  go_wp2_with fail
  (with_reducible refine (KO.out).mono ?_)
  rintro e w1 ⟨rfl, hb⟩
  have HB1 := hid hb
  clear hb
  go_wp2_with fail
  (with_reducible refine (KC.out _ HB1.out).mono ?_)
  rintro e w2 ⟨a1, n1, c1, rfl, hMG, hb⟩
  obtain rfl : n1 = 0 := by have := hMG.num; simpa using this
  have HM := hid (show MAK w2 (.slice a1 0 c1) [] w.heap.size w2.heap.size from hMG.wide HB1.out.size (Nat.le_refl _))
  have HB2 := hid (HB1.out.trans (hb.mono HB1.out.size))
  clear hMG hb
  go_wp2
  go_step3
  go_wp2_with fail
  (with_reducible refine (KW.out _ HB2.out).mono ?_)
  rintro e w3 ⟨rfl, rfl⟩
  go_wp2
  go_loopg [5, 17] 0 (fun gg pv t wr => pv = .slice none 0 0 ∧ t = .int .i64 0 ∧ wr = w2)
  case atStart => exact ⟨rfl, rfl, rfl⟩
  case round =>
    obtain ⟨rfl, rfl, rfl⟩ := hrel
    go_wp2
    (try simp only [Exit.inBlock, Exit.then])
    (try rw [Exit.noGoto_ret])
    refine bodyPost_ret (results_tmp2 rfl _ _ _) rfl ?_
    exact ⟨_, _, rfl, HM.out, HB2.out⟩
/-- What the program's elimination gives, of any list. -/
theorem reduceRows_all {a : Option Addr} {n c : Nat} {M : List (List Fq)} {lo hi : Nat} (hM : Sm2 M) (w : World) (h : MW w a n M lo hi) :
    Calls Tryz.prog 61 #[.slice a n c] w (fun e w' => ∃ a1 n1 c1 a2 n2 c2, e = .returned (.tuple #[.slice a1 n1 c1, .slice a2 n2 c2]) ∧ MXK w' (.slice a1 n1 c1) (rreM M) w.heap.size w'.heap.size ∧ Ints w' w.heap.size (.slice a2 n2 c2) (pivM M) ∧ Below w.heap.size w w') := by
  cases hok : matOk M with
  | false =>
    obtain ⟨e1, e2⟩ := redM_no hok
    rw [e1, e2]
    exact (reduceRows_bad hM hok w h).mono fun e w' ⟨he, hb⟩ => ⟨_, _, _, _, _, _, he, .inl (.inl ⟨rfl, rfl⟩), Ints_nil _ _, hb⟩
  | true =>
    by_cases h0 : M.length = 0
    · obtain ⟨e1, e2⟩ := redM_nil h0
      rw [e1, e2]
      exact (reduceRows_nil h0 w h).mono fun e w' ⟨a', c', he, hm, hb⟩ => ⟨_, _, _, _, _, _, he, .inl hm, Ints_nil _ _, hb⟩
    · obtain ⟨e1, e2⟩ := un_rv hok
      have hn := matOk_n hok
      have hw := matOk_w hok
      have hl := un_len M
      have h' : MW w a n ((un M).map rv) lo hi := by rw [← e1]; exact h
      refine (reduceRows_any (c := c) e2 (by omega) hw (by omega) w h').mono fun e w' hr => ?_
      cases e3 : redK (un M) (matW M) with
      | none =>
        rw [e3] at hr
        obtain ⟨f1, f2⟩ := redM_none hok e3
        rw [f1, f2]
        exact ⟨_, _, _, _, _, _, hr.1, .inl (.inl ⟨rfl, rfl⟩), Ints_nil _ _, hr.2⟩
      | some q =>
        obtain ⟨S, ps⟩ := q
        rw [e3] at hr
        obtain ⟨f1, f2⟩ := redM_some hok e3
        rw [f1, f2]
        obtain ⟨G, cap, pv, H, hi', he, ⟨As, P, hx, hH, hS, -, -⟩, hp, hb⟩ := hr
        obtain ⟨xp, yp, rfl⟩ := natI_form hp
        refine ⟨_, _, _, _, _, _, he, .inr ⟨G, _, cap, As, P, rfl, ⟨hx.row, by have := hx.gh; have := hx.le; omega, Nat.le_refl _, fun a ha => ⟨(hx.ok a ha).1, (hx.ok a ha).2.1, by have := (hx.ok a ha).2.2; have := hx.le; omega⟩, hx.ap, hx.nd, hx.inb⟩, hS.symm⟩, hp, hb⟩
end Go.Proofs.YtamhmpjadnfpdaaGreat

/- The rows' reduced form, the pivots and the rank (the reference). -/
namespace Go.Proofs.YtamhmpjadnfpdaaGreat
open Go.RowKit
open Go.Lib (hid)
set_option linter.unusedVariables false
set_option linter.unusedSimpArgs false

end Go.Proofs.YtamhmpjadnfpdaaGreat
