/- The reference's making of a struct: l03Make. -/
import Derived.Test.YtleechafachkaaaDoorWp
import Derived.Test.YtleechafachkaaaDoorWo
import Derived.Laws.AppendOwnNone
namespace Go.Proofs.YtleechafachkaaaDoor
open Go.RowKit
open Go.Lib (hid)
set_option linter.unusedVariables false

theorem cappedLen {V : Int} : (capped V).length ≤ 60 := by
  unfold capped
  split
  · exact rep_len (by assumption)
  · simp
theorem gz_make {s : Bool} {V : Int} (h : 0 ≤ V) : gzl (sval s V) = capped V ∧ gzs (sval s V) = (s && decide (0 < (capped V).length)) := by
  refine ⟨gzl_sval h, ?_⟩
  by_cases hz : V = 0
  · subst hz
    have : capped 0 = [] := by unfold capped; simp [rep_zero]
    rw [this]
    cases s <;> simp [sval, gzs]
  · by_cases hb : V < pw 60
    · rw [gzs_sval (by omega) hb, capped_of hb]
      have : 0 < (rep V.toNat).length := List.length_pos_iff.2 (rep_ne (by omega))
      simp [this]
    · rw [gzs_big (by rw [sval_abs h]; omega)]
      have : capped V = [] := by unfold capped; rw [if_neg hb]
      simp [this]
set_option maxRecDepth 100000 in
set_option maxHeartbeats 3200000 in
theorem l03Make_own (s : Bool) (B : Nat) (v : Value) (L : List Int) (hL : L.length ≤ 1073741824) (hl : Lim L) (w : World) (h : Ints w B v L) :
    Calls Tryd.prog 58 #[.bool s, v] w (OwnG (gzs (sval s (val L))) (gzl (sval s (val L))) w) := by
  obtain ⟨i3, hi, hz0, hz1, hz2⟩ := info_parts Tryd.info3
  have HG := gz_make (s := s) (val_nonneg hl)
  rw [HG.1, HG.2]
  clear HG
  have K := hid (l02Cap_own B v L hL hl _ (addPre (o := .cells #[.bool false, .slice none 0 0] 25) h))
  have hcl := cappedLen (V := val L)
  obtain ⟨M, hM⟩ : ∃ M, M = capped (val L) := ⟨_, rfl⟩
  rw [← hM] at K hcl ⊢
  clear hM
  have B0 := hid (below_new' (w := w) (o := .cells #[.bool false, .slice none 0 0] 25))
  have L0 := hid (Loc.new (w := w) (T := 25) (s := false) (v := .slice none 0 0))
  obtain ⟨a, c, rfl, -⟩ := Ints_form h
  clear h
  generalize hW : w.alloc (.cells #[.bool false, .slice none 0 0] 25) = W at K B0 L0
  have HW := hid hW
  clear hW
  obtain ⟨gs, hgs⟩ : ∃ g, g = (s && decide (0 < M.length)) := ⟨_, rfl⟩
  rw [← hgs]
  have HGS := hid hgs
  clear hgs
  cases s
  · have hE := hid (show gs = false by rw [HGS.out]; rfl)
    go_enter Tryd.func58, Tryd.ntmps58
    go_wp2_with fail
    rw [HW.out]
    refine K.out.mono ?_
    rintro e w1 ⟨⟨u, rfl, hu, -⟩, rfl⟩
    have HU := hid hu
    have HX := hid (Ints_lit0 (w := W) rfl)
    have HB := hid (below_new' (w := W) (o := .cells #[] 3))
    rcases Ints_cases hu with ⟨rfl, hnil⟩ | ⟨g, cc, rfl, -, hg, hcc⟩
    · obtain rfl : [] = M := hnil.symm
      clear hu
      have BB := hid (B0.out.trans (HB.out.mono B0.out.size))
      have LL := hid (L0.out.old HB.out)
      have R := hid (OwnG_out1 (s := false) (w := w) (b := w.heap.size) B0.out.size (Nat.le_refl _) LL.out (by decide) HX.out BB.out)
      have f0 := LL.out.f0 0
      have f1 := LL.out.f0 1
      have p0 := LL.out.c0
      have p1 := LL.out.c1
      go_wp2_with (at_builtin; refine wpList_append_own_none rfl _ _ 23 rfl W.heap.size 3 i3 1 Tryd.underlying23 hi _ 0 [] rfl HX.out rfl ?_)
      refine bodyPost_ret (v := .agg #[.bool false, .slice (some ⟨W.heap.size, 0, none⟩) 0 0]) (by simp [results, Tryd.results58, go_sem, p0, p1]) rfl ?_
      rw [hE.out]
      exact R.out
    · have HCb := hid (fun j (x : Value) (hx : (M.map (Value.int .i64))[j]? = some x) => show (W.alloc (.cells #[] 3)).cell? ((⟨g, 0, none⟩ : Addr).add j) = some x by
        rw [Go.WideShapes.add_plain, Nat.zero_add]
        rw [List.getElem?_map] at hx
        obtain ⟨y, hy, rfl⟩ := Option.map_eq_some_iff.1 hx
        obtain ⟨hj, rfl⟩ := List.getElem?_eq_some_iff.1 hy
        exact Ints_cell (addPre HU.out) hj)
      clear hu
      go_wp2_with (at_builtin; refine wpList_append_own _ rfl _ _ 23 rfl W.heap.size 3 i3 (.int .i64 0) 1 8 Tryd.underlying23 hi hz0 hz1 hz2 rfl (by decide) (.slice (some ⟨W.heap.size, 0, none⟩) 0 0) 0 [] rfl HX.out ⟨g, 0, none⟩ M.length cc (M.map (Value.int .i64)) rfl (by simp) ?c1 ?c2 ?c3 ?c4 ?c5 ?_)
      case c1 => exact HCb.out
      case c2 => intro x hx; obtain ⟨y, _, rfl⟩ := List.mem_map.1 hx; rfl
      case c3 => unfold maxLen; omega
      case c4 => omega
      case c5 => simp
      intro vb wl hown' hgrow _
      have hi2 : Ints wl W.heap.size vb M := by unfold Ints; simpa using hown'
      have hb2 : Below W.heap.size W wl := HB.out.grown hgrow (by simp) (fun k hk => by cases hk; exact Nat.le_refl _)
      have BB := hid (B0.out.trans (hb2.mono B0.out.size))
      have LL := hid (L0.out.old hb2)
      have R := hid (OwnG_out1 (s := false) (w := w) (b := w.heap.size) B0.out.size (Nat.le_refl _) LL.out (by decide) hi2 BB.out)
      obtain ⟨ab, cb, rfl, -⟩ := Ints_form hi2
      have f0 := LL.out.f0 0
      have f1 := LL.out.f0 1
      have p0 := LL.out.c0
      have p1 := LL.out.c1
      clear hown' hgrow hi2 hb2 HCb
      go_wp2
      refine bodyPost_ret (v := .agg #[.bool false, .slice ab M.length cb]) (by simp [results, Tryd.results58, go_sem, p0, p1]) rfl ?_
      rw [hE.out]
      exact R.out
  · by_cases h0 : 0 < M.length
    · have hE := hid (show gs = true by rw [HGS.out]; simp [h0])
      have h0' : (0 : Int) < M.length := by omega
      go_enter Tryd.func58, Tryd.ntmps58
      go_wp2_with fail
      rw [HW.out]
      refine K.out.mono ?_
      rintro e w1 ⟨⟨u, rfl, hu, -⟩, rfl⟩
      have HU := hid hu
      have HX := hid (Ints_lit0 (w := W) rfl)
      have HB := hid (below_new' (w := W) (o := .cells #[] 3))
      rcases Ints_cases hu with ⟨rfl, hnil⟩ | ⟨g, cc, rfl, -, hg, hcc⟩
      · obtain rfl : [] = M := hnil.symm
        clear hu
        exact absurd h0 (by simp)
      · have HCb := hid (fun j (x : Value) (hx : (M.map (Value.int .i64))[j]? = some x) => show (W.alloc (.cells #[] 3)).cell? ((⟨g, 0, none⟩ : Addr).add j) = some x by
          rw [Go.WideShapes.add_plain, Nat.zero_add]
          rw [List.getElem?_map] at hx
          obtain ⟨y, hy, rfl⟩ := Option.map_eq_some_iff.1 hx
          obtain ⟨hj, rfl⟩ := List.getElem?_eq_some_iff.1 hy
          exact Ints_cell (addPre HU.out) hj)
        clear hu
        go_wp2_with (at_builtin; refine wpList_append_own _ rfl _ _ 23 rfl W.heap.size 3 i3 (.int .i64 0) 1 8 Tryd.underlying23 hi hz0 hz1 hz2 rfl (by decide) (.slice (some ⟨W.heap.size, 0, none⟩) 0 0) 0 [] rfl HX.out ⟨g, 0, none⟩ M.length cc (M.map (Value.int .i64)) rfl (by simp) ?c1 ?c2 ?c3 ?c4 ?c5 ?_)
        case c1 => exact HCb.out
        case c2 => intro x hx; obtain ⟨y, _, rfl⟩ := List.mem_map.1 hx; rfl
        case c3 => unfold maxLen; omega
        case c4 => omega
        case c5 => simp
        intro vb wl hown' hgrow _
        have hi2 : Ints wl W.heap.size vb M := by unfold Ints; simpa using hown'
        have hb2 : Below W.heap.size W wl := HB.out.grown hgrow (by simp) (fun k hk => by cases hk; exact Nat.le_refl _)
        have BB := hid (B0.out.trans (hb2.mono B0.out.size))
        have LL := hid (L0.out.old hb2)
        have R := hid (OwnG_out1 (s := true) (w := w) (b := w.heap.size) B0.out.size (Nat.le_refl _) LL.out (by decide) hi2 BB.out)
        obtain ⟨ab, cb, rfl, -⟩ := Ints_form hi2
        have f0 := LL.out.f0 0
        have f1 := LL.out.f0 1
        have p0 := LL.out.c0
        have p1 := LL.out.c1
        clear hown' hgrow hi2 hb2 HCb
        go_wp2
        refine bodyPost_ret (v := .agg #[.bool true, .slice ab M.length cb]) (by simp [results, Tryd.results58, go_sem, p0, p1]) rfl ?_
        rw [hE.out]
        exact R.out
    · have hE := hid (show gs = false by rw [HGS.out]; simp [h0])
      have h0' : ¬ (0 : Int) < M.length := by omega
      go_enter Tryd.func58, Tryd.ntmps58
      go_wp2_with fail
      rw [HW.out]
      refine K.out.mono ?_
      rintro e w1 ⟨⟨u, rfl, hu, -⟩, rfl⟩
      have HU := hid hu
      have HX := hid (Ints_lit0 (w := W) rfl)
      have HB := hid (below_new' (w := W) (o := .cells #[] 3))
      rcases Ints_cases hu with ⟨rfl, hnil⟩ | ⟨g, cc, rfl, -, hg, hcc⟩
      · obtain rfl : [] = M := hnil.symm
        clear hu
        have BB := hid (B0.out.trans (HB.out.mono B0.out.size))
        have LL := hid (L0.out.old HB.out)
        have R := hid (OwnG_out1 (s := false) (w := w) (b := w.heap.size) B0.out.size (Nat.le_refl _) LL.out (by decide) HX.out BB.out)
        have f0 := LL.out.f0 0
        have f1 := LL.out.f0 1
        have p0 := LL.out.c0
        have p1 := LL.out.c1
        go_wp2_with (at_builtin; refine wpList_append_own_none rfl _ _ 23 rfl W.heap.size 3 i3 1 Tryd.underlying23 hi _ 0 [] rfl HX.out rfl ?_)
        refine bodyPost_ret (v := .agg #[.bool false, .slice (some ⟨W.heap.size, 0, none⟩) 0 0]) (by simp [results, Tryd.results58, go_sem, p0, p1]) rfl ?_
        rw [hE.out]
        exact R.out
      · have HCb := hid (fun j (x : Value) (hx : (M.map (Value.int .i64))[j]? = some x) => show (W.alloc (.cells #[] 3)).cell? ((⟨g, 0, none⟩ : Addr).add j) = some x by
          rw [Go.WideShapes.add_plain, Nat.zero_add]
          rw [List.getElem?_map] at hx
          obtain ⟨y, hy, rfl⟩ := Option.map_eq_some_iff.1 hx
          obtain ⟨hj, rfl⟩ := List.getElem?_eq_some_iff.1 hy
          exact Ints_cell (addPre HU.out) hj)
        clear hu
        go_wp2_with (at_builtin; refine wpList_append_own _ rfl _ _ 23 rfl W.heap.size 3 i3 (.int .i64 0) 1 8 Tryd.underlying23 hi hz0 hz1 hz2 rfl (by decide) (.slice (some ⟨W.heap.size, 0, none⟩) 0 0) 0 [] rfl HX.out ⟨g, 0, none⟩ M.length cc (M.map (Value.int .i64)) rfl (by simp) ?c1 ?c2 ?c3 ?c4 ?c5 ?_)
        case c1 => exact HCb.out
        case c2 => intro x hx; obtain ⟨y, _, rfl⟩ := List.mem_map.1 hx; rfl
        case c3 => unfold maxLen; omega
        case c4 => omega
        case c5 => simp
        intro vb wl hown' hgrow _
        have hi2 : Ints wl W.heap.size vb M := by unfold Ints; simpa using hown'
        have hb2 : Below W.heap.size W wl := HB.out.grown hgrow (by simp) (fun k hk => by cases hk; exact Nat.le_refl _)
        have BB := hid (B0.out.trans (hb2.mono B0.out.size))
        have LL := hid (L0.out.old hb2)
        have R := hid (OwnG_out1 (s := false) (w := w) (b := w.heap.size) B0.out.size (Nat.le_refl _) LL.out (by decide) hi2 BB.out)
        obtain ⟨ab, cb, rfl, -⟩ := Ints_form hi2
        have f0 := LL.out.f0 0
        have f1 := LL.out.f0 1
        have p0 := LL.out.c0
        have p1 := LL.out.c1
        clear hown' hgrow hi2 hb2 HCb
        go_wp2
        refine bodyPost_ret (v := .agg #[.bool false, .slice ab M.length cb]) (by simp [results, Tryd.results58, go_sem, p0, p1]) rfl ?_
        rw [hE.out]
        exact R.out
end Go.Proofs.YtleechafachkaaaDoor
