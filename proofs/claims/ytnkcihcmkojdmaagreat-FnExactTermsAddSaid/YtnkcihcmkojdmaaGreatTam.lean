/- Merged: Tca Tam. -/
import Derived.Test.YtnkcihcmkojdmaaGreatTct
import Derived.Lib.AppendZeros
import Derived.Deep.Onto
import Derived.Deep.Upon
import Derived.Deep.RegionHeld3
import Derived.Deep.DeepCutAuto
import Derived.Test.YtnkcihcmkojdmaaGreatTsm
import Derived.Deep.RegionLaw
/- slices.Concat of two slices of terms. -/
namespace Go.Proofs.YtnkcihcmkojdmaaGreat
open Go.RowKit
open Go.Lib (hid)
set_option linter.unusedVariables false

theorem TK.hi {p : Bool} {w : World} {v : Value} {K : List Tq} {lo hi : Nat} (h : TK p w v K lo hi) : TK p w v K lo w.heap.size := by
  obtain ⟨E, h, e⟩ := h
  exact ⟨E, ⟨h.row, fun k hk => (h.lt k hk).2, fun x hx => ⟨⟨(h.el x hx).a.ints, fun k hk => (Ints_lt (h.el x hx).a.ints k hk).2⟩, ⟨(h.el x hx).d.ints, fun k hk => (Ints_lt (h.el x hx).d.ints k hk).2⟩⟩, h.nd, h.ap⟩, e⟩
theorem flatT_cell {E : List Et} (h : ∀ e ∈ E, (∃ a n c, e.v = .slice a n c) ∧ ∃ a n c, e.u = .slice a n c) : ∀ u ∈ flatT E, u.oneCell' = true := by
  induction E with
  | nil => intro u hu; cases hu
  | cons e E ih =>
    intro u hu
    rw [flatT_cons] at hu
    obtain ⟨⟨a, n, c, h1⟩, ⟨a', n', c', h2⟩⟩ := h e (List.mem_cons_self ..)
    rw [h1, h2] at hu
    simp only [List.mem_cons] at hu
    rcases hu with rfl | rfl | rfl | rfl | hu
    · rfl
    · rfl
    · rfl
    · rfl
    · exact ih (fun x hx => h x (List.mem_cons_of_mem _ hx)) u hu
section
variable {ops : Array Oper} {o : Oper} {a : Act} {p : Bool} {W : World} {v u : Value} {E : List Et} {lo lo' hi cnt : Nat} {xs : List Value}
set_option maxRecDepth 100000 in
/-- THE APPEND of a whole slice of terms. -/
theorem wpList_appT {rest : List Oper} {Q : Exit → Act → World → Prop} (hgd : o.guard = none) (s1 x1 : Operand)
    (ho : o.op = .call { callee := .builtin .append, args := #[s1, x1], argTypes := #[46, 46] }) (hs : a.eval s1 = v) (hv : W.ownsRow lo 93 4 v cnt xs) (hx : a.eval x1 = u) (hT : TO p W u E lo' hi)
    (hc : cnt ≤ 2097152) (hE : E.length ≤ 1048576) (hlw : lo ≤ W.heap.size)
    (h : ∀ (v' : Value) (w' : World), w'.ownsRow lo 93 4 v' (cnt + E.length) (xs ++ flatT E) → Below lo W w' → wpList Tryz.prog ops Q rest (a.put o.dst v') w') :
    wpList Tryz.prog ops Q (o :: rest) a W := by
  obtain ⟨i0, hi0, hz0, hz1, hz2⟩ := info_parts infoTerm
  by_cases h0 : E.length = 0
  · have e0 : E = [] := List.length_eq_zero_iff.1 h0
    subst e0
    have hsrc : ∃ c, (u = .slice none 0 c ∨ ∃ ad, u = .slice (some ad) 0 c) := by
      obtain ⟨a', c', rfl, -⟩ := hT.form
      cases a' with
      | none => exact ⟨c', .inl rfl⟩
      | some ad => exact ⟨c', .inr ⟨ad, rfl⟩⟩
    have hS : Src Tryz.prog i0.size 46 u 0 [] W := by
      obtain ⟨c, rfl | ⟨ad, rfl⟩⟩ := hsrc
      · exact Src.ofNil (w := W) Tryz.underlying46 c
      · exact Src.ofSlice W Tryz.underlying46 ad 0 c [] (by simp) (fun j u hj => by simp at hj) (fun u hu => by cases hu)
    have hvs : ∃ base cap, v = .slice base cnt cap ∧ cnt ≤ cap := by
      rcases hv.2 with ⟨rfl, rfl⟩ | ⟨g, cap, cur, rfl, -, -, hle, -⟩
      · exact ⟨_, _, rfl, Nat.le_refl _⟩
      · exact ⟨_, _, rfl, hle⟩
    obtain ⟨base, cap, rfl, hle⟩ := hvs
    have hr := run_append_nothing (P := Tryz.prog) W 46 46 o.type 93 i0 Tryz.underlying46 hi0 base cnt cap hle u hS
    exact Go.Lib.wpList_append_run W hgd s1 x1 46 46 ho _ _ hs hx _ _ hr (h _ _ (by simpa [flatT] using hv) (Below.refl _ _))
  · obtain ⟨a', c', rfl, -⟩ := hT.form
    obtain ⟨g, rfl, -, -, -, -⟩ := hT.pos (by omega)
    have hrow := hT.row
    refine wpList_append_lies W hgd s1 x1 46 ho lo 93 i0 _ 4 64 Tryz.underlying46 hi0 hz0 hz1 hz2 rfl (by decide) v cnt xs hs hv ⟨g, 0, none⟩ E.length c' (flatT E) hx (flatT_len E) (fun j z hj => ?_) (flatT_cell fun e he => ?_) (by omega) (by unfold maxLen; omega) (by omega) hlw W.heap.size rfl ?_
    · have hj' : j < (flatT E).length := (List.getElem?_eq_some_iff.1 hj).1
      rw [flatT_len] at hj'
      have := hrow.cellAt j hj'
      rw [hj] at this
      by_cases hj0 : j = 0
      · subst hj0; simpa [Addr.add] using this
      · simpa [Addr.add, hj0] using this
    · obtain ⟨a3, c3, b3, d3, e1, e2⟩ := (hT.el e he).form
      exact ⟨⟨_, _, _, e1⟩, ⟨_, _, _, e2⟩⟩
    · intro g' cap' w' hrow' hgr _ hlt
      exact h _ w' hrow' ((Below.refl lo W).grown hgr hlw fun k hk => (hv.lt k hk).1)
end
set_option maxRecDepth 100000 in
set_option maxHeartbeats 6400000 in
theorem grow_nil {n : Nat} (hn : n ≤ 2097152) (w : World) : Calls Tryz.prog 116 #[.slice none 0 0, .int .i64 n] w fun e w' => ∃ v, e = .returned v ∧ w'.ownsRow w.heap.size 93 4 v 0 [] ∧ Below w.heap.size w w' := by
  by_cases h0 : n = 0
  · subst h0
    go_enter Tryz.func116, Tryz.ntmps116
    go_wp2
    go_ret
    exact ⟨_, rfl, World.ownsRow_nil _ _ _ _, Below.refl _ _⟩
  · obtain ⟨i0, hi0, hz0, hz1, hz2⟩ := info_parts infoTerm
    have happ := Go.Lib.run_append_nil_zeros (P := Tryz.prog) w 46 3 46 93 i0 _ .i64 .i64 Tryz.underlying46 Tryz.underlying3 hi0 hz0 n (by omega) (by omega) (by omega) (by rw [hz2]; omega)
    have hcapge : n ≤ grownCap w n 0 93 := grownCap_ge w _ 0 _
    have hcaple : grownCap w n 0 93 ≤ maxLen := grownCap_le_maxLen w _ 0 _ (by unfold maxLen; omega)
    generalize grownCap w n 0 93 = cap2 at happ hcapge hcaple
    generalize hZ : (Builtin.zeroCells _ n ++ Builtin.zeroCells _ (cap2 - n)) = Z at happ
    have hZs : Z.size = cap2 * 4 := by rw [← hZ]; simp [size_zeroCells, Value.cells]; omega
    have hown := hid (World.ownsRow_made (e := 93) (size := 4) (base := w.heap.size) w.drew Z cap2 (Nat.le_refl _) hcaple hZs)
    have hbel := hid (show Below w.heap.size w (w.drew.alloc (.cells Z 93)) from (Below_drew1 (Below.refl _ w)).trans (show Below w.heap.size w.drew (w.drew.alloc _) from below_new' (w := w.drew)))
    have h1 : ¬ (n : Int) < 0 := by omega
    have h2 : (0 : Int) < n := by omega
    have h3 : wrap64 ((n : Int)) = n := by unfold wrap64; omega
    clear hZ hZs hcapge hcaple hz0 hz1 hz2 hi0
    go_enter Tryz.func116, Tryz.ntmps116
    go_wp2_with (at_builtin; refine Go.Lib.wpList_append_run _ rfl _ _ _ _ rfl _ _ rfl rfl _ _ happ ?_)
    go_wp2
    go_ret
    exact ⟨_, rfl, hown.out, hbel.out⟩
def cntC (n m j : Nat) : Nat := if j = 0 then 0 else if j = 1 then n else n + m
def flC (E F : List Et) (j : Nat) : List Value := if j = 0 then [] else if j = 1 then flatT E else flatT (E ++ F)
set_option maxRecDepth 100000 in
set_option maxHeartbeats 12800000 in
theorem concat2 {p q : Bool} {a : Option Addr} {n c : Nat} {b : Option Addr} {m d : Nat} {K M : List Tq} {lo hi lo' hi' B : Nat} (hn : n ≤ 1048576) (hm : m ≤ 1048576) (w : World) (hB : w.heap[B]? = some (.cells #[.slice a n c, .slice b m d] 46 (0, 0))) (h : TK p w (.slice a n c) K lo hi) (h' : TK q w (.slice b m d) M lo' hi') :
    Calls Tryz.prog 70 #[.slice (some ⟨B, 0, none⟩) 2 2] w fun e w' => ∃ x l y, e = .returned (.slice x l y) ∧ TK false w' (.slice x l y) (K ++ M) 0 w'.heap.size ∧ Below w.heap.size w w' := by
  obtain ⟨E, hE, hEK⟩ := h.hi
  obtain ⟨F, hF, hFK⟩ := h'.hi
  have hLB : LocA 46 w B #[.slice a n c, .slice b m d] := hB
  have HL := hid hLB
  have HE := hid hE
  have HF := hid hF
  obtain rfl := hE.num
  obtain rfl := hF.num
  have HEF := hid (show keysT (E ++ F) = K ++ M by rw [keysT_append, hEK, hFK])
  clear hE hF hEK hFK h h' hLB hB
  have kg := grow_nil (n := E.length + F.length) (by omega) w
  rw [Int.natCast_add] at kg
  have KG := hid kg
  clear kg
  have p0 := HL.out.c 0 (v := .slice a E.length c) rfl
  have p1 := HL.out.c 1 (v := .slice b F.length d) rfl
  have s1 : ¬ (E.length : Int) < 0 := by omega
  have s2 : ¬ (E.length : Int) + (F.length : Int) < 0 := by omega
  have s3 : wrap64 ((E.length : Int)) = E.length := by unfold wrap64; omega
  have s4 : wrap64 ((E.length : Int) + (F.length : Int)) = (E.length : Int) + (F.length : Int) := by unfold wrap64; omega
  go_enter Tryz.func70, Tryz.ntmps70
  go_wp2
  go_loopw [3, 11] (fun s i wr => ∃ (j : Nat), j ≤ 2 ∧ i = .int .i64 j ∧ s = .int .i64 (cntC E.length F.length j) ∧ w = wr) (fun _ i _ => 2 - (intOf i).toNat)
  case atStart => exact ⟨0, by omega, rfl, rfl, rfl⟩
  case round =>
    obtain ⟨j, hj, rfl, rfl, rfl⟩ := hrel
    obtain rfl | rfl | rfl : j = 0 ∨ j = 1 ∨ j = 2 := by omega
    · have e0 : ((cntC E.length F.length 0 : Nat) : Int) = 0 := rfl
      rw [e0]
      go_wp2
      go_roundw
      case rel => exact ⟨1, by omega, by go_num, by simp [cntC], (by first | rfl | trivial)⟩
      case measure => simp [intOf]
    · have e0 : ((cntC E.length F.length 1 : Nat) : Int) = E.length := rfl
      rw [e0]
      go_wp2
      go_roundw
      case rel => exact ⟨2, by omega, by go_num, by simp [cntC], (by first | rfl | trivial)⟩
      case measure => simp [intOf]
    · have e0 : ((cntC E.length F.length 2 : Nat) : Int) = ((E.length + F.length : Nat) : Int) := rfl
      rw [e0]
      go_wp2_with fail
      (with_reducible refine (KG.out).mono ?_)
      rintro e w1 ⟨v1, rfl, hr, hb⟩
      have HR := hid hr
      have HB := hid hb
      clear hr hb
      go_wp2
      go_loopw [6, 27] (fun v i wr => ∃ (j : Nat) (vv : Value), j ≤ 2 ∧ i = .int .i64 j ∧ vv = v ∧ Hid (wr.ownsRow w.heap.size 93 4 vv (cntC E.length F.length j) (flC E F j)) ∧ Hid (Below w.heap.size w wr)) (fun _ i _ => 2 - (intOf i).toNat)
      case atStart => exact ⟨0, v1, by omega, rfl, rfl, HR, HB⟩
      case round =>
        obtain ⟨j, v, hj, rfl, rfl, hR, hB⟩ := hrel
        have hz := hB.out.size
        have hL := hid (HL.out.old hB.out)
        have p0 := hL.out.c 0 (v := .slice a E.length c) rfl
        have p1 := hL.out.c 1 (v := .slice b F.length d) rfl
        obtain rfl | rfl | rfl : j = 0 ∨ j = 1 ∨ j = 2 := by omega
        · have hT := hid (HE.out.old hB.out)
          go_wp2_with (first | (at_builtin; refine wpList_appT rfl _ _ rfl rfl hR.out rfl hT.out (by simp [cntC]) (by omega) hz ?_))
          intro v' w' hr hb
          have HRR := hid hr
          have HBB := hid (hB.out.trans hb)
          clear hr hb
          go_wp2
          go_roundw
          case rel => exact ⟨1, v', by omega, by go_num, rfl, hid (by have := HRR.out; simpa [cntC, flC] using this), HBB⟩
          case measure => simp [intOf]
        · have hT := hid (HF.out.old hB.out)
          go_wp2_with (first | (at_builtin; refine wpList_appT rfl _ _ rfl rfl hR.out rfl hT.out (by simp [cntC]; omega) (by omega) hz ?_))
          intro v' w' hr hb
          have HRR := hid hr
          have HBB := hid (hB.out.trans hb)
          clear hr hb
          go_wp2
          go_roundw
          case rel => exact ⟨2, v', by omega, by go_num, rfl, hid (by have := HRR.out; simpa [cntC, flC, flatT_append] using this), HBB⟩
          case measure => simp [intOf]
        · have hR' := hR.out
          have e1 : cntC E.length F.length 2 = (E ++ F).length := by simp [cntC]
          have e2 : flC E F 2 = flatT (E ++ F) := by simp [flC]
          rw [e1, e2] at hR'
          have HK : TK false wr v (K ++ M) 0 wr.heap.size := ⟨E ++ F, ⟨hR'.mono (Nat.zero_le _), fun k hk => (hR'.lt k hk).2, fun x hx => by
            rcases List.mem_append.1 hx with hx | hx
            · exact ⟨((HE.out.el x hx).old hB.out).a.wide (Nat.zero_le _) (.inr hz), ((HE.out.el x hx).old hB.out).d.wide (Nat.zero_le _) (.inr hz)⟩
            · exact ⟨((HF.out.el x hx).old hB.out).a.wide (Nat.zero_le _) (.inr hz), ((HF.out.el x hx).old hB.out).d.wide (Nat.zero_le _) (.inr hz)⟩, fun h => (by cases h), fun h => (by cases h)⟩, HEF.out⟩
          obtain ⟨x, y, rfl⟩ := HK.form
          have HKK := hid HK
          clear hR' e1 e2 HK
          go_wp2
          go_ret
          exact ⟨_, _, _, rfl, HKK.out, hB.out⟩
end Go.Proofs.YtnkcihcmkojdmaaGreat

/- Sums of lists of terms: the lists; the coefficient that a map has. -/
namespace Go.Proofs.YtnkcihcmkojdmaaGreat
open Go.RowKit
open Go.Lib (hid)
set_option linter.unusedVariables false

def adF : Option Rat → Option Rat → Fq := fun z o => fqo (bq addF z o)
theorem adF_at (z o : Option Rat) : adF z o = fqo (bq addF z o) := rfl
theorem adF_zero {o : Option Rat} (h : o.isSome = true) (hf : fitO o) : adF (some ((0 : Int) : Rat)) o = fqo o := by
  obtain ⟨y, rfl⟩ := Option.isSome_iff_exists.1 h
  rw [adF_at, bq_ss]
  unfold addF capF
  have e : ((0 : Int) : Rat) + y = y := Rat.zero_add y
  rw [e, if_pos (hf y rfl)]
theorem adF_own {t : Tq} (h : nz t.o = true) : adF (some ((0 : Int) : Rat)) t.o = t.f := by
  rw [adF_zero (nz_isSome h) (fitO_ot t)]
  exact (fq_form (f := t.f) (by rw [Tq.f_o]; exact nz_isSome h)).symm
theorem lay_one {K : List Tq} (a : Asc (cT K)) (c : ∀ t ∈ K, nz t.o = true) (x : Int) : layG adF K G0 x = (findC K x).map Tq.f := by
  rw [layG_at adF a]
  cases e : findC K x with
  | none => rfl
  | some t =>
    show some (adF (some ((0 : Int) : Rat)) t.o) = some t.f
    rw [adF_own (c t (findC_some e).1)]
theorem lay_comb {K M : List Tq} {n n' : Int} (hK : tok K n = true) (hM : tok M n' = true) (x : Int) : layG adF (K ++ M) G0 x = combO (findC K x) (findC M x) := by
  obtain ⟨a, -, c⟩ := tok_asc hK
  obtain ⟨a', -, c'⟩ := tok_asc hM
  have h1 := lay_one a c x
  rw [layG_append, layG_at adF a']
  cases e : findC K x with
  | none =>
    rw [e] at h1
    have h2 : ofG (layG adF K G0) x = some ((0 : Int) : Rat) := by unfold ofG; rw [h1]; rfl
    cases e' : findC M x with
    | none => exact h1
    | some u =>
      show some (adF (ofG (layG adF K G0) x) u.o) = some u.f
      rw [h2, adF_own (c' u (findC_some e').1)]
  | some t =>
    rw [e] at h1
    have h2 : ofG (layG adF K G0) x = t.o := by unfold ofG; rw [h1]; rfl
    cases e' : findC M x with
    | none => exact h1
    | some u =>
      show some (adF (ofG (layG adF K G0) x) u.o) = some (fqo (bq addF t.o u.o))
      rw [h2, adF_at]
theorem cols_add {K M : List Tq} (hK : tok K 40 = true) (hM : tok M 40 = true) : ColsOf (layG adF (K ++ M) G0) (mergeC K M) := by
  obtain ⟨a, b, -⟩ := tok_asc hK
  obtain ⟨a', b', -⟩ := tok_asc hM
  refine ⟨mergeC_asc K M a a', fun x => ?_⟩
  rw [lay_comb hK hM, mergeC_mem, ← findC_isSome, ← findC_isSome]
  constructor
  · intro h
    have h0 : I64 x := by
      rcases h with h | h
      · have := b x (findC_isSome.1 h); exact ⟨by omega, by omega⟩
      · have := b' x (findC_isSome.1 h); exact ⟨by omega, by omega⟩
    refine ⟨h0, ?_⟩
    cases e : findC K x <;> cases e' : findC M x
    · rw [e, e'] at h; rcases h with h | h <;> cases h
    · rfl
    · rfl
    · rfl
  · rintro ⟨-, h⟩
    cases e : findC K x <;> cases e' : findC M x
    · rw [e, e'] at h; cases h
    · exact .inr rfl
    · exact .inl rfl
    · exact .inl rfl
/-- The sum of two lists of terms, if there is such a list. -/
def addT (K M : List Tq) : List Tq := if tok K 40 = true then (if tok M 40 = true then (mergeT K M).getD [] else []) else []
theorem addT_no1 {K M : List Tq} (h : tok K 40 = false) : addT K M = [] := by unfold addT; rw [h]; rfl
theorem addT_no2 {K M : List Tq} (h : tok M 40 = false) : addT K M = [] := by
  unfold addT
  split
  · rw [h]; rfl
  · rfl
theorem addT_yes {K M : List Tq} (h : tok K 40 = true) (h' : tok M 40 = true) : addT K M = (mergeT K M).getD [] := by unfold addT; rw [h, h']; rfl
theorem coll_add {K M : List Tq} (hK : tok K 40 = true) (hM : tok M 40 = true) : collG (mergeC K M) (layG adF (K ++ M) G0) = addT K M := by
  obtain ⟨a, -, c⟩ := tok_asc hK
  obtain ⟨a', -, c'⟩ := tok_asc hM
  rw [addT_yes hK hM]
  exact pairG_coll (merge_coll K M a a' c c' fun x _ => lay_comb hK hM x)
theorem mergeC_len : ∀ (K M : List Tq), (mergeC K M).length ≤ K.length + M.length
  | [], M => by rw [mergeC]; simp [cT]
  | t :: K, [] => by rw [mergeC]; simp [cT]
  | t :: K, u :: M => by
    have i1 := mergeC_len K (u :: M)
    have i2 := mergeC_len (t :: K) M
    have i3 := mergeC_len K M
    rw [mergeC]
    simp only [List.length_cons] at i1 i2 ⊢
    split
    · rw [List.length_cons]; omega
    · split
      · rw [List.length_cons]; omega
      · rw [List.length_cons]; omega
termination_by K M => K.length + M.length
theorem Tq_nn {t : Tq} (h : nz t.o = true) : t.n ≤ 50 := by
  rw [tq_form (nz_isSome h)]
  exact tqo_n _ (fitO_ot t)
theorem pick_one (G : Int → Option Fq) (x : Int) : szT (pickG G x) ≤ 50 := by
  unfold pickG
  cases G x with
  | none => simp [szT]
  | some f =>
    simp only
    by_cases hz : nz f.o = true
    · rw [if_pos hz]
      rw [show f.o = Tq.o ⟨x, f.s, f.A, f.D⟩ by simp only [Tq.o, Fq.o]] at hz
      have h2 := Tq_nn hz
      simp only [szT]
      omega
    · rw [if_neg hz]; simp [szT]
theorem pick_sz (G : Int → Option Fq) (L : List Int) : szT (L.flatMap (pickG G)) ≤ L.length * 50 := by
  induction L with
  | nil => simp [szT]
  | cons x L i =>
    have h := pick_one G x
    rw [List.flatMap_cons, szT_append, List.length_cons]
    omega
theorem addT_sz (K M : List Tq) : szT (addT K M) ≤ 4000 := by
  cases h : tok K 40 with
  | false => rw [addT_no1 h]; simp [szT]
  | true =>
    cases h' : tok M 40 with
    | false => rw [addT_no2 h']; simp [szT]
    | true =>
      rw [← coll_add h h']
      unfold collG
      split
      · have h1 := pick_sz (layG adF (K ++ M) G0) (mergeC K M)
        have h2 := mergeC_len K M
        have h3 := tok_len h
        have h4 := tok_len h'
        omega
      · simp [szT]
def OfR (o : Option Rat) (w : World) (e : Ending) (w' : World) : Prop := ∃ s a n c b m d, e = .returned (.agg #[.bool s, .slice a n c, .slice b m d]) ∧ RA w' s (.slice a n c) (.slice b m d) o ∧ Below w.heap.size w w'
set_option maxRecDepth 100000 in
set_option maxHeartbeats 6400000 in
/-- The coefficient that a map has for a column, 0 if it has none. -/
theorem impl_of {b n : Nat} {E : Int → Option El} {G : Int → Option Fq} {lo hi : Nat} {x : Int} (hx : I64 x) (w : World) (h : CO w b n E lo hi) (hG : ∀ x, (E x).map El.q = G x) : Calls Tryz.prog 71 #[.map (some b), .int .i64 x] w (OfR (ofG G x) w) := by
  have HC := hid h
  have HXX := hid hx
  have B1 := hid (below_new' (w := w) (o := .cells #[.bool false, .slice none 0 0, .slice none 0 0] 30))
  have HM := hid (HC.out.mi.old B1.out)
  have L1 := hid (LocA.new (w := w) (T := 30) (cs := #[.bool false, .slice none 0 0, .slice none 0 0]))
  have HS := hid (show (w.alloc (.cells #[.bool false, .slice none 0 0, .slice none 0 0] 30)).heap.size = w.heap.size + 1 by simp)
  have hgx := hG x
  cases he : E x with
  | none =>
    have HE := hid he
    have HO := hid (show ofG G x = some ((0 : Int) : Rat) by unfold ofG; rw [← hgx, he]; rfl)
    clear h hx hG hgx he
    rw [HO.out]
    generalize hW : w.alloc (.cells #[.bool false, .slice none 0 0, .slice none 0 0] 30) = W at B1 HM L1 HS
    have HW := hid hW
    clear hW
    have B2 := hid (B1.out.alloc B1.out.size (.cells #[.bool false, .slice none 0 0, .slice none 0 0] 30))
    have L2 := hid (L1.out.new1 (o := .cells #[.bool false, .slice none 0 0, .slice none 0 0] 30))
    have KI := hid (fun U => int_o 0 (by decide) (by decide) U)
    go_enter Tryz.func71, Tryz.ntmps71
    go_wp2_with (first | (at_lookup; rw [HW.out]; refine wpList_look_no rfl _ _ rfl rfl HM.out x HXX.out rfl HE.out ?_))
    go_wp2_with fail
    (with_reducible refine (KI.out _).mono ?_)
    rintro e w3 ⟨s4, a4, n4, c4, b4, m4, d4, rfl, hr, hb⟩
    have L3 := hid (L2.out.old hb)
    have B3 := hid (B2.out.trans (hb.mono B2.out.size))
    have R := hid (RO.out (w := w) (N := w.heap.size) hr (by have := B2.out.size; exact this) (Nat.le_refl _) L3.out (by decide) B3.out)
    have f0 := L3.out.f 0
    have f1 := L3.out.f 1
    have f2 := L3.out.f 2
    have p0 := L3.out.c 0 rfl
    have p1 := L3.out.c 1 rfl
    have p2 := L3.out.c 2 rfl
    clear hr hb
    go_wp2
    exact bodyPost_ret (v := .agg #[.bool s4, .slice a4 n4 c4, .slice b4 m4 d4]) (by simp [results, Tryz.results71, go_sem, p0, p1, p2]) rfl (by
      obtain ⟨s, a, n, c, b', m, d, he, hr, hb⟩ := R.out
      exact ⟨s, a, n, c, b', m, d, he, hr.ra, hb⟩)
  | some e0 =>
    obtain ⟨a3, c3, b3, d3, hval, -, -, hrl⟩ := HC.out.at he
    have HE := hid he
    have HO := hid (show ofG G x = e0.q.o by unfold ofG; rw [← hgx, he]; rfl)
    have HV := hid hval
    have HR := hid (show RA w e0.q.s (.slice a3 e0.q.A.length c3) (.slice b3 e0.q.D.length d3) e0.q.o from ⟨_, _, hrl, rfl⟩)
    clear h hx hG hgx he hval hrl
    rw [HO.out]
    generalize e0.q.s = s4 at HV HR
    generalize e0.q.A.length = n4 at HV HR
    generalize e0.q.D.length = m4 at HV HR
    generalize e0.q.o = oo at HR ⊢
    generalize hW : w.alloc (.cells #[.bool false, .slice none 0 0, .slice none 0 0] 30) = W at B1 HM L1 HS
    have HW := hid hW
    clear hW
    have B2 := hid (B1.out.alloc B1.out.size (.cells #[.bool s4, .slice a3 n4 c3, .slice b3 m4 d3] 30))
    have L2 := hid (L1.out.new1 (o := .cells #[.bool s4, .slice a3 n4 c3, .slice b3 m4 d3] 30))
    have f0 := L2.out.f 0
    have f1 := L2.out.f 1
    have f2 := L2.out.f 2
    have p0 := L2.out.c 0 rfl
    have p1 := L2.out.c 1 rfl
    have p2 := L2.out.c 2 rfl
    have B3 := hid (((B2.out.setCell (p := ⟨w.heap.size, 0, none⟩) (by simp) (.bool s4)).setCell (p := ⟨w.heap.size, 1, none⟩) (by simp) (.slice a3 n4 c3)).setCell (p := ⟨w.heap.size, 2, none⟩) (by simp) (.slice b3 m4 d3))
    have R := hid (show OfR oo w (.returned (.agg #[.bool s4, .slice a3 n4 c3, .slice b3 m4 d3])) _ from ⟨_, _, _, _, _, _, _, rfl, HR.out.old B3.out, B3.out⟩)
    go_enter Tryz.func71, Tryz.ntmps71
    go_wp2_with (first | (at_lookup; rw [HW.out]; refine wpList_look_yes rfl _ _ rfl rfl HM.out x HXX.out rfl _ HE.out _ HV.out ?_))
    go_wp2
    exact bodyPost_ret (v := .agg #[.bool s4, .slice a3 n4 c3, .slice b3 m4 d3]) (by simp [results, Tryz.results71, go_sem, p0, p1, p2]) rfl R.out
end Go.Proofs.YtnkcihcmkojdmaaGreat
