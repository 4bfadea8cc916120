import Derived.Test.YthkehmnodcmlcaaGreatTbeP
import Derived.Maps.RangeWalk
import Derived.Lib.SlKeysI
import Derived.Test.YthkehmnodcmlcaaGreatTokP
import Derived.Test.YthkehmnodcmlcaaGreatTcoP
import Derived.Test.YthkehmnodcmlcaaGreatShelf
import Derived.Test.YthkehmnodcmlcaaGreatShelgP
import Derived.Deep.RegionHeld3
import Derived.Deep.DeepCutAuto
set_option maxRecDepth 100000
set_option maxHeartbeats 6400000
set_option linter.unusedVariables false
set_option linter.unusedSimpArgs false
namespace Go.Proofs.YthkehmnodcmlcaaGreat
open Go.RowKit
open Go.Lib (hid)
theorem keyI : Go.Maps.Keyed Tryz.prog 3 := Go.Maps.int_keyed Tryz.underlying3
def rawE (v : Value) : Option (DataW Value × List MemPlace) :=
 match v with
 | .agg ⟨[.bool _, .slice _ _ _, .slice _ _ _]⟩ => some (.held v, [])
 | _ => none
theorem rawE_mk (s : Bool) (a : Option Addr) (n c : Nat) (b : Option Addr) (m d : Nat) : rawE (.agg #[.bool s, .slice a n c, .slice b m d]) = some (.held (.agg #[.bool s, .slice a n c, .slice b m d]), []) := rfl
structure Rw where
 s : Bool
 a : Option Addr
 n : Nat
 c : Nat
 b : Option Addr
 m : Nat
 d : Nat
def Rw.val (z : Rw) : Value := .agg #[.bool z.s, .slice z.a z.n z.c, .slice z.b z.m z.d]
theorem rawE_inv {v : Value} {y : DataW Value × List MemPlace} (h : rawE v = some y) : (∃ z : Rw, v = z.val) ∧ y = (.held v, []) := by
 unfold rawE at h
 split at h
 ·next s a n c b m d =>
  cases h
  exact ⟨⟨⟨s, a, n, c, b, m, d⟩, rfl⟩, rfl⟩
 ·cases h
def El.val (e : El) : Value := .agg #[.bool e.q.s, e.v, e.u]
def I64 (x : Int) : Prop := -9223372036854775808 ≤ x ∧ x ≤ 9223372036854775807
theorem wf_I64 {x : Int} : (Lit.int .i64 x).wf = true ↔ I64 x := by
 have e1 : IntKind.min .i64 = -9223372036854775808 := by decide
 have e2 : IntKind.max .i64 = 9223372036854775807 := by decide
 show (decide (IntKind.min .i64 ≤ x) && decide (x ≤ IntKind.max .i64)) = true ↔ I64 x
 rw [e1, e2, Bool.and_eq_true, decide_eq_true_eq, decide_eq_true_eq]
 exact Iff.rfl
theorem I64.wf {x : Int} (h : I64 x) : (Lit.int .i64 x).wf = true := wf_I64.2 h
theorem keyOf_I64 {x : Int} (h : I64 x) : keyOf Tryz.prog 3 (.int .i64 x) = some (.int .i64 x) := Go.Maps.keyOf_int_mk Tryz.underlying3 h.wf
def MI (w : World) (b n : Nat) (E : Int → Option El) : Prop :=
 ∃ D : DataW Value, w.ownsMap Tryz.prog 3 rawE b n D ∧ ∀ x, I64 x → ∀ z, D.atKey (.int .i64 x) z = match E x with | some e => .held e.val | none => z
theorem zeroRat (w : World) : (zeroValue 37).run Tryz.prog w = .ok (.agg #[.bool false, .slice none 0 0, .slice none 0 0]) w := by kernel_rfl
theorem has_none {D : DataW Value} {kl : Lit} (h : ∀ z, D.atKey kl z = z) : Go.Maps.has D kl = false := Go.Maps.has_false_of_atKey h
theorem held_inj {v v' : Value} (h : (DataW.held v : DataW Value) = .held v') : v = v' := by cases h; rfl
section
variable {w : World} {b n : Nat} {E : Int → Option El}
theorem MI.kept {w' : World} {row : Option Nat} (h : MI w b n E) (hg : w.grownBy w' row) (hne : some b ≠ row) : MI w' b n E := by
 obtain ⟨D, h, hD⟩ := h
 exact ⟨D, h.kept hg hne, hD⟩
theorem MI.block {w' : World} (h : MI w b n E) (hb : w'.heap[b]? = w.heap[b]?) : MI w' b n E := by
 obtain ⟨D, ⟨es, clock, h1, r⟩, hD⟩ := h
 exact ⟨D, ⟨es, clock, hb.trans h1, r⟩, hD⟩
theorem MI.lt (h : MI w b n E) : b < w.heap.size := by
 obtain ⟨D, h, -⟩ := h
 exact h.lt
theorem MI.old {w' : World} (h : MI w b n E) (hb : Below w.heap.size w w') : MI w' b n E := h.block (hb.block b h.lt)
theorem MI.mono {n' : Nat} (h : MI w b n E) (hn : n ≤ n') : MI w b n' E := by
 obtain ⟨D, h, hD⟩ := h
 exact ⟨D, h.mono hn, hD⟩
theorem MI_made (w : World) : MI (w.alloc (.map #[] 0)) w.heap.size 0 (fun _ => none) :=
 ⟨.map [], World.ownsMap_made w Tryz.prog 3 rawE, fun x _ z => rfl⟩
def updE (E : Int → Option El) (x : Int) (e : El) : Int → Option El := fun y => if y = x then some e else E y
theorem updE_same (E : Int → Option El) (x : Int) (e : El) : updE E x e x = some e := by simp [updE]
theorem updE_other {E : Int → Option El} {x y : Int} {e : El} (h : y ≠ x) : updE E x e y = E y := by simp [updE, h]
theorem key_ne {x y : Int} (h : y ≠ x) : (Lit.int .i64 y) ≠ .int .i64 x := fun e => h (by cases e; rfl)
theorem isKey_int (x : Int) : WideAt.IsKeyLit (.int .i64 x) := trivial
def Spec (D : DataW Value) (E : Int → Option El) : Prop := ∀ x, I64 x → ∀ z, D.atKey (.int .i64 x) z = match E x with | some e => .held e.val | none => z
theorem Spec.has {D : DataW Value} {E : Int → Option El} (hD : Spec D E) {x : Int} (hx : I64 x) : Go.Maps.has D (.int .i64 x) = (E x).isSome := by
 have h := hD x hx
 cases e : E x with
 | none => rw [e] at h; exact has_none h
 | some v => rw [e] at h; exact Go.Maps.has_true_of_atKey h
theorem Spec.upd {D : DataW Value} {E : Int → Option El} (hD : Spec D E) (hm : Go.Maps.IsMap D) (x : Int) (e : El) : Spec (D.put (.int .i64 x) (.held e.val)) (updE E x e) := by
 intro y hy z
 by_cases h : y = x
 ·subst h
  rw [updE_same]
  exact Go.Maps.atKey_put_same hm (isKey_int _) _ _
 ·rw [updE_other h, Go.Maps.atKey_put_other (key_ne h)]
  exact hD y hy z
end
section
variable {ops : Array Oper} {rest : List Oper} {o : Oper} {a : Act} {Q : Exit → Act → World → Prop} {w : World} {b n r cnt : Nat} {E : Int → Option El} {ss : List Int}
theorem wpList_look (hg : o.guard = none) (m x : Operand) (hop : o.op = Op.lookup 133 m x false) (hm : a.eval m = .map (some b)) (h : MI w b n E) (c : Int) (hc : I64 c) (hx : a.eval x = .int .i64 c) (e : El) (he : E c = some e) (v : Value) (hv : e.val = v)
  (hK : wpList Tryz.prog ops Q rest (a.put o.dst v) w) : wpList Tryz.prog ops Q (o :: rest) a w := by
 obtain ⟨D, hown, hD⟩ := h
 refine wpList_plain hg fun K' hK' => ?_
 obtain ⟨v', ps, hrun, hv'⟩ := hown.lookup keyI (t := 133) (e := 37) Tryz.underlying133 (zeroRat w) (rawE_mk _ _ _ _ _ _ _) (keyOf_I64 hc)
 have h2 := hD c hc
 rw [he] at h2
 rw [h2] at hv'
 have h3 := congrArg Prod.fst (rawE_inv hv').2
 have h4 := held_inj h3
 rw [← h4, hv] at hrun
 unfold Oper.wp
 simp [execOp, hop, hm, hx, hrun, Result.andThen]
 exact hK' _ _ hK
def MR (w : World) (b r n : Nat) (E : Int → Option El) (cnt : Nat) (ss : List Int) : Prop :=
 ∃ (D : DataW Value) (left : Lit → Bool), w.ranges Tryz.prog 3 rawE b r n D left cnt ∧ Spec D E ∧ CollectedI D left ss ∧ (∀ x ∈ ss, I64 x) ∧ ss.length + cnt ≤ Go.Maps.size D
theorem MR.mi (h : MR w b r n E cnt ss) : MI w b n E := by
 obtain ⟨D, left, h, hD, -⟩ := h
 exact ⟨D, h.owns, hD⟩
theorem MR.left (h : MR w b r n E cnt ss) : w.rangeLeft b r = cnt := by
 obtain ⟨D, left, h, -⟩ := h
 exact h.left_eq
theorem MR.kept {w' : World} {row : Option Nat} (h : MR w b r n E cnt ss) (hg : w.grownBy w' row) (h1 : some b ≠ row) (h2 : some r ≠ row) : MR w' b r n E cnt ss := by
 obtain ⟨D, left, h, hD, hC⟩ := h
 exact ⟨D, left, h.kept hg h1 h2, hD, hC⟩
theorem MR.num (h : MR w b r n E cnt ss) : ss.length + cnt ≤ n := by
 obtain ⟨D, left, h, hD, -, -, hl⟩ := h
 exact Nat.le_trans hl h.owns.size_le
theorem wpList_rangeM (hg : o.guard = none) (m : Operand) (hop : o.op = Op.range 133 m) (hm : a.eval m = .map (some b)) (h : MI w b n E)
  (hK : ∀ w' cnt, MR w' b w.heap.size n E cnt [] → w.grownBy w' none → w'.heap.size = w.heap.size + 1 → wpList Tryz.prog ops Q rest (a.put o.dst (.pointer (some ⟨w.heap.size, 0, none⟩))) w') : wpList Tryz.prog ops Q (o :: rest) a w := by
 obtain ⟨D, hown, hD⟩ := h
 exact wpList_range_own w hg m 133 hop 3 37 keyI Tryz.underlying133 rawE b n D hm hown fun w' h1 h2 h3 => hK w' _ ⟨D, _, h1, hD, CollectedI.start D, fun x hx => (by cases hx), by simp⟩ h2 h3
theorem wpList_nextM (hg : o.guard = none) (it : Operand) (hop : o.op = Op.next it false) (hit : a.eval it = .pointer (some ⟨r, 0, none⟩)) (h : MR w b r n E cnt ss)
  (hDone : ss.Nodup → (∀ x, x ∈ ss ↔ I64 x ∧ (E x).isSome = true) → wpList Tryz.prog ops Q rest (a.put o.dst (.tuple #[.bool false])) w)
  (hMore : ∀ (x : Int) (z : Rw) (w' : World) (cnt' : Nat), I64 x → MR w' b r n E cnt' (ss ++ [x]) → cnt' < cnt → w.grownBy w' (some r) → w'.heap.size = w.heap.size →
   (Instr.entry (.pointer (some ⟨r, 0, none⟩))).run Tryz.prog w' = .ok (.tuple #[.int .i64 x, z.val]) w' →
   wpList Tryz.prog ops Q rest (a.put o.dst (.tuple #[.bool true, .int .i64 x, z.val])) w') : wpList Tryz.prog ops Q (o :: rest) a w := by
 obtain ⟨D, left, h, hD, hC, hI, hl⟩ := h
 refine wpList_next_ranges w hg it hop 3 keyI rawE (Value.int .i64) Rw.val
  (fun key kl hkey => by obtain ⟨x, rfl, -⟩ := Go.Maps.keyOf_i64 Tryz.underlying3 hkey; exact ⟨x, rfl⟩) (fun v y hv => (rawE_inv hv).1) b r n D left cnt hit h ?_ ?_
 ·intro h0 hl0
  refine hDone hC.1 fun x => ?_
  rw [hC.2 x, hl0]
  constructor
  ·rintro ⟨h1, -⟩
   have hx : I64 x := hI x ((hC.2 x).2 ⟨h1, hl0 _⟩)
   exact ⟨hx, by rw [← Spec.has hD hx]; exact h1⟩
  ·rintro ⟨hx, h1⟩
   exact ⟨by rw [Spec.has hD hx]; exact h1, rfl⟩
 ·intro x c kl y w' cnt' hkey hlk hv hat hrg hlt hg2 hs2 hen
  obtain ⟨x', ex, rfl, hwf⟩ := Go.Maps.keyOf_i64 Tryz.underlying3 hkey
  cases ex
  have hC' := hC.step hlk hat
  have hx := wf_I64.1 hwf
  exact hMore x c w' cnt' hx ⟨D, _, hrg, hD, hC', fun z hz => (List.mem_append.1 hz).elim (hI z) fun h => by rw [List.mem_singleton.1 h]; exact hx, by rw [List.length_append]; simp; omega⟩ hlt hg2 hs2 hen
end
end Go.Proofs.YthkehmnodcmlcaaGreat
namespace Go.Proofs.YthkehmnodcmlcaaGreat
open Go.RowKit
open Go.Lib (hid)
structure CO (w : World) (b n : Nat) (E : Int → Option El) (lo hi : Nat) : Prop where
 mi : MI w b n E
 low : lo ≤ b
 el : ∀ x e, E x = some e → ROw w e.v e.u e.q.A e.q.D lo hi
 sm : ∀ x e, E x = some e → e.q.A.length ≤ 1048576 ∧ e.q.D.length ≤ 1048576
 nd : ∀ x e, E x = some e → ∀ k, e.v.ownBlock = some k → e.u.ownBlock ≠ some k
 ap : ∀ x y e e', x ≠ y → E x = some e → E y = some e' → Apt e e'
section
variable {w w' : World} {b n : Nat} {E : Int → Option El} {lo hi : Nat}
theorem CO.old (h : CO w b n E lo hi) (hb : Below w.heap.size w w') : CO w' b n E lo hi :=
 ⟨h.mi.old hb, h.low, fun x e he => (h.el x e he).old hb, h.sm, h.nd, h.ap⟩
theorem CO.wide {hi' : Nat} (h : CO w b n E lo hi) (h2 : hi ≤ hi') : CO w b n E lo hi' :=
 ⟨h.mi, h.low, fun x e he => ⟨(h.el x e he).a.wide (Nat.le_refl _) (.inr h2), (h.el x e he).d.wide (Nat.le_refl _) (.inr h2)⟩, h.sm, h.nd, h.ap⟩
theorem CO_made (w : World) {lo : Nat} (hl : lo ≤ w.heap.size) : CO (w.alloc (.map #[] 0)) w.heap.size 0 (fun _ => none) lo (w.heap.size + 1) :=
 ⟨MI_made w, hl, fun x e h => (by cases h), fun x e h => (by cases h), fun x e h => (by cases h), fun x y e e' _ h => (by cases h)⟩
theorem Ints_map {B : Nat} {v : Value} {L : List Int} (h : Ints w B v L) (hg : w.grownBy w' (some b)) (hm : MI w b n E) : Ints w' B v L := by
 obtain ⟨D, ⟨es, clock, hb, -⟩, -⟩ := hm
 refine Ints_block h fun k hk => hg.block k (Ints_lt h k hk).2 fun e => ?_
 simp only [Option.some.injEq] at e
 subst e
 rcases h.2 with ⟨rfl, -⟩ | ⟨g, cap, cur, rfl, h2, h3, -⟩
 ·simp [Value.ownBlock] at hk
 ·simp only [Value.ownBlock, Option.some.injEq] at hk
  subst hk
  rw [h3] at hb
  cases hb
theorem CO.put {w'' : World} {lo' : Nat} {x : Int} {s : Bool} {v u : Value} {A D : List Int} (h : CO w b n E lo hi) (hr : RF true w lo' v u A D) (hh : hi ≤ lo') (hl : lo ≤ lo')
  (hm : MI w' b (n + 1) (updE E x ⟨⟨s, A, D⟩, v, u⟩)) (hg : w.grownBy w' (some b)) : CO w' b (n + 1) (updE E x ⟨⟨s, A, D⟩, v, u⟩) lo w'.heap.size := by
 have hold : ∀ {y : Value} {L : List Int} {a c : Nat}, Obj w y L a c → lo ≤ a → Obj w' y L lo w'.heap.size := fun {y L a c} ho ha =>
  ⟨Ints_base (Ints_map ho.ints hg h.mi) ha, fun k hk => Nat.lt_of_lt_of_le (Ints_lt ho.ints k hk).2 hg.size⟩
 have hnew : ROw w v u A D lo' w.heap.size := ⟨⟨hr.i, fun k hk => (Ints_lt hr.i k hk).2⟩, ⟨hr.j, fun k hk => (Ints_lt hr.j k hk).2⟩⟩
 have apn : ∀ z e, E z = some e → Apt e ⟨⟨s, A, D⟩, v, u⟩ := fun z e he k h1 h2 => by
  have r := h.el z e he
  have k1 : k < hi := h1.elim (r.a.high k) (r.d.high k)
  have k2 : lo' ≤ k := h2.elim (fun e => (Ints_lt hr.i k e).1) (fun e => (Ints_lt hr.j k e).1)
  omega
 refine ⟨hm, h.low, fun z e he => ?_, fun z e he => ?_, fun z e he => ?_, fun z y e e' hne he he' => ?_⟩
 ·by_cases hz : z = x
  ·subst hz
   rw [updE_same] at he
   cases he
   exact ⟨hold hnew.a hl, hold hnew.d hl⟩
  ·rw [updE_other hz] at he
   exact ⟨hold (h.el z e he).a (Nat.le_refl _), hold (h.el z e he).d (Nat.le_refl _)⟩
 ·by_cases hz : z = x
  ·subst hz
   rw [updE_same] at he
   cases he
   exact ⟨hr.la, hr.ld⟩
  ·rw [updE_other hz] at he
   exact h.sm z e he
 ·by_cases hz : z = x
  ·subst hz
   rw [updE_same] at he
   cases he
   exact hr.nd rfl
  ·rw [updE_other hz] at he
   exact h.nd z e he
 ·by_cases hz : z = x
  ·subst hz
   rw [updE_same] at he
   cases he
   rw [updE_other (fun e => hne e.symm)] at he'
   exact (apn y e' he').symm
  ·rw [updE_other hz] at he
   by_cases hy : y = x
   ·subst hy
    rw [updE_same] at he'
    cases he'
    exact apn z e he
   ·rw [updE_other hy] at he'
    exact h.ap z y e e' hne he he'
theorem CO.at {x : Int} {e : El} (h : CO w b n E lo hi) (he : E x = some e) : ∃ a3 c3 b3 d3, e.val = .agg #[.bool e.q.s, .slice a3 e.q.A.length c3, .slice b3 e.q.D.length d3] ∧ e.v = .slice a3 e.q.A.length c3 ∧ e.u = .slice b3 e.q.D.length d3 ∧ RL w (.slice a3 e.q.A.length c3) (.slice b3 e.q.D.length d3) e.q.A e.q.D := by
 have r := h.el x e he
 obtain ⟨a3, c3, b3, d3, e1, e2⟩ := r.form
 refine ⟨a3, c3, b3, d3, by simp only [El.val, e1, e2], e1, e2, ⟨⟨lo, ?_⟩, ⟨lo, ?_⟩, (h.sm x e he).1, (h.sm x e he).2⟩⟩
 ·rw [← e1]; exact r.a.ints
 ·rw [← e2]; exact r.d.ints
end
def updG (G : Int → Option Fq) (x : Int) (f : Fq) : Int → Option Fq := fun y => if y = x then some f else G y
theorem updG_of {E : Int → Option El} {G : Int → Option Fq} (h : ∀ x, (E x).map El.q = G x) (x : Int) (e : El) : ∀ y, (updE E x e y).map El.q = updG G x e.q y := by
 intro y
 unfold updE updG
 by_cases hy : y = x
 ·rw [if_pos hy, if_pos hy]; rfl
 ·rw [if_neg hy, if_neg hy]; exact h y
end Go.Proofs.YthkehmnodcmlcaaGreat
namespace Go.Proofs.YthkehmnodcmlcaaGreat
open Go.RowKit
open Go.Lib (hid)
def Asc (L : List Int) : Prop := L.Pairwise (· < ·)
theorem asc_ext : ∀ {L M : List Int}, Asc L → Asc M → (∀ x, x ∈ L ↔ x ∈ M) → L = M
 | [], [], _, _, _ => rfl
 | [], y :: M, _, _, h => by have := (h y).2 (List.mem_cons_self ..); cases this
 | x :: L, [], _, _, h => by have := (h x).1 (List.mem_cons_self ..); cases this
 |x :: L, y :: M, h1, h2, h => by
  have k1 := List.pairwise_cons.1 h1
  have k2 := List.pairwise_cons.1 h2
  have e : x = y := by
   rcases List.mem_cons.1 ((h x).1 (List.mem_cons_self ..)) with e | m
   ·exact e
   ·rcases List.mem_cons.1 ((h y).2 (List.mem_cons_self ..)) with e | m'
    ·exact e.symm
    ·have := k2.1 x m; have := k1.1 y m'; omega
  subst e
  congr 1
  refine asc_ext k1.2 k2.2 fun z => ?_
  constructor
  ·intro hz
   rcases List.mem_cons.1 ((h z).1 (List.mem_cons_of_mem _ hz)) with e | m
   ·have := k1.1 z hz; omega
   ·exact m
  ·intro hz
   rcases List.mem_cons.1 ((h z).2 (List.mem_cons_of_mem _ hz)) with e | m
   ·have := k2.1 z hz; omega
   ·exact m
def cT (K : List Tq) : List Int := K.map Tq.c
theorem tokF_asc {n : Int} : ∀ {K : List Tq} {b : Int}, tokF n b K = true → Asc (cT K) ∧ (∀ x ∈ cT K, b < x ∧ x < n)
 | [], b, _ => ⟨List.Pairwise.nil, fun x h => (by cases h)⟩
 |t :: K, b, h => by
  simp only [tokF, Bool.and_eq_true, decide_eq_true_eq] at h
  obtain ⟨i1, i2⟩ := tokF_asc h.2
  refine ⟨List.pairwise_cons.2 ⟨fun x hx => (i2 x hx).1, i1⟩, fun x hx => ?_⟩
  rcases List.mem_cons.1 hx with rfl | hx
  ·exact ⟨h.1.1.1, h.1.1.2⟩
  ·have := i2 x hx; exact ⟨by have := h.1.1.1; omega, this.2⟩
theorem tokF_nz {n : Int} : ∀ {K : List Tq} {b : Int}, tokF n b K = true → ∀ t ∈ K, nz t.o = true
 |t :: K, b, h, u, hu => by
  simp only [tokF, Bool.and_eq_true, decide_eq_true_eq] at h
  rcases List.mem_cons.1 hu with rfl | hu
  ·exact h.1.2
  ·exact tokF_nz h.2 u hu
theorem tok_asc {K : List Tq} {n : Int} (h : tok K n = true) : Asc (cT K) ∧ (∀ x ∈ cT K, 0 ≤ x ∧ x < n) ∧ ∀ t ∈ K, nz t.o = true := by
 obtain ⟨-, -, h2⟩ := tok_parts h
 obtain ⟨i1, i2⟩ := tokF_asc h2
 exact ⟨i1, fun x hx => by have := i2 x hx; omega, tokF_nz h2⟩
def ofG (G : Int → Option Fq) (x : Int) : Option Rat := match G x with | some f => f.o | none => some ((0 : Int) : Rat)
def pickG (G : Int → Option Fq) (x : Int) : List Tq := match G x with | some f => if nz f.o = true then [⟨x, f.s, f.A, f.D⟩] else [] | none => []
def okG (G : Int → Option Fq) (x : Int) : Bool := match G x with | some f => f.o.isSome | none => false
def allG (L : List Int) (G : Int → Option Fq) : Bool := L.all (okG G)
def collG (L : List Int) (G : Int → Option Fq) : List Tq := if allG L G = true then L.flatMap (pickG G) else []
theorem allG_no {L : List Int} {G : Int → Option Fq} {x : Int} (h : x ∈ L) (hx : okG G x = false) : collG L G = [] := by
 unfold collG
 rw [if_neg]
 intro e
 have := List.all_eq_true.1 e x h
 rw [hx] at this
 cases this
theorem allG_take {L : List Int} {G : Int → Option Fq} (h : ∀ k (hk : k < L.length), okG G L[k] = true) : collG L G = L.flatMap (pickG G) := by
 unfold collG
 rw [if_pos]
 refine List.all_eq_true.2 fun x hx => ?_
 obtain ⟨k, hk, rfl⟩ := List.getElem_of_mem hx
 exact h k hk
def ColsOf (G : Int → Option Fq) (L : List Int) : Prop := Asc L ∧ ∀ x, x ∈ L ↔ I64 x ∧ (G x).isSome = true
theorem ColsOf.eq {G : Int → Option Fq} {L M : List Int} (h : ColsOf G L) (h' : ColsOf G M) : L = M := asc_ext h.1 h'.1 fun x => (h.2 x).trans (h'.2 x).symm
def findC (K : List Tq) (x : Int) : Option Tq := K.find? fun t => t.c == x
theorem findC_cons (t : Tq) (K : List Tq) (x : Int) : findC (t :: K) x = if t.c = x then some t else findC K x := by
 unfold findC
 rw [List.find?_cons]
 by_cases h : t.c = x
 ·rw [if_pos h, show (t.c == x) = true by simp [h]]
 ·rw [if_neg h, show (t.c == x) = false by simp [h]]
theorem findC_none {K : List Tq} {x : Int} : findC K x = none ↔ x ∉ cT K := by
 unfold findC cT
 rw [List.find?_eq_none, List.mem_map]
 constructor
 ·rintro h ⟨t, ht, e⟩
  exact h t ht (by simpa using e)
 ·rintro h t ht e
  exact h ⟨t, ht, by simpa using e⟩
theorem findC_isSome {K : List Tq} {x : Int} : (findC K x).isSome = true ↔ x ∈ cT K := by
 have h := @findC_none K x
 cases e : findC K x with
 | none => simp only [Option.isSome_none, Bool.false_eq_true, false_iff]; exact h.1 e
 | some t => simp only [Option.isSome_some, true_iff]; exact Decidable.byContradiction fun hn => by have := h.2 hn; rw [e] at this; cases this
def layG (f : Option Rat → Option Rat → Fq) : List Tq → (Int → Option Fq) → Int → Option Fq
 | [], G => G
 | t :: K, G => layG f K (updG G t.c (f (ofG G t.c) t.o))
theorem layG_append (f : Option Rat → Option Rat → Fq) : ∀ (K M : List Tq) (G : Int → Option Fq), layG f (K ++ M) G = layG f M (layG f K G)
 | [], M, G => rfl
 | t :: K, M, G => layG_append f K M _
theorem layG_at (f : Option Rat → Option Rat → Fq) : ∀ {K : List Tq} (h : Asc (cT K)) (G : Int → Option Fq) (x : Int), layG f K G x = match findC K x with | some t => some (f (ofG G x) t.o) | none => G x
 | [], _, G, x => rfl
 |t :: K, h, G, x => by
  have hp := List.pairwise_cons.1 (show ((t.c) :: cT K).Pairwise (· < ·) from h)
  rw [layG, layG_at f hp.2, findC_cons]
  by_cases e : t.c = x
  ·subst e
   rw [if_pos rfl]
   have hn : findC K t.c = none := findC_none.2 fun hm => by have := hp.1 _ hm; omega
   rw [hn]
   simp [updG]
  ·rw [if_neg e]
   have hx : ¬ x = t.c := fun h => e h.symm
   cases hf : findC K x with
   | none => simp [updG, hx]
   | some u => simp [ofG, updG, hx]
theorem find_at {K : List Tq} (h : Asc (cT K)) {t : Tq} (ht : t ∈ K) : findC K t.c = some t := by
 induction K with
 | nil => cases ht
 |cons u K ih =>
  have p := List.pairwise_cons.1 (show ((u.c) :: cT K).Pairwise (· < ·) from h)
  rw [findC_cons]
  rcases List.mem_cons.1 ht with rfl | ht
  ·rw [if_pos rfl]
  ·have := p.1 _ (List.mem_map_of_mem (f := Tq.c) ht)
   rw [if_neg (by omega)]
   exact ih p.2 ht
end Go.Proofs.YthkehmnodcmlcaaGreat
namespace Go.Proofs.YthkehmnodcmlcaaGreat
open Go.RowKit
open Go.Lib (hid)
theorem Ints_ne_map {w : World} {B b n : Nat} {E : Int → Option El} {v : Value} {L : List Int} (h : Ints w B v L) (hm : MI w b n E) : some b ≠ v.ownBlock := by
 obtain ⟨D, ⟨es, clock, hb, -⟩, -⟩ := hm
 intro hk
 rcases h.2 with ⟨rfl, -⟩ | ⟨g, cap, cur, rfl, h2, h3, -⟩
 ·simp [Value.ownBlock] at hk
 ·simp only [Value.ownBlock, Option.some.injEq] at hk
  subst hk
  rw [h3] at hb
  cases hb
theorem Ints_ne_iter {w : World} {B b r n cnt : Nat} {E : Int → Option El} {ss : List Int} {v : Value} {L : List Int} (h : Ints w B v L) (hm : MR w b r n E cnt ss) : some r ≠ v.ownBlock := by
 obtain ⟨D, left, ⟨es, clock, since, seen, c0, -, -, -, -, hr, -⟩, -⟩ := hm
 intro hk
 rcases h.2 with ⟨rfl, -⟩ | ⟨g, cap, cur, rfl, h2, h3, -⟩
 ·simp [Value.ownBlock] at hk
 ·simp only [Value.ownBlock, Option.some.injEq] at hk
  subst hk
  rw [h3] at hr
  cases hr
theorem Ints_grown {w w' : World} {B : Nat} {row : Option Nat} {v : Value} {L : List Int} (h : Ints w B v L) (hg : w.grownBy w' row) (hne : ∀ k, v.ownBlock = some k → some k ≠ row) : Ints w' B v L :=
 Ints_block h fun k hk => hg.block k (Ints_lt h k hk).2 (hne k hk)
theorem asc_of_sort (L : List Int) (h : L.Nodup) : Asc (L.mergeSort fun x y => decide (x ≤ y)) ∧ (∀ x, x ∈ (L.mergeSort fun x y => decide (x ≤ y)) ↔ x ∈ L) := by
 have tr : ∀ a b c : Int, decide (a ≤ b) = true → decide (b ≤ c) = true → decide (a ≤ c) = true := fun a b c h1 h2 => decide_eq_true (Int.le_trans (of_decide_eq_true h1) (of_decide_eq_true h2))
 have tot : ∀ a b : Int, (decide (a ≤ b) || decide (b ≤ a)) = true := fun a b => by rw [Bool.or_eq_true]; exact (Int.le_total a b).imp decide_eq_true decide_eq_true
 have hp := List.mergeSort_perm L (fun x y => decide (x ≤ y))
 have hs := List.pairwise_mergeSort tr tot L
 have hn : (L.mergeSort fun x y => decide (x ≤ y)).Nodup := hp.nodup_iff.2 h
 refine ⟨?_, fun x => hp.mem_iff⟩
 exact (hs.and hn).imp fun {a b} ⟨h1, h2⟩ => by have := of_decide_eq_true h1; omega
def ColsR (E : Int → Option El) (n : Nat) (w : World) (e : Ending) (w' : World) : Prop := ∃ v L, e = .returned v ∧ Ints w' w.heap.size v L ∧ Asc L ∧ (∀ x, x ∈ L ↔ I64 x ∧ (E x).isSome = true) ∧ L.length ≤ n ∧ Below w.heap.size w w'
theorem impl_cols (b n : Nat) (E : Int → Option El) (hn : n ≤ 1048576) (w : World) (h : MI w b n E) : Calls Tryz.prog 174 #[.map (some b)] w (ColsR E n w) := by
 have HM := hid h
 have hblt := h.lt
 go_enter Tryz.func174, Tryz.ntmps174
 go_wp2_with (at_range; refine wpList_rangeM rfl _ rfl rfl HM.out ?_; intro w0 cnt0 hrg0 hg0 hs0)
 have HR0 := hid hrg0
 have HB0 := hid (show Below w.heap.size w w0 from (Below.refl _ w).grown hg0 (Nat.le_refl _) (fun k hk => by cases hk))
 have HS0 := hid hs0
 clear hrg0 hg0 hs0 h
 obtain ⟨r, hr⟩ : ∃ r, r = w.heap.size := ⟨_, rfl⟩
 rw [← hr] at HR0 HB0 HS0 ⊢
 have HRW := hid hr
 rw [← hr] at hblt
 clear hr
 go_frame
 go_loopw [3] (fun v wr => ∃ (L : List Int) (cnt : Nat) (x : Option Addr) (y : Nat), v = .slice x L.length y ∧ Hid (MR wr b r n E cnt L) ∧ Hid (Ints wr r (.slice x L.length y) L) ∧ Hid (Below r w wr)) (fun _ wr => wr.rangeLeft b r)
 case atStart => exact ⟨[], cnt0, none, 0, rfl, HR0, hid (Ints_nilT _ _), HB0⟩
 case round =>
  obtain ⟨L, cnt, x0, y0, rfl, HR, HI, HB⟩ := hrel
  have hnum := HR.out.num
  have hLn : L.length ≤ 1048576 := by omega
  go_wp2_with (first | (at_next; refine wpList_nextM rfl _ rfl rfl HR.out ?_ ?_))
  ·intro hnd hmem
   have HND := hid hnd
   have HMM := hid hmem
   clear hnd hmem
   obtain ⟨as1, as2⟩ := asc_of_sort L HND.out
   have HAS := hid as1
   have HAM := hid as2
   clear as1 as2
   by_cases hL0 : L = []
   ·subst hL0
    go_wp2_with fail
    (with_reducible refine (Tryz.slices_Sort_int_none x0 y0 wr).mono ?_)
    rintro e w2 ⟨rfl, rfl⟩
    go_wp2
    go_ret
    exact ⟨_, [], rfl, HRW.out ▸ HI.out, List.Pairwise.nil, fun x => HMM.out x, Nat.zero_le _, HRW.out ▸ HB.out⟩
   ·have hpos : 0 < L.length := List.length_pos_iff.2 hL0
    rcases HI.out.2 with ⟨h1, h2⟩ | ⟨g, cap, cur, h1, h2, h3, h4, h5, h6, h7⟩
    ·exfalso; simp only [Value.slice.injEq] at h1; omega
    simp only [Value.slice.injEq] at h1
    obtain ⟨rfl, -, rfl⟩ := h1
    have hsz : L.length < 4611686018427387904 := by omega
    have hg : g < wr.heap.size := (Array.getElem?_eq_some_iff.1 h3).1
    rw [Nat.mul_one] at h7
    have hH := Go.Proofs.holds_of_block_i h3 h7
    have HH := hid hH
    have HX := hid (fun (m : Nat) (os : Array Go.Obj) => Go.Proofs.ownsRow_sorted_i (n := m) (os := os) (ts := L.mergeSort fun x y => decide (x ≤ y)) (by simp) h2 h3 h4 h5 h6)
    have HG := hid (fun (m : Nat) (os : Array Go.Obj) => Go.Proofs.grownBy_sorted_i (w := wr) (g := g) (n := m) (os := os) (L.mergeSort fun x y => decide (x ≤ y)).toArray)
    have HG2 := hid h2
    clear h2 h3 h4 h5 h6 h7 hH
    go_wp2_with fail
    (with_reducible refine (Tryz.slices_Sort_int g 0 y0 L wr HH.out hg hsz).mono ?_)
    rintro e w2 ⟨rfl, m, os, hw2⟩
    have HI2 := hid (HX.out m os)
    have HB2 := hid (HB.out.grown (HG.out m os) (by have := HB.out.size; have := HRW.out; omega) fun k hk => by cases hk; exact HG2.out)
    have HW2 := hid hw2
    clear hw2
    go_wp2
    go_ret
    refine ⟨_, L.mergeSort fun x y => decide (x ≤ y), rfl, ?_, HAS.out, fun x => (HAM.out x).trans (HMM.out x), by rw [List.length_mergeSort]; omega, ?_⟩
    ·rw [HW2.out, ← HRW.out]
     have := HI2.out
     unfold Ints
     rw [List.length_mergeSort]
     exact this
    ·rw [HW2.out, ← HRW.out]; exact HB2.out
  ·intro x z wn cnt' hx hmr hlt hgn hsn hen
   have HR1 := hid hmr
   have hz1 : r ≤ wr.heap.size := by have := HB.out.size; have := HRW.out; omega
   have HI1 := hid (Ints_grown HI.out hgn fun k hk e => Ints_ne_iter HI.out HR.out (by rw [hk]; exact e.symm))
   have HB1 := hid (HB.out.grown hgn hz1 fun k hk => by cases hk; exact Nat.le_refl _)
   have HCL := hid (show wn.rangeLeft b r < wr.rangeLeft b r by rw [hmr.left, HR.out.left]; exact hlt)
   have hzn : r ≤ wn.heap.size := by have := HB1.out.size; have := HRW.out; omega
   have HX := hid hx
   clear hmr hgn hsn hlt hx
   have HI2 := hid (Ints_old HI1.out (below_new' (o := .cells #[.int .i64 x] 3)))
   have HR2 := hid (HR1.out.kept (World.grownBy_alloc wn (.cells #[.int .i64 x] 3) none) (by simp) (by simp))
   have HB2 := hid (HB1.out.alloc hzn (.cells #[.int .i64 x] 3))
   have PB := hid (heap_alloc_new wn (.cells #[.int .i64 x] 3))
   go_wp2_with (at_builtin; refine wpList_pushI rfl _ _ rfl rfl HI2.out rfl PB.out hLn (by simp; omega) ?_)
   intro gp cp wp hvp hbp hgr
   have HR3 := hid (HR2.out.kept hgr (Ints_ne_map HI2.out HR2.out.mi) (Ints_ne_iter HI2.out HR2.out))
   have HB3 := hid (HB2.out.trans hbp)
   have HI3 := hid hvp
   have HML := hid (show wp.rangeLeft b r < wr.rangeLeft b r by
    have h1 := HCL.out
    have h2 := HR1.out.left
    have h3 := HR3.out.left
    omega)
   clear hvp hbp hgr hen
   go_wp2
   go_roundw
   case rel => exact ⟨L ++ [x], cnt', some ⟨gp, 0, none⟩, cp, by simp, HR3, by rw [List.length_append]; exact HI3, HB3⟩
   case measure => exact HML.out
end Go.Proofs.YthkehmnodcmlcaaGreat
namespace Go.Proofs.YthkehmnodcmlcaaGreat
open Go.RowKit
open Go.Lib (hid)
section
variable {ops : Array Oper} {o : Oper} {a : Act} {W : World} {v x y : Value} {Es : List Et} {lo B : Nat} {x0 : Int} {sg : Bool}
theorem wpList_pushRow {rest : List Oper} {Q : Exit → Act → World → Prop} (hgd : o.guard = none) (s1 x1 : Operand)
  (ho : o.op = .call { callee := .builtin .append, args := #[s1, x1], argTypes := #[34, 34] }) (hs : a.eval s1 = v) (hv : W.ownsRow lo 123 4 v Es.length (flatT Es))
  (hx : a.eval x1 = .slice (some ⟨B, 0, none⟩) 1 1) (q : Tq) (hB : W.heap[B]? = some (.cells #[.int .i64 q.c, .bool q.s, x, y] 123 (0, 0))) (h1 : x.oneCell' = true) (h2 : y.oneCell' = true) (hlen : Es.length ≤ 1048576) (hlw : lo ≤ W.heap.size)
  (h : ∀ (g cap : Nat) (w' : World), w'.ownsRow lo 123 4 (.slice (some ⟨g, 0, none⟩) (Es.length + 1) cap) (Es ++ [(⟨q, x, y⟩ : Et)]).length (flatT (Es ++ [(⟨q, x, y⟩ : Et)])) → Below lo W w' → wpList Tryz.prog ops Q rest (a.put o.dst (.slice (some ⟨g, 0, none⟩) (Es.length + 1) cap)) w') :
  wpList Tryz.prog ops Q (o :: rest) a W := by
 obtain ⟨i0, hi0, hz0, hz1, hz2⟩ := info_parts infoTerm
 refine wpList_append_lies W hgd s1 x1 34 ho lo 123 i0 _ 4 64 Tryz.underlying34 hi0 hz0 hz1 hz2 rfl (by decide) v Es.length (flatT Es) hs hv ⟨B, 0, none⟩ 1 1 [.int .i64 q.c, .bool q.s, x, y] hx rfl (World.news_of_block hB) ?_ (by decide) (by unfold maxLen; omega) (by omega) hlw W.heap.size rfl ?_
 ·intro u hu
  simp only [List.mem_cons, List.not_mem_nil, or_false] at hu
  rcases hu with rfl | rfl | rfl | rfl
  ·rfl
  ·rfl
  ·exact h1
  ·exact h2
 ·intro g cap w' hrow hgr _ hlt
  refine h g cap w' ?_ ((Below.refl lo W).grown hgr hlw fun k hk => (World.ownsRow.lt hv k hk).1)
  rw [List.length_append, flatT_append, flatT_one]
  exact hrow
end
def elsE (E : Int → Option El) (L : List Int) : List Et := L.flatMap fun x => match E x with | some e => if nz e.q.o = true then [⟨⟨x, e.q.s, e.q.A, e.q.D⟩, e.v, e.u⟩] else [] | none => []
theorem elsE_take {E : Int → Option El} {L : List Int} {k : Nat} (h : k < L.length) {e : El} (he : E L[k] = some e) : elsE E (L.take (k + 1)) = elsE E (L.take k) ++ (if nz e.q.o = true then [⟨⟨L[k], e.q.s, e.q.A, e.q.D⟩, e.v, e.u⟩] else []) := by
 unfold elsE
 rw [List.take_succ_eq_append_getElem h, List.flatMap_append]
 simp [he]
theorem elsE_keys {E : Int → Option El} {G : Int → Option Fq} (hG : ∀ x, (E x).map El.q = G x) : ∀ L : List Int, keysT (elsE E L) = L.flatMap (pickG G)
 | [] => rfl
 |x :: L => by
  have ih := elsE_keys hG L
  unfold elsE keysT at ih ⊢
  rw [List.flatMap_cons, List.map_append, ih, List.flatMap_cons]
  congr 1
  unfold pickG
  rw [← hG x]
  cases e : E x with
  | none => rfl
  |some el =>
   show List.map Et.q (if nz el.q.o = true then _ else _) = (if nz el.q.o = true then _ else _)
   split <;> rfl
theorem elsE_mem {E : Int → Option El} {L : List Int} {t : Et} (h : t ∈ elsE E L) : ∃ x ∈ L, ∃ e, E x = some e ∧ t = ⟨⟨x, e.q.s, e.q.A, e.q.D⟩, e.v, e.u⟩ := by
 unfold elsE at h
 obtain ⟨x, hx, hm⟩ := List.mem_flatMap.1 h
 refine ⟨x, hx, ?_⟩
 cases e : E x with
 | none => rw [e] at hm; cases hm
 |some el =>
  rw [e] at hm
  simp only at hm
  split at hm
  ·exact ⟨el, rfl, List.mem_singleton.1 hm⟩
  ·cases hm
theorem elsE_len {E : Int → Option El} : ∀ L : List Int, (elsE E L).length ≤ L.length
 | [] => Nat.le_refl _
 |x :: L => by
  have ih := elsE_len (E := E) L
  unfold elsE at ih ⊢
  rw [List.flatMap_cons, List.length_append]
  simp only [List.length_cons]
  split
  ·split
   ·simp only [List.length_cons, List.length_nil]; omega
   ·simp only [List.length_nil]; omega
  ·simp only [List.length_nil]; omega
theorem TO_of {w : World} {B b n : Nat} {E : Int → Option El} {L : List Int} {lo hi : Nat} {v : Value} (hr : w.ownsRow B 123 4 v (elsE E L).length (flatT (elsE E L))) (hc : CO w b n E lo hi) (ha : Asc L) (hl : lo ≤ B) (hh : hi ≤ w.heap.size) :
  TO true w v (elsE E L) lo w.heap.size := by
 refine ⟨own_base hr hl, fun k hk => (hr.lt k hk).2, fun t ht => ?_, fun _ t ht => ?_, fun _ => ?_⟩
 ·obtain ⟨x, -, e, he, rfl⟩ := elsE_mem ht
  have r := hc.el x e he
  exact ⟨r.a.wide (Nat.le_refl _) (.inr hh), r.d.wide (Nat.le_refl _) (.inr hh)⟩
 ·obtain ⟨x, -, e, he, rfl⟩ := elsE_mem ht
  exact hc.nd x e he
 ·unfold elsE
  rw [List.pairwise_flatMap]
  refine ⟨fun x hx => ?_, ha.imp fun {x y} hxy t ht u hu => ?_⟩
  ·split
   ·split
    ·exact List.pairwise_singleton _ _
    ·exact List.Pairwise.nil
   ·exact List.Pairwise.nil
  ·have m1 : t ∈ elsE E [x] := by unfold elsE; simpa using ht
   have m2 : u ∈ elsE E [y] := by unfold elsE; simpa using hu
   obtain ⟨x', hx', e, he, rfl⟩ := elsE_mem m1
   obtain ⟨y', hy', e', he', rfl⟩ := elsE_mem m2
   rw [List.mem_singleton.1 hx'] at he
   rw [List.mem_singleton.1 hy'] at he'
   exact hc.ap x y e e' (by omega) he he'
def TermsR (G : Int → Option Fq) (lo : Nat) (w : World) (e : Ending) (w' : World) : Prop := ∃ L, ColsOf G L ∧ ∃ a m c, e = .returned (.slice a m c) ∧ TK true w' (.slice a m c) (collG L G) lo w'.heap.size ∧ Below w.heap.size w w'
theorem impl_terms {b n : Nat} {E : Int → Option El} {G : Int → Option Fq} {lo hi : Nat} (hn : n ≤ 1048576) (w : World) (h : CO w b n E lo hi) (hG : ∀ x, (E x).map El.q = G x) (hh : hi ≤ w.heap.size) (hl : lo ≤ w.heap.size) : Calls Tryz.prog 134 #[.map (some b)] w (TermsR G lo w) := by
 have HC := hid h
 have HG := hid hG
 have KC := hid (impl_cols b n E hn w h.mi)
 have HT := hid (fun (L : List Int) (ha : Asc L) (wr w1 : World) (hw : w.heap.size ≤ w1.heap.size) (v : Value) (hb : Below w.heap.size w wr) (hr : wr.ownsRow w1.heap.size 123 4 v (elsE E L).length (flatT (elsE E L))) => TO_of hr (h.old hb) ha (Nat.le_trans hl hw) (Nat.le_trans hh hb.size))
 clear h hG hh hl
 go_enter Tryz.func134, Tryz.ntmps134
 go_wp2_with fail
 (with_reducible refine (KC.out).mono ?_)
 rintro e w1 ⟨v, L, rfl, hi1, has, hmem, hlen, hb⟩
 have HCL := hid (show ColsOf G L from ⟨has, fun x => (hmem x).trans (by rw [← HG.out x]; cases E x <;> simp)⟩)
 have HMM := hid (fun x (hx : x ∈ L) => (hmem x).1 hx)
 have HI := hid hi1
 have HB := hid hb
 have hL : L.length ≤ 1048576 := by omega
 obtain ⟨a1, c1, rfl, -⟩ := Ints_form hi1
 clear has hmem hlen hb hi1
 go_wp2
 go_loopw [3, 10] (fun v i wr => ∃ (k : Nat) (x : Option Addr) (m y : Nat), k ≤ L.length ∧ i = .int .i64 k ∧ v = .slice x m y ∧ Hid (m = (elsE E (L.take k)).length ∧ wr.ownsRow w1.heap.size 123 4 (.slice x m y) (elsE E (L.take k)).length (flatT (elsE E (L.take k)))) ∧ Hid (∀ j (h : j < L.length), j < k → okG G L[j] = true) ∧ Hid (Below w.heap.size w wr) ∧ Hid (Below w1.heap.size w1 wr)) (fun _ i _ => L.length - (intOf i).toNat)
 case atStart => exact ⟨0, none, 0, 0, Nat.zero_le _, rfl, rfl, hid ⟨rfl, World.ownsRow_nil _ _ _ _⟩, hid (fun j h hj => absurd hj (by omega)), HB, hid (Below.refl _ _)⟩
 case round =>
  obtain ⟨k, x0, m0, y0, hk, rfl, rfl, hR, hA, hB, hB1⟩ := hrel
  by_cases hlt : k < L.length
  ·obtain ⟨hx64, hxs⟩ := HMM.out L[k] (List.getElem_mem hlt)
   obtain ⟨e, he⟩ := Option.isSome_iff_exists.1 hxs
   have HE := hid he
   have C := hid (HC.out.old hB.out)
   obtain ⟨a3, c3, b3, d3, hval, -, -, hrl⟩ := C.out.at he
   have hev := C.out.at he
   have HIr := hid (Ints_old HI.out hB1.out)
   obtain ⟨ga, hga, hgl⟩ : ∃ ga, a1 = some ⟨ga, 0, none⟩ ∧ ga < wr.heap.size := by
    rcases HIr.out.2 with ⟨h1, h2⟩ | ⟨g, cap, cur, h1, h2, h3, -⟩
    ·simp only [Value.slice.injEq] at h1; omega
    ·simp only [Value.slice.injEq] at h1
     exact ⟨g, h1.1, (Array.getElem?_eq_some_iff.1 h3).1⟩
   subst hga
   have qx := (show wr.ownsRow w.heap.size 3 1 _ _ _ from HIr.out).cellAt k (by omega)
   rw [List.getElem?_map, List.getElem?_eq_getElem hlt, Option.map_some] at qx
   have hgk := HG.out L[k]
   rw [he] at hgk
   obtain ⟨x, hxe⟩ : ∃ x, L[k]'hlt = x := ⟨_, rfl⟩
   have HXE := hid hxe
   simp only [hxe] at qx hx64 he hgk
   clear hxe hxs
   obtain ⟨⟨s, A, D⟩, ev, eu⟩ := e
   obtain ⟨a3', c3', b3', d3', -, e1, e2, -⟩ := hev
   simp only at hval hrl hgk e1 e2
   subst e1
   subst e2
   have hsame := hval
   unfold El.val at hsame
   simp only [Value.agg.injEq] at hsame
   obtain ⟨rfl, rfl, rfl, rfl⟩ : a3' = a3 ∧ c3' = c3 ∧ b3' = b3 ∧ d3' = d3 := by
    have := congrArg Array.toList hsame
    simp at this
    exact ⟨this.1.1, this.1.2, this.2.1, this.2.2⟩
   clear hsame
   obtain ⟨o, ho⟩ : ∃ o, Fq.o ⟨s, A, D⟩ = o := ⟨_, rfl⟩
   have HOK := hid (show okG G x = o.isSome by unfold okG; rw [← hgk]; exact congrArg Option.isSome ho)
   have RX := hid (show RA wr s (.slice a3' A.length c3') (.slice b3' D.length d3') o from ⟨A, D, hrl, ho⟩)
   have HO := hid ho
   have KO := hid (fun (W : World) (hb : Below wr.heap.size wr W) => ok_o (w := W) (RX.out.old hb))
   have KS := hid (fun (W : World) (hb : Below wr.heap.size wr W) => sign_o (w := W) (RX.out.old hb))
   have hmi := hid C.out.mi
   have HVAL := hid hval
   have HEX := hid he
   have HX64 := hid hx64
   have hz := hB.out.size
   have HB2 := hid (hB.out.alloc hz (.cells #[.bool s, .slice a3' A.length c3', .slice b3' D.length d3'] 37))
   have HB3 := hid (hB1.out.alloc hB1.out.size (.cells #[.bool s, .slice a3' A.length c3', .slice b3' D.length d3'] 37))
   have LB := hid (LocA.new (w := wr) (T := 37) (cs := #[.bool s, .slice a3' A.length c3', .slice b3' D.length d3']))
   have a1' : (0 : Int) ≤ k := by omega
   have a2 : (k : Int) < L.length := by omega
   clear hrl ho hval he hgk hx64
   cases o with
   |none =>
    have HN := hid (allG_no (G := G) (List.getElem_mem hlt) (by rw [HXE.out, HOK.out]; rfl))
    go_wp2_with (first | (at_lookup; refine wpList_look rfl _ _ rfl rfl hmi.out x HX64.out rfl _ HEX.out _ HVAL.out ?_))
    go_wp2_with fail
    (with_reducible refine (KO.out _ below_new').mono ?_)
    rintro e w2 ⟨rfl, hb⟩
    have HB2 := hid (HB2.out.trans (hb.mono HB2.out.size))
    clear hb qx
    go_wp2
    go_ret
    exact ⟨L, HCL.out, none, 0, 0, rfl, by rw [HN.out]; exact TK_nil _ _ _ _, HB2.out⟩
   |some r =>
    obtain ⟨q, hq⟩ : ∃ q, sgnO (some r) = q := ⟨_, rfl⟩
    rw [hq] at KS
    have HQ := hid hq
    clear hq
    have HTK := hid (elsE_take hlt (show E L[k] = some _ from HXE.out ▸ HEX.out))
    by_cases hq0 : q = 0
    ·subst hq0
     have hnz := hid (show nz (Fq.o ⟨s, A, D⟩) = false by rw [HO.out]; exact decide_eq_false (fun h => h HQ.out))
     go_wp2_with (first | (at_lookup; refine wpList_look rfl _ _ rfl rfl hmi.out x HX64.out rfl _ HEX.out _ HVAL.out ?_))
     go_wp2_with fail
     (with_reducible refine (KO.out _ below_new').mono ?_)
     rintro e w2 ⟨rfl, hb⟩
     have HB2 := hid (HB2.out.trans (hb.mono HB2.out.size))
     have HB3 := hid (HB3.out.trans (hb.mono HB3.out.size))
     have LB := hid (LB.out.old hb)
     have hBX := hid (below_new'.trans (hb.mono (by simp)))
     have p0 := LB.out.c 0 rfl
     have p1 := LB.out.c 1 rfl
     have p2 := LB.out.c 2 rfl
     clear hb qx
     go_wp2_with fail
     (with_reducible refine (KS.out _ hBX.out).mono ?_)
     rintro e w3 ⟨rfl, hb⟩
     have HB2 := hid (HB2.out.trans (hb.mono HB2.out.size))
     have HB3 := hid (HB3.out.trans (hb.mono HB3.out.size))
     have HRW := hid (own_block hR.out.2 fun j hj => (hBX.out.trans (hb.mono hBX.out.size)).block j (hR.out.2.lt j hj).2)
     clear hb p0 p1 p2
     go_wp2
     go_roundw
     case rel => exact ⟨k + 1, x0, m0, y0, by omega, by go_num, rfl, hid (by rw [HTK.out, hnz.out]; simp only [Bool.false_eq_true, if_false, List.append_nil]; exact ⟨hR.out.1, HRW.out⟩), hid (fun j h hj => by
      rcases Nat.lt_or_eq_of_le (Nat.le_of_lt_succ hj) with hj' | rfl
      ·exact hA.out j h hj'
      ·rw [HXE.out, HOK.out]; rfl), HB2, HB3⟩
     case measure => simp [intOf]; omega
    ·have hqn : (q != 0) = true := by simp [hq0]
     have hnz := hid (show nz (Fq.o ⟨s, A, D⟩) = true by rw [HO.out]; exact decide_eq_true (by rw [HQ.out]; exact hq0))
     go_wp2_with (first | (at_lookup; refine wpList_look rfl _ _ rfl rfl hmi.out x HX64.out rfl _ HEX.out _ HVAL.out ?_))
     go_wp2_with fail
     (with_reducible refine (KO.out _ below_new').mono ?_)
     rintro e w2 ⟨rfl, hb⟩
     have HB2 := hid (HB2.out.trans (hb.mono HB2.out.size))
     have HB3 := hid (HB3.out.trans (hb.mono HB3.out.size))
     have LB := hid (LB.out.old hb)
     have hBX := hid (below_new'.trans (hb.mono (by simp)))
     have p0 := LB.out.c 0 rfl
     have p1 := LB.out.c 1 rfl
     have p2 := LB.out.c 2 rfl
     clear hb qx
     go_wp2_with fail
     (with_reducible refine (KS.out _ hBX.out).mono ?_)
     rintro e w3 ⟨rfl, hb⟩
     have HB2 := hid ((HB2.out.trans (hb.mono HB2.out.size)).alloc (Nat.le_trans HB2.out.size hb.size) (.cells #[.int .i64 x, .bool s, .slice a3' A.length c3', .slice b3' D.length d3'] 123))
     have HB3 := hid ((HB3.out.trans (hb.mono HB3.out.size)).alloc (Nat.le_trans HB3.out.size hb.size) (.cells #[.int .i64 x, .bool s, .slice a3' A.length c3', .slice b3' D.length d3'] 123))
     have LB := hid (LB.out.old hb)
     have hBY := hid ((hBX.out.trans (hb.mono hBX.out.size)).trans (below_new' (o := .cells #[.int .i64 x, .bool s, .slice a3' A.length c3', .slice b3' D.length d3'] 123) |>.mono (Nat.le_trans hBX.out.size hb.size)))
     have HRW := hid (own_block hR.out.2 fun j hj => hBY.out.block j (hR.out.2.lt j hj).2)
     have p0 := LB.out.c 0 rfl
     have p1 := LB.out.c 1 rfl
     have p2 := LB.out.c 2 rfl
     have PB := hid (heap_alloc_new w3 (.cells #[.int .i64 x, .bool s, .slice a3' A.length c3', .slice b3' D.length d3'] 123))
     have hlE := hid (show (elsE E (L.take k)).length ≤ 1048576 by have := elsE_len (E := E) (L.take k); rw [List.length_take] at this; omega)
     have hM := hid hR.out.1
     clear hb
     go_wp2_with (at_builtin; refine wpList_pushRow rfl _ _ rfl rfl HRW.out rfl ⟨x, s, A, D⟩ PB.out rfl rfl hlE.out HB3.out.size ?_)
     intro gp cp wp hvp hbp
     have HRP := hid hvp
     have HB2 := hid (HB2.out.trans (hbp.mono HB.out.size))
     have HB3 := hid (HB3.out.trans hbp)
     clear hvp hbp p0 p1 p2
     go_wp2
     go_roundw
     case rel => exact ⟨k + 1, some ⟨gp, 0, none⟩, _, cp, by omega, by go_num, rfl, hid (by
      rw [HTK.out, hnz.out]
      simp only [if_true, HXE.out]
      exact ⟨by rw [List.length_append]; rfl, by rw [List.length_append]; exact HRP.out⟩), hid (fun j h hj => by
      rcases Nat.lt_or_eq_of_le (Nat.le_of_lt_succ hj) with hj' | rfl
      ·exact hA.out j h hj'
      ·rw [HXE.out, HOK.out]; rfl), HB2, HB3⟩
     case measure => simp [intOf]; omega
  ·obtain rfl : k = L.length := by omega
   go_wp2
   go_ret
   have h1 := hR.out.2
   rw [List.take_length] at h1
   have h2 := HT.out L HCL.out.1 wr w1 HB.out.size _ hB.out h1
   exact ⟨L, HCL.out, _, _, _, rfl, ⟨_, h2, by rw [elsE_keys HG.out]; exact (allG_take fun j hj => hA.out j hj hj).symm⟩, hB.out⟩
end Go.Proofs.YthkehmnodcmlcaaGreat
