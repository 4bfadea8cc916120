/- Merged: Tb Tm Tc Th Ti Tj Te. -/
import Derived.Test.YtamhmpjadnfpdaaGreatVbe
import Derived.Test.YtamhmpjadnfpdaaGreatRhi
import Derived.Deep.RegionHeld3
import Derived.Deep.AppendLies
/- Slices of terms' structs: what they hold and how they lie. -/
namespace Go.Proofs.YtamhmpjadnfpdaaGreat
open Go.RowKit
open Go.Lib (hid)
set_option linter.unusedVariables false

/-- What a struct of a term holds. -/
structure Tq where
  c : Int
  s : Bool
  A : List Int
  D : List Int
/-- A struct in a slice: what it holds, and its two slices. -/
structure Et where
  q : Tq
  v : Value
  u : Value
def Et.cs (e : Et) : List Value := [.int .i64 e.q.c, .bool e.q.s, e.v, e.u]
def flatT (E : List Et) : List Value := E.flatMap Et.cs
theorem flatT_cons (e : Et) (E : List Et) : flatT (e :: E) = .int .i64 e.q.c :: .bool e.q.s :: e.v :: e.u :: flatT E := rfl
theorem flatT_append (E F : List Et) : flatT (E ++ F) = flatT E ++ flatT F := by simp [flatT]
theorem flatT_one (e : Et) : flatT [e] = [.int .i64 e.q.c, .bool e.q.s, e.v, e.u] := rfl
theorem flatT_len : ∀ E : List Et, (flatT E).length = E.length * 4
  | [] => rfl
  | e :: E => by
    have := flatT_len E
    rw [flatT_cons]
    simp only [List.length_cons]
    omega
theorem flatT_at : ∀ (E : List Et) (i : Nat) (h : i < E.length), (flatT E)[i * 4]? = some (.int .i64 E[i].q.c) ∧ (flatT E)[i * 4 + 1]? = some (.bool E[i].q.s) ∧ (flatT E)[i * 4 + 2]? = some E[i].v ∧ (flatT E)[i * 4 + 3]? = some E[i].u
  | e :: E, 0, _ => ⟨rfl, rfl, rfl, rfl⟩
  | e :: E, i + 1, h => by
    have := flatT_at E i (by simpa using h)
    rw [flatT_cons, show (i + 1) * 4 = i * 4 + 1 + 1 + 1 + 1 by omega]
    simpa using this
theorem flatT_set : ∀ (E : List Et) (i : Nat) (h : i < E.length) (e : Et), flatT (E.set i e) = ((((flatT E).set (i * 4) (.int .i64 e.q.c)).set (i * 4 + 1) (.bool e.q.s)).set (i * 4 + 2) e.v).set (i * 4 + 3) e.u
  | _ :: E, 0, _, e => rfl
  | x :: E, i + 1, h, e => by
    have := flatT_set E i (by simpa using h) e
    rw [List.set_cons_succ, flatT_cons, flatT_cons, show (i + 1) * 4 = i * 4 + 1 + 1 + 1 + 1 by omega, this]
    simp
theorem set_sameL {α : Type} {l : List α} {i : Nat} {x : α} (h : l[i]? = some x) : l.set i x = l := by
  apply List.ext_getElem?
  intro j
  rw [List.getElem?_set]
  by_cases e : i = j
  · subst e
    rw [if_pos rfl, h, if_pos (List.getElem?_eq_some_iff.1 h).1]
  · rw [if_neg e]
theorem flatT_sets (E : List Et) (i : Nat) (h : i < E.length) (c : Int) (b : Bool) : flatT (E.set i ⟨⟨c, b, E[i].q.A, E[i].q.D⟩, E[i].v, E[i].u⟩) = ((flatT E).set (i * 4) (.int .i64 c)).set (i * 4 + 1) (.bool b) := by
  obtain ⟨-, -, h1, h2⟩ := flatT_at E i h
  rw [flatT_set E i h]
  have e1 : (((flatT E).set (i * 4) (.int .i64 c)).set (i * 4 + 1) (.bool b)).set (i * 4 + 2) E[i].v = ((flatT E).set (i * 4) (.int .i64 c)).set (i * 4 + 1) (.bool b) :=
    set_sameL (by rw [List.getElem?_set_ne (by omega), List.getElem?_set_ne (by omega)]; exact h1)
  have e2 : (((flatT E).set (i * 4) (.int .i64 c)).set (i * 4 + 1) (.bool b)).set (i * 4 + 3) E[i].u = ((flatT E).set (i * 4) (.int .i64 c)).set (i * 4 + 1) (.bool b) :=
    set_sameL (by rw [List.getElem?_set_ne (by omega), List.getElem?_set_ne (by omega)]; exact h2)
  rw [e1, e2]
/-- The two slices of the one and the two of the other share no block. -/
def AptT (e e' : Et) : Prop := ∀ k, (e.v.ownBlock = some k ∨ e.u.ownBlock = some k) → ¬ (e'.v.ownBlock = some k ∨ e'.u.ownBlock = some k)
theorem AptT.symm {e e' : Et} (h : AptT e e') : AptT e' e := fun k h1 h2 => h k h2 h1
end Go.Proofs.YtamhmpjadnfpdaaGreat

/- Slices of terms' structs: what is marked in them. -/
namespace Go.Proofs.YtamhmpjadnfpdaaGreat
open Go.RowKit
open Go.Lib (hid)
set_option linter.unusedVariables false

/-- How many places a struct has. -/
def Tq.n (f : Tq) : Nat := 2 + f.A.length + f.D.length
def szT : List Tq → Nat
  | [] => 0
  | f :: K => f.n + szT K
theorem szT_append : ∀ K L : List Tq, szT (K ++ L) = szT K + szT L
  | [], L => by simp [szT]
  | f :: K, L => by simp only [List.cons_append, szT, szT_append K L]; omega
theorem szT_take {K : List Tq} {k : Nat} (h : k < K.length) : szT (K.take (k + 1)) = szT (K.take k) + K[k].n := by
  rw [List.take_succ_eq_append_getElem h, szT_append]; simp [szT]
theorem szT_le (K : List Tq) (k : Nat) : szT (K.take k) ≤ szT K := by
  have := szT_append (K.take k) (K.drop k)
  rw [List.take_append_drop] at this
  omega
theorem szT_at {K : List Tq} {k : Nat} (h : k < K.length) : szT (K.take k) + K[k].n ≤ szT K := by
  have := szT_take h
  have := szT_le K (k + 1)
  omega
theorem szT_len0 : ∀ K : List Tq, K.length ≤ szT K
  | [] => Nat.le_refl _
  | f :: K => by have := szT_len0 K; simp only [List.length_cons, szT, Tq.n]; omega
theorem szT_more {K : List Tq} {k : Nat} (h : k < K.length) : szT (K.take k) + K[k].n + (K.length - (k + 1)) ≤ szT K := by
  have h1 := szT_append (K.take (k + 1)) (K.drop (k + 1))
  rw [List.take_append_drop, szT_take h] at h1
  have h2 := szT_len0 (K.drop (k + 1))
  rw [List.length_drop] at h2
  omega
theorem szT_len : ∀ K : List Tq, K.length ≤ szT K
  | [] => Nat.le_refl _
  | f :: K => by have := szT_len K; simp only [List.length_cons, szT, Tq.n]; omega
/-- What the law counts of a struct. -/
def Tq.m (f : Tq) : Nat := 1 + f.A.length + f.D.length
def szU : List Tq → Nat
  | [] => 0
  | f :: K => f.m + szU K
theorem szU_append : ∀ K L : List Tq, szU (K ++ L) = szU K + szU L
  | [], L => by simp [szU]
  | f :: K, L => by simp only [List.cons_append, szU, szU_append K L]; omega
theorem szU_take {K : List Tq} {k : Nat} (h : k < K.length) : szU (K.take (k + 1)) = szU (K.take k) + K[k].m := by
  rw [List.take_succ_eq_append_getElem h, szU_append]; simp [szU]
theorem szU_le (K : List Tq) (k : Nat) : szU (K.take k) ≤ szU K := by
  have := szU_append (K.take k) (K.drop k)
  rw [List.take_append_drop] at this
  omega
theorem szU_at {K : List Tq} {k : Nat} (h : k < K.length) : szU (K.take k) + K[k].m ≤ szU K := by
  have := szU_take h
  have := szU_le K (k + 1)
  omega
theorem szU_len : ∀ K : List Tq, K.length ≤ szU K
  | [] => Nat.le_refl _
  | f :: K => by have := szU_len K; simp only [List.length_cons, szU, Tq.m]; omega
theorem szU_more {K : List Tq} {k : Nat} (h : k < K.length) : szU (K.take k) + K[k].m + (K.length - (k + 1)) ≤ szU K := by
  have h1 := szU_append (K.take (k + 1)) (K.drop (k + 1))
  rw [List.take_append_drop, szU_take h] at h1
  have h2 := szU_len (K.drop (k + 1))
  rw [List.length_drop] at h2
  omega
theorem szT_szU : ∀ K : List Tq, szT K ≤ 2 * szU K
  | [] => Nat.le_refl _
  | f :: K => by have := szT_szU K; simp only [szT, szU, Tq.n, Tq.m]; omega
/-- The struct with its places marked from m on. -/
def Tq.mk' (f : Tq) (m : Int) : Tq := ⟨m, (m + 1) % 3 == 0, marks f.A.length (m + 2), marks f.D.length (m + 2 + (f.A.length : Int))⟩
def mkET : List Et → Int → List Et
  | [], _ => []
  | e :: E, m => ⟨e.q.mk' m, e.v, e.u⟩ :: mkET E (m + (e.q.n : Int))
def keysT (E : List Et) : List Tq := E.map Et.q
theorem keysT_len (E : List Et) : (keysT E).length = E.length := by simp [keysT]
theorem keysT_take (E : List Et) (k : Nat) : keysT (E.take k) = (keysT E).take k := by simp [keysT]
theorem keysT_at {E : List Et} {k : Nat} (h : k < E.length) : (keysT E)[k]'(by rw [keysT_len]; exact h) = E[k].q := by simp [keysT]
theorem keysT_append (E F : List Et) : keysT (E ++ F) = keysT E ++ keysT F := by simp [keysT]
theorem mkET_len : ∀ (E : List Et) (m : Int), (mkET E m).length = E.length
  | [], _ => rfl
  | e :: E, m => by simp [mkET, mkET_len E]
theorem mkET_append : ∀ (E F : List Et) (m : Int), mkET (E ++ F) m = mkET E m ++ mkET F (m + (szT (keysT E) : Int))
  | [], F, m => by simp [mkET, keysT, szT]
  | e :: E, F, m => by
    simp only [List.cons_append, mkET, mkET_append E F, keysT, List.map_cons, szT]
    congr 3
    omega
theorem mkET_at : ∀ (E : List Et) (m : Int) (k : Nat) (h : k < E.length), (mkET E m)[k]'(by rw [mkET_len]; exact h) = ⟨E[k].q.mk' (m + (szT (keysT (E.take k)) : Int)), E[k].v, E[k].u⟩
  | e :: E, m, 0, _ => by simp [mkET, keysT, szT]
  | e :: E, m, k + 1, h => by
    have := mkET_at E (m + (e.q.n : Int)) k (by simpa using h)
    simp only [mkET, List.getElem_cons_succ, this, List.take_succ_cons, keysT, List.map_cons, szT]
    congr 2
    omega
/-- The first k structs are marked. -/
def mkdT (E : List Et) (m : Int) (k : Nat) : List Et := mkET (E.take k) m ++ E.drop k
theorem mkdT_zero (E : List Et) (m : Int) : mkdT E m 0 = E := by simp [mkdT, mkET]
theorem mkdT_all (E : List Et) (m : Int) : mkdT E m E.length = mkET E m := by simp [mkdT]
theorem mkdT_len {E : List Et} {m : Int} {k : Nat} (h : k ≤ E.length) : (mkdT E m k).length = E.length := by simp [mkdT, mkET_len]; omega
theorem mkdT_at {E : List Et} {m : Int} {k : Nat} (h : k < E.length) : (mkdT E m k)[k]'(by rw [mkdT_len (by omega)]; exact h) = E[k] := by
  have hl : (mkET (E.take k) m).length = k := by rw [mkET_len, List.length_take]; omega
  simp only [mkdT]
  rw [List.getElem_append_right (by omega)]
  simp [hl]
theorem mkdT_set {E : List Et} {m : Int} {k : Nat} (h : k < E.length) : (mkdT E m k).set k ⟨E[k].q.mk' (m + (szT (keysT (E.take k)) : Int)), E[k].v, E[k].u⟩ = mkdT E m (k + 1) := by
  have hl : (mkET (E.take k) m).length = k := by rw [mkET_len, List.length_take]; omega
  simp only [mkdT]
  rw [List.set_append_right k _ (by omega), hl, Nat.sub_self, List.drop_eq_getElem_cons h, List.set_cons_zero, List.take_succ_eq_append_getElem h, mkET_append]
  simp [mkET]
end Go.Proofs.YtamhmpjadnfpdaaGreat

/- Slices of terms' structs that came in; slices of structs by what they hold. -/
namespace Go.Proofs.YtamhmpjadnfpdaaGreat
open Go.RowKit
open Go.Lib (hid)
set_option linter.unusedVariables false

/-- A slice of structs that came in: it reads as K and lies below the height h. -/
structure CameT (w : World) (h : Nat) (g o : Nat) (f : Tq) : Prop where
  ex : ∃ a c b d, w.cell? ⟨g, o, none⟩ = some (.int .i64 f.c) ∧ w.cell? ⟨g, o + 1, none⟩ = some (.bool f.s) ∧ w.cell? ⟨g, o + 2, none⟩ = some (.slice a f.A.length c) ∧ w.cell? ⟨g, o + 3, none⟩ = some (.slice b f.D.length d) ∧ CameR w h a f.A.length f.A b f.D.length f.D
theorem CameT.old {w w' : World} {h g o : Nat} {f : Tq} (c : CameT w h g o f) (hb : Below w.heap.size w w') (hg : g < w.heap.size) : CameT w' h g o f := by
  obtain ⟨a, c, b, d, hc, h0, h1, h2, h3⟩ := c.ex
  exact ⟨a, c, b, d, (hb.cell (p := ⟨g, o, none⟩) hg).trans hc, (hb.cell (p := ⟨g, o + 1, none⟩) hg).trans h0, (hb.cell (p := ⟨g, o + 2, none⟩) hg).trans h1, (hb.cell (p := ⟨g, o + 3, none⟩) hg).trans h2, h3.old hb⟩
theorem CameT.onlyG {w w' : World} {h g o lo hi : Nat} {f : Tq} (c : CameT w h g o f) (hb : Only (InG lo hi w.heap.size) w w') (hlo : h ≤ lo) (hg : g < h) (hg' : g < w.heap.size) : CameT w' h g o f := by
  obtain ⟨a, c, b, d, hc, h0, h1, h2, h3⟩ := c.ex
  have hn : ¬ InG lo hi w.heap.size g := fun hs => by have := InG_cases hs; omega
  exact ⟨a, c, b, d, (hb.cell (p := ⟨g, o, none⟩) hn).trans hc, (hb.cell (p := ⟨g, o + 1, none⟩) hn).trans h0, (hb.cell (p := ⟨g, o + 2, none⟩) hn).trans h1, (hb.cell (p := ⟨g, o + 3, none⟩) hn).trans h2, h3.onlyG hb hlo⟩
def TCame (w : World) (h : Nat) (a : Option Addr) (n : Nat) (K : List Tq) : Prop :=
  n = K.length ∧ (0 < K.length → ∃ g o, a = some ⟨g, o, none⟩ ∧ g < h ∧ g < w.heap.size ∧ ∀ i (hi : i < K.length), CameT w h g (o + i * 4) K[i])
theorem TCame.old {w w' : World} {h n : Nat} {a : Option Addr} {K : List Tq} (c : TCame w h a n K) (hb : Below w.heap.size w w') : TCame w' h a n K :=
  ⟨c.1, fun h0 => by
    obtain ⟨g, o, e, hh, hg, hc⟩ := c.2 h0
    exact ⟨g, o, e, hh, Nat.lt_of_lt_of_le hg hb.size, fun i hi => (hc i hi).old hb hg⟩⟩
theorem TCame.onlyG {w w' : World} {h n lo hi : Nat} {a : Option Addr} {K : List Tq} (c : TCame w h a n K) (hb : Only (InG lo hi w.heap.size) w w') (hlo : h ≤ lo) : TCame w' h a n K :=
  ⟨c.1, fun h0 => by
    obtain ⟨g, o, e, hh, hg, hc⟩ := c.2 h0
    exact ⟨g, o, e, hh, Nat.lt_of_lt_of_le hg hb.size, fun i hi => (hc i hi).onlyG hb hlo hh hg⟩⟩
def mkT : List Tq → Int → List Tq
  | [], _ => []
  | f :: K, m => f.mk' m :: mkT K (m + (f.n : Int))
theorem keysT_mkE : ∀ (E : List Et) (m : Int), keysT (mkET E m) = mkT (keysT E) m
  | [], _ => rfl
  | e :: E, m => by simp only [mkET, keysT, List.map_cons, mkT]; exact congrArg _ (keysT_mkE E _)
theorem mkT_len : ∀ (K : List Tq) (m : Int), (mkT K m).length = K.length
  | [], _ => rfl
  | f :: K, m => by simp [mkT, mkT_len K]
theorem mkT_at : ∀ (K : List Tq) (m : Int) (k : Nat) (h : k < K.length), (mkT K m)[k]'(by rw [mkT_len]; exact h) = K[k].mk' (m + (szT (K.take k) : Int))
  | f :: K, m, 0, _ => by simp [mkT, szT]
  | f :: K, m, k + 1, h => by
    have := mkT_at K (m + (f.n : Int)) k (by simpa using h)
    simp only [mkT, List.getElem_cons_succ, this, List.take_succ_cons, szT]
    congr 1
    omega
end Go.Proofs.YtamhmpjadnfpdaaGreat

/- The laws' helpers on slices of terms' structs: how many places they have. -/
namespace Go.Proofs.YtamhmpjadnfpdaaGreat
open Go.RowKit
open Go.Lib (hid)
set_option linter.unusedVariables false

def Et0 : Et := ⟨⟨0, false, [], []⟩, .slice none 0 0, .slice none 0 0⟩
theorem flatT_zeros : ∀ n : Nat, flatT (List.replicate n Et0) = (madeCells #[.int .i64 0, .bool false, .slice none 0 0, .slice none 0 0] (n * 4)).toList := by
  intro n
  apply List.ext_getElem?
  intro j
  by_cases hj : j < n * 4
  · have hl : (flatT (List.replicate n Et0)).length = n * 4 := by rw [flatT_len, List.length_replicate]
    obtain ⟨q, hq⟩ : ∃ q, q = j / 4 := ⟨_, rfl⟩
    have hqn : q < (List.replicate n Et0).length := by rw [List.length_replicate]; omega
    obtain ⟨hc, h0, h1, h2⟩ := flatT_at (List.replicate n Et0) q hqn
    simp only [List.getElem_replicate] at hc h0 h1 h2
    have hr : (madeCells #[.int .i64 0, .bool false, .slice none 0 0, .slice none 0 0] (n * 4)).toList[j]? = some ((#[.int .i64 0, .bool false, .slice none 0 0, .slice none 0 0] : Array Value)[j % 4]!) := by
      simp [madeCells, hj]
    rw [hr]
    have : j = q * 4 ∨ j = q * 4 + 1 ∨ j = q * 4 + 2 ∨ j = q * 4 + 3 := by omega
    rcases this with e | e | e | e
    · rw [e, hc, show q * 4 % 4 = 0 by omega]; rfl
    · rw [e, h0, show (q * 4 + 1) % 4 = 1 by omega]; rfl
    · rw [e, h1, show (q * 4 + 2) % 4 = 2 by omega]; rfl
    · rw [e, h2, show (q * 4 + 3) % 4 = 3 by omega]; rfl
  · rw [List.getElem?_eq_none (by rw [flatT_len, List.length_replicate]; omega), List.getElem?_eq_none (by simp [size_madeCells]; omega)]
end Go.Proofs.YtamhmpjadnfpdaaGreat

/- The laws' helpers on slices of terms' structs: a copy; two that hold the same are equal. -/
namespace Go.Proofs.YtamhmpjadnfpdaaGreat
open Go.RowKit
open Go.Lib (hid)
set_option linter.unusedVariables false

theorem ROb.setc {w : World} {v u : Value} {A D : List Int} {lo hi N i : Nat} {x : Value} (h : ROb w v u A D lo hi) (hv : v.ownBlock ≠ some N) (hu : u.ownBlock ≠ some N) : ROb (w.setCell ⟨N, i, none⟩ x) v u A D lo hi :=
  ⟨⟨Ints_set h.a.ints hv, h.a.high⟩, ⟨Ints_set h.d.ints hu, h.d.high⟩, h.ne⟩
/-- A term's struct of the call's own, in the laws' words. -/
def OwnTT (x : Int) (s : Bool) (A D : List Int) (w : World) (e : Ending) (w' : World) : Prop := ∃ v u, e = .returned (.agg #[.int .i64 x, .bool s, v, u]) ∧ ROb w' v u A D w.heap.size w'.heap.size ∧ Below w.heap.size w w'
theorem keysT_zero {E : List Et} (h : keysT E = []) : E = [] := by cases E <;> simp_all [keysT]
end Go.Proofs.YtamhmpjadnfpdaaGreat

/- The laws' helpers on slices of terms' structs: marks. -/
namespace Go.Proofs.YtamhmpjadnfpdaaGreat
open Go.RowKit
open Go.Lib (hid)
set_option linter.unusedVariables false

end Go.Proofs.YtamhmpjadnfpdaaGreat

/- Slices of terms' structs by their values: what they hold at an index, an append, the laws' helpers. -/
namespace Go.Proofs.YtamhmpjadnfpdaaGreat
open Go.RowKit
open Go.Lib (hid)
set_option linter.unusedVariables false

def Tq.o (f : Tq) : Option Rat := rval f.s f.A f.D
def Tq.f (f : Tq) : Fq := ⟨f.s, f.A, f.D⟩
theorem Tq.f_o (f : Tq) : f.f.o = f.o := rfl
def tqo (c : Int) (o : Option Rat) : Tq := ⟨c, gzs (qn o), gzl (qn o), gzl (qd o)⟩
theorem tqo_f (c : Int) (o : Option Rat) : (tqo c o).f = fqo o := by simp only [Tq.f, tqo, fqo]
theorem tqo_c (c : Int) (o : Option Rat) : (tqo c o).c = c := by simp only [tqo]
theorem tqo_o {o : Option Rat} (c : Int) (h : fitO o) : (tqo c o).o = o := by
  have := (rval_parts h).1
  simp only [Tq.o, tqo]
  exact this
theorem tqo_A (c : Int) (o : Option Rat) : (tqo c o).A = gzl (qn o) := by simp only [tqo]
theorem tqo_D (c : Int) (o : Option Rat) : (tqo c o).D = gzl (qd o) := by simp only [tqo]
theorem tqo_s (c : Int) (o : Option Rat) : (tqo c o).s = gzs (qn o) := by simp only [tqo]
set_option maxRecDepth 100000 in
theorem tqo_n {o : Option Rat} (c : Int) (h : fitO o) : (tqo c o).n ≤ 50 := by
  obtain ⟨-, -, h1, h2⟩ := rval_parts h
  simp only [Tq.n, tqo]; omega
theorem fitO_ot (f : Tq) : fitO f.o := fitO_rval _ _ _
/-- Of a size at which the functions on fractions answer. -/
def SmT (K : List Tq) : Prop := (∀ f ∈ K, f.A.length ≤ 1048576 ∧ f.D.length ≤ 1048576) ∧ K.length ≤ 1048576
set_option maxRecDepth 100000 in
theorem SmT.of {K : List Tq} (h : szU K ≤ 1048576) : SmT K := by
  refine ⟨fun f hf => ?_, Nat.le_trans (szU_len K) h⟩
  obtain ⟨k, hk, rfl⟩ := List.getElem_of_mem hf
  have := szU_at hk
  simp only [Tq.m] at this
  omega
set_option maxRecDepth 100000 in
theorem SmT.ofT {K : List Tq} (h : szT K ≤ 1048576) : SmT K := by
  refine ⟨fun f hf => ?_, Nat.le_trans (szT_len K) h⟩
  obtain ⟨k, hk, rfl⟩ := List.getElem_of_mem hf
  have := szT_at hk
  simp only [Tq.n] at this
  omega
variable {ops : Array Oper} {o : Oper} {a : Act} {p : Bool} {W : World} {v x y : Value} {Ks : List Tq} {lo hi lo' B : Nat} {sg : Bool} {oo : Option Rat} {x0 : Int}
end Go.Proofs.YtamhmpjadnfpdaaGreat
