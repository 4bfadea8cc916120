import Derived.Test.YtjjainnafihkdaaGreatXh
import Derived.Test.YtjjainnafihkdaaGreatXw
import Derived.Laws.CopyOwn
import Derived.Deep.RegionHeld3
import Derived.Deep.DeepCutAuto
import Derived.Deep.AppendLies
import Derived.IntWalk
set_option maxRecDepth 100000
set_option maxHeartbeats 6400000
set_option linter.unusedVariables false
namespace Go.Proofs.YtjjainnafihkdaaGreat
open Go.RowKit
open Go.Lib (hid)
def rowsV (g c n : Nat) : List Value := (List.range n).map fun i => .slice (some ⟨g, i * c * 3, none⟩) c c
theorem rowsV_at {g c n k : Nat} (h : k < n) : (rowsV g c n)[k]? = some (.slice (some ⟨g, k * c * 3, none⟩) c c) := by simp [rowsV, h]
theorem rowsV_succ (g c n : Nat) : rowsV g c (n + 1) = rowsV g c n ++ [.slice (some ⟨g, n * c * 3, none⟩) c c] := by simp [rowsV, List.range_succ]
theorem flat_len' {α : Type} {c : Nat} : ∀ {Es : List (List α)}, (∀ E ∈ Es, E.length = c) → Es.flatten.length = Es.length * c
 | [], _ => by simp
 |E :: Es, h => by
  have h1 := h E (List.mem_cons_self ..)
  have h2 := flat_len' (Es := Es) fun x hx => h x (List.mem_cons_of_mem _ hx)
  simp only [List.flatten_cons, List.length_append, List.length_cons, Nat.add_mul, h1, h2]
  omega
theorem flat_split {α : Type} {Es : List (List α)} {k : Nat} (h : k < Es.length) : Es.flatten = (Es.take k).flatten ++ Es[k] ++ (Es.drop (k + 1)).flatten := by
 have h1 : Es = Es.take k ++ Es[k] :: Es.drop (k + 1) := by rw [← List.drop_eq_getElem_cons h, List.take_append_drop]
 have h2 : Es.flatten = (Es.take k ++ Es[k] :: Es.drop (k + 1)).flatten := by rw [← h1]
 rw [h2, List.flatten_append, List.flatten_cons, ← List.append_assoc]
theorem flat_set' {α : Type} {Es : List (List α)} {k : Nat} (h : k < Es.length) (X : List α) : (Es.set k X).flatten = (Es.take k).flatten ++ X ++ (Es.drop (k + 1)).flatten := by
 have h1 : Es.set k X = Es.take k ++ X :: Es.drop (k + 1) := List.set_eq_take_append_cons_drop .. |>.trans (by rw [if_pos h])
 rw [h1]
 simp
theorem take_len' {α : Type} {c k : Nat} {Es : List (List α)} (hc : ∀ E ∈ Es, E.length = c) (h : k ≤ Es.length) : (Es.take k).flatten.length = k * c := by
 rw [flat_len' fun E hE => hc E (List.mem_of_mem_take hE), List.length_take, Nat.min_eq_left h]
structure MA (w : World) (v : Value) (g N c : Nat) (Es : List (List El)) (Z : List El) (lo hi : Nat) : Prop where
 row : w.ownsRow lo 42 1 v Es.length (rowsV g c Es.length)
 high : ∀ k, v.ownBlock = some k → k < hi
 vo : VO true w (.slice (some ⟨g, 0, none⟩) N N) (Es.flatten ++ Z) lo hi
 len : ∀ E ∈ Es, E.length = c
theorem MA.old {w w' : World} {v : Value} {g N c : Nat} {Es : List (List El)} {Z : List El} {lo hi : Nat} (h : MA w v g N c Es Z lo hi) (hb : Below w.heap.size w w') : MA w' v g N c Es Z lo hi :=
 ⟨own_block h.row fun k hk => hb.block k (h.row.lt k hk).2, h.high, h.vo.old hb, h.len⟩
theorem MA.onlyG {w w' : World} {v : Value} {g N c : Nat} {Es : List (List El)} {Z : List El} {lo hi a b : Nat} (h : MA w v g N c Es Z lo hi) (hb : Only (InG a b w.heap.size) w w') (hd : hi ≤ a ∨ b ≤ lo) : MA w' v g N c Es Z lo hi :=
 ⟨own_block h.row fun k hk => hb.block k fun hs => by have := InG_cases hs; have := h.high k hk; have := h.row.lt k hk; omega, h.high, h.vo.onlyG hb hd, h.len⟩
theorem MA.wide {w : World} {v : Value} {g N c : Nat} {Es : List (List El)} {Z : List El} {lo hi lo' hi' : Nat} (h : MA w v g N c Es Z lo hi) (h1 : lo' ≤ lo) (h2 : hi ≤ hi') : MA w v g N c Es Z lo' hi' :=
 ⟨own_base h.row h1, fun k hk => Nat.lt_of_lt_of_le (h.high k hk) h2, h.vo.wide h1 h2, h.len⟩
theorem MA.cell {w : World} {a : Option Addr} {n d g N c : Nat} {Es : List (List El)} {Z : List El} {lo hi : Nat} (h : MA w (.slice a n d) g N c Es Z lo hi) {k : Nat} (hk : k < Es.length) :
  ∃ G, a = some ⟨G, 0, none⟩ ∧ n = Es.length ∧ lo ≤ G ∧ G < hi ∧ G < w.heap.size ∧ w.cell? ⟨G, k, none⟩ = some (.slice (some ⟨g, k * c * 3, none⟩) c c) := by
 rcases h.row.2 with ⟨-, h2⟩ | ⟨G, cap, cur, h1, h2, h3, h4, -⟩
 ·omega
 ·simp only [Value.slice.injEq] at h1
  obtain ⟨rfl, rfl, rfl⟩ := h1
  have hc := h.row.cells (g := G) rfl k _ (rowsV_at hk)
  rw [Go.WideShapes.add_plain, Nat.zero_add] at hc
  exact ⟨G, rfl, rfl, h2, h.high G rfl, (Array.getElem?_eq_some_iff.1 h3).1, hc⟩
theorem MA.num {w : World} {a : Option Addr} {n d g N c : Nat} {Es : List (List El)} {Z : List El} {lo hi : Nat} (h : MA w (.slice a n d) g N c Es Z lo hi) : n = Es.length := by
 rcases h.row.2 with ⟨h1, h2⟩ | ⟨G, cap, cur, h1, -⟩
 ·simp only [Value.slice.injEq] at h1; omega
 ·simp only [Value.slice.injEq] at h1; exact h1.2.1
theorem MA.mw {w : World} {a : Option Addr} {n d g N c : Nat} {Es : List (List El)} {Z : List El} {lo hi : Nat} (h : MA w (.slice a n d) g N c Es Z lo hi) : MW w a n (Es.map keys) lo hi := by
 refine ⟨by rw [List.length_map]; exact h.num, fun h0 => ?_⟩
 rw [List.length_map] at h0
 obtain ⟨G, rfl, -, h1, h2, h3, -⟩ := h.cell h0
 refine ⟨G, 0, rfl, h1, h2, h3, fun i hi' => ?_⟩
 rw [List.length_map] at hi'
 obtain ⟨G', e, -, -, -, -, q⟩ := h.cell hi'
 simp only [Option.some.injEq, Addr.mk.injEq, and_true] at e
 subst e
 have hc := h.len _ (List.getElem_mem hi')
 simp only [List.getElem_map, Nat.zero_add, keys_len, hc]
 refine ⟨_, _, q, ?_⟩
 have ht := take_len' h.len (Nat.le_of_lt hi')
 have hs := flat_split hi'
 have hp := h.vo.part (f := i * c) (m := c) (by
  rw [hs]
  simp only [List.length_append, ht, hc]
  omega)
 have e2 : ((keys (Es.flatten ++ Z)).drop (i * c)).take c = keys Es[i] := by
  rw [hs, List.append_assoc, List.append_assoc, keys_append, keys_append, List.drop_left' (by rw [keys_len]; exact ht), List.take_left' (by rw [keys_len]; exact hc)]
 rw [e2] at hp
 exact hp
def MAK (w : World) (v : Value) (M : List (List Fq)) (lo hi : Nat) : Prop := (v = .slice none 0 0 ∧ M = []) ∨ ∃ g N c Es Z, MA w v g N c Es Z lo hi ∧ Es.map keys = M
theorem MAK.old {w w' : World} {v : Value} {M : List (List Fq)} {lo hi : Nat} (h : MAK w v M lo hi) (hb : Below w.heap.size w w') : MAK w' v M lo hi := by
 rcases h with h | ⟨g, N, c, Es, Z, h, e⟩
 ·exact .inl h
 ·exact .inr ⟨g, N, c, Es, Z, h.old hb, e⟩
theorem MAK.onlyG {w w' : World} {v : Value} {M : List (List Fq)} {lo hi a b : Nat} (h : MAK w v M lo hi) (hb : Only (InG a b w.heap.size) w w') (hd : hi ≤ a ∨ b ≤ lo) : MAK w' v M lo hi := by
 rcases h with h | ⟨g, N, c, Es, Z, h, e⟩
 ·exact .inl h
 ·exact .inr ⟨g, N, c, Es, Z, h.onlyG hb hd, e⟩
theorem MAK.wide {w : World} {v : Value} {M : List (List Fq)} {lo hi lo' hi' : Nat} (h : MAK w v M lo hi) (h1 : lo' ≤ lo) (h2 : hi ≤ hi') : MAK w v M lo' hi' := by
 rcases h with h | ⟨g, N, c, Es, Z, h, e⟩
 ·exact .inl h
 ·exact .inr ⟨g, N, c, Es, Z, h.wide h1 h2, e⟩
theorem MAK.num {w : World} {a : Option Addr} {n d : Nat} {M : List (List Fq)} {lo hi : Nat} (h : MAK w (.slice a n d) M lo hi) : n = M.length := by
 rcases h with ⟨h, rfl⟩ | ⟨g, N, c, Es, Z, h, rfl⟩
 ·simp only [Value.slice.injEq] at h; exact h.2.1
 ·rw [List.length_map]; exact h.num
theorem MAK.mw {w : World} {a : Option Addr} {n d : Nat} {M : List (List Fq)} {lo hi : Nat} (h : MAK w (.slice a n d) M lo hi) : MW w a n M lo hi := by
 rcases h with ⟨h, rfl⟩ | ⟨g, N, c, Es, Z, h, rfl⟩
 ·simp only [Value.slice.injEq] at h
  obtain ⟨rfl, rfl, rfl⟩ := h
  exact MW_nil _ _ _ _
 ·exact h.mw
theorem MW.mw {w : World} {a : Option Addr} {n : Nat} {M : List (List Fq)} {lo hi : Nat} (h : MW w a n M lo hi) : MW w a n M lo hi := h
def MatG (M : List (List Fq)) (w : World) (e : Ending) (w' : World) : Prop := ∃ a n c, e = .returned (.slice a n c) ∧ MAK w' (.slice a n c) M w.heap.size w'.heap.size ∧ Below w.heap.size w w'
theorem MatG_nil (w : World) {w' : World} (hb : Below w.heap.size w w') : MatG [] w (.returned (.slice none 0 0)) w' := ⟨_, _, _, rfl, .inl ⟨rfl, rfl⟩, hb⟩
def Blk (g : Nat) (E : List El) (k : Nat) : Prop := k = g ∨ ∃ x ∈ E, x.v.ownBlock = some k ∨ x.u.ownBlock = some k
def MarkPt (g N d : Nat) (P E S : List El) (m : Int) (lo hi : Nat) (w : World) (e : Ending) (w' : World) : Prop := e = .returned (.int .i64 (m + (szK (keys E) : Int))) ∧ VO true w' (.slice (some ⟨g, 0, none⟩) N d) (P ++ mkE E m ++ S) lo hi ∧ Only (Blk g E) w w'
theorem mid_at {P E S : List El} {m : Int} {k : Nat} (h : k < E.length) : ∃ hj : P.length + k < (P ++ mkd E m k ++ S).length, (P ++ mkd E m k ++ S)[P.length + k] = E[k] := by
 have hl := mkd_len (E := E) (m := m) (k := k) (by omega)
 refine ⟨by simp only [List.length_append, hl]; omega, ?_⟩
 rw [List.getElem_append_left (by simp only [List.length_append, hl]; omega), List.getElem_append_right (by omega)]
 simp only [Nat.add_sub_cancel_left]
 exact mkd_at h
theorem mid_set {P E S : List El} {m : Int} {k : Nat} (h : k < E.length) : (P ++ mkd E m k ++ S).set (P.length + k) ⟨E[k].q.mk' (m + (szK (keys (E.take k)) : Int)), E[k].v, E[k].u⟩ = P ++ mkd E m (k + 1) ++ S := by
 have hl := mkd_len (E := E) (m := m) (k := k) (by omega)
 rw [List.set_append_left _ _ (by simp only [List.length_append, hl]; omega), List.set_append_right _ _ (by omega), Nat.add_sub_cancel_left, mkd_set h]
theorem markRatS_part {g N d o cc : Nat} {P E S : List El} {m : Int} {lo hi : Nat} (ho : o = P.length * 3) (hK : szK (keys E) ≤ 4194304) (m0 : 0 ≤ m) (m1 : m ≤ 4194304) (w : World) (o1 : VO true w (.slice (some ⟨g, 0, none⟩) N d) (P ++ E ++ S) lo hi) :
  Calls Tryz.prog 31 #[.slice (some ⟨g, o, none⟩) E.length cc, .int .i64 m] w (MarkPt g N d P E S m lo hi w) := by
 have HK := hid hK
 have hsz := szK_len (keys E)
 rw [keys_len] at hsz
 have O1 := hid o1
 have HO := hid ho
 clear o1 hK ho
 have hEl : E.length ≤ 4194304 := by have := HK.out; omega
 clear hsz
 go_enter Tryz.func31, Tryz.ntmps31
 go_wp2
 go_loopw [1, 5] (fun x i wr => ∃ (k : Nat) (y : Int), k ≤ E.length ∧ i = .int .i64 k ∧ x = .int .i64 y ∧ Hid (y = m + (szK (keys (E.take k)) : Int)) ∧ Hid (VO true wr (.slice (some ⟨g, 0, none⟩) N d) (P ++ mkd E m k ++ S) lo hi) ∧ Hid (Only (Blk g E) w wr)) (fun _ i _ => E.length - (intOf i).toNat)
 case atStart => exact ⟨0, m, Nat.zero_le _, rfl, rfl, hid (by simp [keys, szK]), hid (by rw [mkd_zero]; exact O1.out), hid (Only.refl _ _)⟩
 case round =>
  obtain ⟨k, y, hk, rfl, rfl, hy, hV, hB⟩ := hrel
  by_cases hlt : k < E.length
  ·obtain ⟨hj, hat⟩ := mid_at (P := P) (S := S) (m := m) hlt
   have hset := mid_set (P := P) (S := S) (m := m) hlt
   obtain ⟨j, hjd⟩ : ∃ j, j = P.length + k := ⟨_, rfl⟩
   have hj3 : j * 3 = o + k * 3 := by have := HO.out; omega
   obtain ⟨F, hF⟩ : ∃ F, F = P ++ mkd E m k ++ S := ⟨_, rfl⟩
   have V0 := hid hV.out
   simp only [← hjd, ← hF] at hj hat hset
   rw [← hF] at V0
   have hjl := hid hj
   have hy2 := hy.out
   have hn := szK_at (K := keys E) (k := k) (by rw [keys_len]; exact hlt)
   have hst := szK_take (K := keys E) (k := k) (by rw [keys_len]; exact hlt)
   rw [keys_at hlt, ← keys_take] at hn
   rw [keys_at hlt, ← keys_take, ← keys_take] at hst
   have hKv := HK.out
   have q012 := V0.out.cell hjl.out
   have R := V0.out.at hjl.out
   have V1 := hid (V0.out.puts hjl.out (y % 3 == 0))
   have hg : g < wr.heap.size := (V0.out.lt g rfl).2
   have hme := hid (List.getElem_mem hlt)
   rw [hj3] at q012 V1
   rw [hat] at q012 R V1
   rw [← hy2] at hset
   have f0 := V0.out.free (o + k * 3)
   have hF2 := hid hF
   clear hat hy2 hF hj V0
   generalize hE : E[k] = e1 at q012 R V1 hset hn hst hme
   clear hE
   obtain ⟨⟨s, A, D⟩, x1, y1⟩ := e1
   simp only [Fq.n, Fq.mk'] at q012 R V1 hset hn hst
   obtain ⟨a3, c3, b3, d3, rfl, rfl⟩ := R.form
   clear R
   have HST := hid hst
   have HSET := hid hset
   obtain ⟨q0, q1, q2⟩ := q012
   have y0 : 0 ≤ y := by have := hy.out; omega
   have yb : y ≤ 8388608 := by have := hy.out; omega
   have hA : A.length ≤ 4194304 := by omega
   have hD : D.length ≤ 4194304 := by omega
   have B1 := hid (hB.out.setCell (p := ⟨g, o + k * 3, none⟩) (.inl rfl) (.bool (y % 3 == 0)))
   have KA := hid (fun (W : World) (V : VO true W (.slice (some ⟨g, 0, none⟩) N d) (F.set j ⟨⟨y % 3 == 0, A, D⟩, .slice a3 A.length c3, .slice b3 D.length d3⟩) lo hi) =>
    markIntS_any lo (.slice a3 A.length c3) A (y + 1) (by omega) (by omega) (by omega) (fun j => (Value.slice a3 A.length c3).ownBlock = some j) W (V.set_at hjl.out).a.ints (fun j hj => hj))
   have KD := hid (fun (W : World) (V : VO true W (.slice (some ⟨g, 0, none⟩) N d) (F.set j ⟨⟨y % 3 == 0, marks A.length (y + 1), D⟩, .slice a3 A.length c3, .slice b3 D.length d3⟩) lo hi) =>
    markIntS_any lo (.slice b3 D.length d3) D (y + 1 + (A.length : Int)) (by omega) (by omega) (by omega) (fun j => (Value.slice b3 D.length d3).ownBlock = some j) W (V.set_at hjl.out).d.ints (fun j hj => hj))
   have a1' : (0 : Int) ≤ k := by omega
   have a2' : (k : Int) < E.length := by omega
   have HJ3 := hid hj3
   have HJD := hid hjd
   clear hst hn hset hj3 hjd
   go_wp2_with fail
   (with_reducible refine (KA.out _ V1.out).mono ?_)
   rintro e w2 ⟨rfl, hi2, ho2⟩
   have V2 := hid (V1.out.inA' hjl.out ho2 hi2)
   have B2 := hid (B1.out.trans (ho2.mono fun j hj => .inr ⟨_, hme.out, .inl hj⟩))
   obtain ⟨-, -, q2⟩ := V2.out.set_cell hjl.out
   rw [HJ3.out] at q2
   clear hi2 ho2 f0 q0 q1
   go_wp2_with fail
   (with_reducible refine (KD.out _ V2.out).mono ?_)
   rintro e w3 ⟨rfl, hi3, ho3⟩
   have V3 := hid (V2.out.inD' hjl.out ho3 hi3)
   have B3 := hid (B2.out.trans (ho3.mono fun j hj => .inr ⟨_, hme.out, .inr hj⟩))
   clear hi3 ho3 q2
   go_wp2
   go_roundw
   case rel => exact ⟨k + 1, y + 1 + (A.length : Int) + (D.length : Int), by omega, by go_num, rfl, hid (by have := hy.out; have := HST.out; omega), hid (by rw [← HSET.out]; exact V3.out), B3⟩
   case measure => simp [intOf]; omega
  ·obtain rfl : k = E.length := by omega
   go_wp2
   go_ret
   have h1 := hV.out
   rw [mkd_all] at h1
   have h2 := hy.out
   rw [List.take_length] at h2
   subst h2
   exact ⟨rfl, h1, hB.out⟩
def MarkA (v : Value) (M : List (List Fq)) (m : Int) (lo hi : Nat) (w : World) (e : Ending) (w' : World) : Prop := e = .returned (.int .i64 (m + (szM M : Int))) ∧ MAK w' v (mkM M m) lo hi ∧ Only (InG lo hi w.heap.size) w w'
theorem MAK.row {w : World} {a : Option Addr} {n d : Nat} {M : List (List Fq)} {lo hi : Nat} (h : MAK w (.slice a n d) M lo hi) {k : Nat} (hk : k < M.length) :
  ∃ G g o c, a = some ⟨G, 0, none⟩ ∧ G < w.heap.size ∧ w.cell? ⟨G, k, none⟩ = some (.slice (some ⟨g, o, none⟩) M[k].length c) ∧
   ∀ y : Int, szK M[k] ≤ 4194304 → 0 ≤ y → y ≤ 4194304 → Calls Tryz.prog 31 #[.slice (some ⟨g, o, none⟩) M[k].length c, .int .i64 y] w
    fun e w' => e = .returned (.int .i64 (y + (szK M[k] : Int))) ∧ MAK w' (.slice a n d) (M.set k (mkK M[k] y)) lo hi ∧ Only (InG lo hi w.heap.size) w w' := by
 rcases h with ⟨-, rfl⟩ | ⟨g, N, c, Es, Z, h, rfl⟩
 ·simp at hk
 ·rw [List.length_map] at hk
  obtain ⟨G, rfl, rfl, h1, h2, h3, q⟩ := h.cell hk
  have hc := h.len _ (List.getElem_mem hk)
  have ht := take_len' h.len (Nat.le_of_lt hk)
  have hs := flat_split hk
  simp only [List.getElem_map, keys_len, hc]
  refine ⟨G, g, k * c * 3, c, rfl, h3, q, fun y hy0 hy1 hy2 => ?_⟩
  have hv := h.vo
  rw [hs, List.append_assoc] at hv
  have key := markRatS_part (cc := c) (m := y) (by rw [ht]) hy0 hy1 hy2 w hv
  rw [hc] at key
  refine key.mono fun e w' ⟨he, hv', ho⟩ => ⟨he, .inr ⟨g, N, c, Es.set k (mkE Es[k] y), Z, ⟨?_, h.high, ?_, fun E hE => ?_⟩, ?_⟩, ho.mono fun j hj => ?_⟩
  ·rw [List.length_set]
   refine own_block h.row fun j hj => ho.block j fun hb => ?_
   rcases hb with hb | ⟨x, hx, hb⟩
   ·exact own_ne h.row h.vo.row (by decide) j hj (by rw [hb]; rfl)
   ·have hx' : x ∈ Es.flatten ++ Z := List.mem_append_left _ (List.mem_flatten.2 ⟨_, List.getElem_mem hk, hx⟩)
    have hr := h.vo.el x hx'
    rcases hb with hb | hb
    ·exact own_ne h.row hr.a.ints (by decide) j hj hb
    ·exact own_ne h.row hr.d.ints (by decide) j hj hb
  ·rw [flat_set' hk, List.append_assoc]
   exact hv'
  ·rcases List.mem_or_eq_of_mem_set hE with hE | rfl
   ·exact h.len _ hE
   ·rw [mkE_len]; exact hc
  ·rw [List.map_set, keys_mkE]
  ·refine .inl ?_
   rcases hj with rfl | ⟨x, hx, hb⟩
   ·exact ⟨(h.vo.lt _ rfl).1, h.vo.high _ rfl⟩
   ·have hx' : x ∈ Es.flatten ++ Z := List.mem_append_left _ (List.mem_flatten.2 ⟨_, List.getElem_mem hk, hx⟩)
    have hr := h.vo.el x hx'
    rcases hb with hb | hb
    ·exact ⟨(Ints_lt hr.a.ints j hb).1, hr.a.high j hb⟩
    ·exact ⟨(Ints_lt hr.d.ints j hb).1, hr.d.high j hb⟩
theorem markRatSS_a {a : Option Addr} {n c : Nat} {M : List (List Fq)} {m : Int} {lo hi : Nat} (hM : szM M ≤ 2097152) (hL : M.length ≤ 4194304) (m0 : 0 ≤ m) (m1 : m ≤ 2097152) (w : World) (o1 : MAK w (.slice a n c) M lo hi) :
  Calls Tryz.prog 21 #[.slice a n c, .int .i64 m] w (MarkA (.slice a n c) M m lo hi w) := by
 have HM := hid hM
 have O1 := hid o1
 obtain rfl := o1.num
 clear o1 hM
 go_enter Tryz.func21, Tryz.ntmps21
 go_wp2
 go_loopw [1, 5] (fun x i wr => ∃ (k : Nat) (y : Int), k ≤ M.length ∧ i = .int .i64 k ∧ x = .int .i64 y ∧ Hid (y = m + (szM (M.take k) : Int)) ∧ Hid (MAK wr (.slice a M.length c) (mdM M m k) lo hi) ∧ Hid (Only (InG lo hi w.heap.size) w wr)) (fun _ i _ => M.length - (intOf i).toNat)
 case atStart => exact ⟨0, m, Nat.zero_le _, rfl, rfl, hid (by simp [szM]), hid (by rw [mdM_zero]; exact O1.out), hid (Only.refl _ _)⟩
 case round =>
  obtain ⟨k, y, hk, rfl, rfl, hy, hV, hB⟩ := hrel
  by_cases hlt : k < M.length
  ·have hl := hid (mdM_len (M := M) (m := m) (k := k) hk)
   have hlm := hid (show k < (mdM M m k).length by rw [hl.out]; exact hlt)
   obtain ⟨g, g2, o2, c2, rfl, hg, q0, put⟩ := hV.out.row hlm.out
   have hat := mdM_at (m := m) hlt
   have hset := mdM_set (m := m) hlt
   have hy2 := hy.out
   have hn := szM_at hlt
   have hst := szM_take hlt
   have hKv := HM.out
   rw [← hy2] at hset
   rw [hat] at q0 put
   clear hat hy2
   generalize M[k] = K at q0 put hset hn hst
   have HST := hid hst
   have HSET := hid hset
   have y0 : 0 ≤ y := by have := hy.out; omega
   have yb : y ≤ 4194304 := by have := hy.out; omega
   have KA := hid (put y (by omega) y0 yb)
   have a1' : (0 : Int) ≤ k := by omega
   have a2' : (k : Int) < M.length := by omega
   clear hst hn hset put
   go_wp2_with fail
   (with_reducible refine (KA.out).mono ?_)
   rintro e w2 ⟨rfl, hv2, ho2⟩
   have V2 := hid hv2
   have B2 := hid (hB.out.trans (ho2.mono fun j hj => by
    have h2 := hB.out.size
    rcases InG_cases hj with h3 | h3
    ·exact .inl ⟨h3.1, h3.2⟩
    ·exact .inr (by omega)))
   clear hv2 ho2 q0
   go_wp2
   go_roundw
   case rel => exact ⟨k + 1, y + (szK K : Int), by omega, by go_num, rfl, hid (by have := hy.out; have := HST.out; omega), hid (by rw [← HSET.out]; exact V2.out), B2⟩
   case measure => simp [intOf]; omega
  ·obtain rfl : k = M.length := by omega
   go_wp2
   go_ret
   have h1 := hV.out
   rw [mdM_all] at h1
   have h2 := hy.out
   rw [List.take_length] at h2
   subst h2
   exact ⟨rfl, h1, hB.out⟩
end Go.Proofs.YtjjainnafihkdaaGreat
namespace Go.Proofs.YtjjainnafihkdaaGreat
open Go.RowKit
open Go.Lib (hid)
theorem VO.block_of {p : Bool} {w : World} {g N d : Nat} {E : List El} {lo hi : Nat} (h : VO p w (.slice (some ⟨g, 0, none⟩) N d) E lo hi) :
  ∃ cur : Array Value, w.heap[g]? = some (.cells cur 62 (0, 0)) ∧ E.length * 3 ≤ cur.size ∧ cur.toList.take (E.length * 3) = flat E := by
 rcases h.row.2 with ⟨h1, -⟩ | ⟨g', cap, cur, h1, h2, h3, h4, h5, h6, h7⟩
 ·cases h1
 ·simp only [Value.slice.injEq, Option.some.injEq, Addr.mk.injEq, and_true] at h1
  obtain ⟨rfl, rfl, rfl⟩ := h1
  exact ⟨cur, h3, by rw [h6]; exact Nat.mul_le_mul_right 3 h4, h7⟩
theorem VO.copy {w w' : World} {g N d : Nat} {P X S Y : List El} {vY : Value} {lo hi lo' hi' : Nat} {cur : Array Value} (h : VO true w (.slice (some ⟨g, 0, none⟩) N d) (P ++ X ++ S) lo hi) (hy : VO true w vY Y lo' hi') (hl : Y.length = X.length) (hh : hi ≤ lo') (hlo : lo ≤ lo') (hhi : hi ≤ hi')
  (hc : w.heap[g]? = some (.cells cur 62 (0, 0))) (hc' : w'.heap[g]? = some (.cells (cur.toList.take (P.length * 3) ++ flat Y ++ cur.toList.drop (P.length * 3 + (flat Y).length)).toArray 62 (0, 0)))
  (hb : ∀ k, k ≠ g → w'.heap[k]? = w.heap[k]?) : VO true w' (.slice (some ⟨g, 0, none⟩) N d) (P ++ Y ++ S) lo hi' := by
 have hln : (P ++ Y ++ S).length = (P ++ X ++ S).length := by simp only [List.length_append, hl]
 have keep : ∀ {y : Value} {L : List Int} {a b : Nat}, Obj w y L a b → Obj w' y L a b := fun ho =>
  ⟨Ints_block ho.ints fun k hk => hb k fun e => own_ne h.row ho.ints (by decide) k (by rw [e]; rfl) hk, ho.high⟩
 have inX : ∀ x, x ∈ P ∨ x ∈ S → x ∈ P ++ X ++ S := fun x hx => by
  rcases hx with hx | hx
  ·exact List.mem_append_left _ (List.mem_append_left _ hx)
  ·exact List.mem_append_right _ hx
 have far : ∀ x, x ∈ P ++ X ++ S → ∀ y ∈ Y, Apt x y := fun x hx y hy' => h.apt (w' := w) (hy.el y hy') hh x hx
 refine ⟨?_, fun k hk => Nat.lt_of_lt_of_le (h.high k hk) hhi, fun x hx => ?_, fun hp x hx => ?_, fun hp => ?_⟩
 ·rcases h.row.2 with ⟨h1, -⟩ | ⟨g', cap, cur', h1, h2, h3, h4, h5, h6, h7⟩
  ·cases h1
  ·simp only [Value.slice.injEq, Option.some.injEq, Addr.mk.injEq, and_true] at h1
   obtain ⟨rfl, rfl, rfl⟩ := h1
   rw [hc] at h3
   simp only [Option.some.injEq, Go.Obj.cells.injEq, and_true] at h3
   subst h3
   have hcur : cur.toList = flat P ++ (flat X ++ (flat S ++ cur.toList.drop ((P ++ X ++ S).length * 3))) := by
    conv => lhs; rw [← List.take_append_drop ((P ++ X ++ S).length * 3) cur.toList, h7]
    simp only [flat_append, List.append_assoc]
   have hP : (flat P).length = P.length * 3 := flat_len P
   have hXY : (flat Y).length = (flat X).length := by rw [flat_len, flat_len, hl]
   have e1 : cur.toList.take (P.length * 3) = flat P := by rw [hcur, List.take_left' hP]
   have e2 : cur.toList.drop (P.length * 3 + (flat Y).length) = flat S ++ cur.toList.drop ((P ++ X ++ S).length * 3) := by
    conv => lhs; rw [hcur]
    rw [← List.append_assoc, List.drop_left' (by rw [List.length_append, hP, hXY])]
   rw [e1, e2] at hc'
   have hsz : cur.size = cur.toList.length := by simp
   refine ⟨by rw [flat_len], .inr ⟨g, d, _, by rw [hln], h2, hc', by rw [hln]; exact h4, h5, ?_, ?_⟩⟩
   ·rw [← h6, hsz]
    conv => rhs; rw [hcur]
    simp only [List.size_toArray, List.length_append, hXY]
    omega
   ·have e3 : (flat P ++ flat Y ++ (flat S ++ cur.toList.drop ((P ++ X ++ S).length * 3))).toArray.toList = flat (P ++ Y ++ S) ++ cur.toList.drop ((P ++ X ++ S).length * 3) := by
     simp only [flat_append, List.append_assoc]
    rw [e3, List.take_left' (by rw [flat_len])]
 ·rcases List.mem_append.1 hx with hx | hx
  ·rcases List.mem_append.1 hx with hx | hx
   ·have e := h.el x (inX x (.inl hx))
    exact ⟨(keep e.a).wide (Nat.le_refl _) (.inr hhi), (keep e.d).wide (Nat.le_refl _) (.inr hhi)⟩
   ·have e := hy.el x hx
    exact ⟨(keep e.a).wide hlo (.inr (Nat.le_refl _)), (keep e.d).wide hlo (.inr (Nat.le_refl _))⟩
  ·have e := h.el x (inX x (.inr hx))
   exact ⟨(keep e.a).wide (Nat.le_refl _) (.inr hhi), (keep e.d).wide (Nat.le_refl _) (.inr hhi)⟩
 ·rcases List.mem_append.1 hx with hx | hx
  ·rcases List.mem_append.1 hx with hx | hx
   ·exact h.nd rfl x (inX x (.inl hx))
   ·exact hy.nd rfl x hx
  ·exact h.nd rfl x (inX x (.inr hx))
 ·have ha := h.ap rfl
  rw [List.pairwise_append, List.pairwise_append] at ha
  obtain ⟨⟨a1, a2, a3⟩, a4, a5⟩ := ha
  refine List.pairwise_append.2 ⟨List.pairwise_append.2 ⟨a1, hy.ap rfl, fun x hx y hy' => far x (inX x (.inl hx)) y hy'⟩, a4, fun x hx y hy' => ?_⟩
  rcases List.mem_append.1 hx with hx | hx
  ·exact a5 x (List.mem_append_left _ hx) y hy'
  ·exact (far y (inX y (.inr hy')) x hx).symm
section
variable {P : Program}
theorem run_copy_no (w : World) (dT sT ty elem : TypeId) (d a : Option Addr) (dLen dCap sLen sCap size : Nat) (hu : P.underlying dT = some (.slice elem)) (hs : (P.info? elem).map (·.size) = some size) (hn : Nat.min sLen dLen = 0) :
  (Builtin.copy_ #[dT, sT] ty #[.slice d dLen dCap, .slice a sLen sCap]).run P w = .ok (goInt 0) w := by
 cases hq : P.info? elem with
 | none => simp [hq] at hs
 |some i =>
  have hl : ∀ (x : Addr), (loadCells x 0).run P w = .ok #[] w := fun x => by simpa using run_loadCells_list (P := P) w x [] (by simp)
  cases d <;> cases a <;> simp [Builtin.copy_, run_underlying hu, Builtin.lenOf, Builtin.firstCells, sizeOf, typeInfo, hq, hn, storeCells, hl]
theorem run_copy_rk (w : World) (dT sT ty elem : TypeId) (g o dLen dCap : Nat) (a : Addr) (sLen sCap : Nat) (cur : Array Value) (t : TypeId) (cs : List Value) (size m : Nat)
  (hu : P.underlying dT = some (.slice elem)) (hs : (P.info? elem).map (·.size) = some size)
  (hg : w.heap[g]? = some (.cells cur t (0, 0))) (hm : Nat.min sLen dLen = m) (hn : cs.length = m * size)
  (hsrc : ∀ j v, cs[j]? = some v → w.cell? (a.add j) = some v) (hfit : o + cs.length ≤ cur.size) (h1 : ∀ v ∈ cs, v.oneCell' = true) :
  (Builtin.copy_ #[dT, sT] ty #[.slice (some ⟨g, o, none⟩) dLen dCap, .slice (some a) sLen sCap]).run P w =
   .ok (goInt m) (w.setRow g (cur.toList.take o ++ cs ++ cur.toList.drop (o + cs.length)).toArray) := by
 have hl := run_loadCells_list (P := P) w a cs hsrc
 have hst := run_storeCells_at P g o t cs 0 cur w hg (by simpa using hfit) h1
 cases hq : P.info? elem with
 | none => simp [hq] at hs
 |some i =>
  have hi : i.size = size := by simpa [hq] using hs
  rw [hn] at hl
  simp [Builtin.copy_, run_underlying hu, Builtin.lenOf, Builtin.firstCells, sizeOf, typeInfo, hq, hi, hm, hl, hst]
end
theorem VO.one {p : Bool} {w : World} {v : Value} {E : List El} {lo hi : Nat} (h : VO p w v E lo hi) : ∀ u ∈ flat E, u.oneCell' = true := by
 intro u hu
 obtain ⟨x, hx, hu⟩ := List.mem_flatMap.1 hu
 obtain ⟨a3, c3, b3, d3, e1, e2⟩ := (h.el x hx).form
 simp only [El.cs, e1, e2, List.mem_cons, List.not_mem_nil, or_false] at hu
 rcases hu with rfl | rfl | rfl <;> rfl
theorem VO.grown {p : Bool} {w w' : World} {v vr : Value} {E : List El} {lo hi B n : Nat} {xs : List Value} (h : VO p w v E lo hi) (hr : w.ownsRow B 42 1 vr n xs) (hg : w.grownBy w' vr.ownBlock) : VO p w' v E lo hi := by
 have ob : ∀ {y : Value} {L : List Int}, Obj w y L lo hi → Obj w' y L lo hi := fun {y L} ho =>
  ⟨Ints_block ho.ints fun k hk => hg.block k (Ints_lt ho.ints k hk).2 fun e => own_ne hr ho.ints (by decide) k e.symm hk, ho.high⟩
 exact ⟨own_block h.row fun k hk => hg.block k (h.lt k hk).2 fun e => own_ne hr h.row (by decide) k e.symm hk, h.high, fun x hx => ⟨ob (h.el x hx).a, ob (h.el x hx).d⟩, h.nd, h.ap⟩
structure MB (w : World) (v : Value) (g N c : Nat) (Es : List (List El)) (Z : List El) (lo hi : Nat) : Prop where
 row : w.ownsRow lo 42 1 v (Es.length + 1) (rowsV g c (Es.length + 1))
 high : ∀ k, v.ownBlock = some k → k < hi
 vo : VO true w (.slice (some ⟨g, 0, none⟩) N N) (Es.flatten ++ Z) lo hi
 len : ∀ E ∈ Es, E.length = c
theorem MB.cell {w : World} {G d g N c : Nat} {Es : List (List El)} {Z : List El} {lo hi : Nat} (h : MB w (.slice (some ⟨G, 0, none⟩) (Es.length + 1) d) g N c Es Z lo hi) : w.cell? ⟨G, Es.length, none⟩ = some (.slice (some ⟨g, Es.length * c * 3, none⟩) c c) := by
 have hc := h.row.cells (g := G) rfl _ _ (rowsV_at (k := Es.length) (by omega))
 rwa [Go.WideShapes.add_plain, Nat.zero_add] at hc
def Keeps (w w' : World) : Prop := ∀ (p : Bool) (v : Value) (E : List El) (lo hi : Nat), VO p w v E lo hi → VO p w' v E lo hi
section
variable {ops : Array Oper} {o : Oper} {a : Act} {W : World} {v : Value} {g N c : Nat} {Es : List (List El)} {Z : List El} {lo hi B : Nat}
theorem wpList_pushA {rest : List Oper} {Q : Exit → Act → World → Prop} (hgd : o.guard = none) (s1 x1 : Operand)
  (ho : o.op = .call { callee := .builtin .append, args := #[s1, x1], argTypes := #[24, 24] }) (hs : a.eval s1 = v) (hv : MA W v g N c Es Z lo hi) {q : Nat} (hq : q = Es.length * c * 3)
  (hx : a.eval x1 = .slice (some ⟨B, 0, none⟩) 1 1) (hB : W.heap[B]? = some (.cells #[.slice (some ⟨g, q, none⟩) c c] 42 (0, 0))) (hlen : Es.length ≤ 1048576) (hlw : lo ≤ W.heap.size) {n : Nat} (hn : n = Es.length + 1)
  (h : ∀ (G cap : Nat) (w' : World), MB w' (.slice (some ⟨G, 0, none⟩) (Es.length + 1) cap) g N c Es Z lo (max hi w'.heap.size) → Below lo W w' → W.heap.size ≤ w'.heap.size → Keeps W w' → G < w'.heap.size → wpList Tryz.prog ops Q rest (a.put o.dst (.slice (some ⟨G, 0, none⟩) n cap)) w') :
  wpList Tryz.prog ops Q (o :: rest) a W := by
 obtain ⟨i0, hi0, hz0, hz1, hz2⟩ := info_parts infoRow
 subst hq
 subst hn
 refine wpList_append_lies W hgd s1 x1 24 ho lo 42 i0 _ 1 24 Tryz.underlying24 hi0 hz0 hz1 hz2 rfl (by decide) v Es.length (rowsV g c Es.length) hs hv.row ⟨B, 0, none⟩ 1 1 [.slice (some ⟨g, Es.length * c * 3, none⟩) c c] hx rfl (World.news_of_block hB) ?_ (by decide) (by unfold maxLen; omega) (by omega) hlw W.heap.size rfl ?_
 ·intro u hu
  simp only [List.mem_cons, List.not_mem_nil, or_false] at hu
  rw [hu]; rfl
 ·intro G cap w' hrow hgr hat hlt
  refine h G cap w' ⟨?_, fun k hk => ?_, ?_, hv.len⟩ ((Below.refl lo W).grown hgr hlw fun k hk => (hv.row.lt k hk).1) hgr.size (fun p' v' E' l' h' hh => hh.grown hv.row hgr) hlt
  ·rw [rowsV_succ]; exact hrow
  ·have : k = G := by simpa [Value.ownBlock] using hk.symm
   omega
  ·exact (hv.vo.grown hv.row hgr).wide (Nat.le_refl _) (by omega)
end
theorem buildMat_pos {R C : Nat} (hR : R ≤ 40) (hC : C ≤ 40) (hC0 : ¬ C = 0) (fn : FuncId) (caps : Array Value) (F : Nat → List Fq) (w : World) (hcall : ∀ args W, (callFunc fn args).run Tryz.prog W = .ok (.enter fn args) W)
    (HF : ∀ i, i < R → ∀ W, Below w.heap.size w W → Calls Tryz.prog fn (#[.int .i64 (i : Int)] ++ caps) W (VecR true (F i) W)) :
    Calls Tryz.prog 115 #[.int .i64 (R : Int), .int .i64 (C : Int), .func (.func fn) #[] caps] w (MatG (bmF R C F) w) := by
  obtain ⟨N, hN⟩ : ∃ N, N = R * C := ⟨_, rfl⟩
  have hNb : N ≤ 1600 := by rw [hN]; exact Nat.le_trans (Nat.mul_le_mul hR hC) (by decide)
  have hmul : IntKind.i64.wrap ((R : Int) * (C : Int)) = (N : Int) := by rw [← Int.natCast_mul, ← hN]; exact IntWalk.i64_in _ (by omega)
  have hmk := fun W => run_make_rowk (P := Tryz.prog) 42 62 (.agg #[.bool false, .slice none 0 0, .slice none 0 0]) #[.bool false, .slice none 0 0, .slice none 0 0] 3 56 Tryz.underlying42 infoRat rfl .i64 .i64 N (by omega) (by omega) W
  have HM := hid (VO_made (w := w) N (by unfold maxLen; omega))
  have HA := hid (show Below w.heap.size w (w.alloc (.cells (madeCells #[.bool false, .slice none 0 0, .slice none 0 0] (N * 3)) 62)) from (Below.refl _ _).alloc (Nat.le_refl _) _)
  have HS := hid (show (w.alloc (.cells (madeCells #[.bool false, .slice none 0 0, .slice none 0 0] (N * 3)) 62)).heap.size = w.heap.size + 1 by simp)
  have HN := hid hN
  have HFh := hid HF
  have HCL := hid hcall
  have HI := hid (show (Tryz.prog.info? 62).map (·.size) = some 3 from by obtain ⟨i, hi, h0, h1, h2⟩ := info_parts infoRat; rw [hi]; simp [h1])
  clear hN HF hcall
  obtain ⟨RS, hRS⟩ : ∃ RS, RS = bmF R C F := ⟨_, rfl⟩
  rw [← hRS]
  have HRS := hid hRS
  clear hRS
  go_enter Tryz.func115, Tryz.ntmps115
  go_wp2
  clear hmk hmul
  generalize w.alloc (.cells (madeCells #[.bool false, .slice none 0 0, .slice none 0 0] (N * 3)) 62) = w1 at HM HA HS ⊢
  obtain ⟨g, hg⟩ : ∃ g, g = w.heap.size := ⟨_, rfl⟩
  have HG := hid hg
  rw [← hg] at HM HA HS
  rw [← hg]
  clear hg
  go_loopw [8, 18] (fun v i wr => ∃ (k : Nat) (a : Option Addr) (c' : Nat) (Es : List (List El)), k ≤ R ∧ i = .int .i64 k ∧ v = .slice a k c' ∧ Hid (Es.map keys = (List.range k).map F) ∧ Hid (MA wr (.slice a k c') g N C Es (List.replicate (N - k * C) El0) g wr.heap.size) ∧ Hid (∀ i, i < k → (F i).length = C) ∧ Below g w wr ∧ g < wr.heap.size) (fun _ i _ => R - (intOf i).toNat)
  case atStart => exact ⟨0, none, 0, [], Nat.zero_le _, rfl, rfl, hid rfl, hid ⟨World.ownsRow_nil _ _ _ _, fun k hk => by simp [Value.ownBlock] at hk, by simpa using HM.out.wide (Nat.le_refl _) (by rw [HS.out]; exact Nat.le_refl _), fun E hE => by cases hE⟩, hid (fun i hi => absurd hi (by omega)), HA.out, by rw [HS.out]; omega⟩
  case round =>
    obtain ⟨k, a, c', Es, hk, rfl, rfl, hK, hA, hF, hbel, hgl⟩ := hrel
    have HB := hid hbel
    have HGL := hid hgl
    clear hbel hgl
    by_cases hlt : k < R
    · have KF := hid (HFh.out k hlt wr (HB.out.mono (by rw [HG.out]; exact Nat.le_refl _)))
      have a1' : (0 : Int) ≤ k := by omega
      have a2 : (k : Int) < R := by omega
      by_cases hFC : (F k).length = C
      · have HFC := hid hFC
        clear hFC
        have hkC := hid (show k * C + C ≤ N by have := HN.out; have h1 : (k + 1) * C ≤ R * C := Nat.mul_le_mul_right C hlt; rw [Nat.add_mul, Nat.one_mul] at h1; omega)
        obtain ⟨f, hf⟩ : ∃ f, f = k * C := ⟨_, rfl⟩
        rw [← hf] at hkC
        have HFf := hid hf
        have hm1 : IntKind.i64.wrap ((k : Int) * (C : Int)) = (f : Int) := by rw [← Int.natCast_mul, ← hf]; have := hkC.out; exact IntWalk.i64_in _ (by omega)
        have hm2 : IntKind.i64.wrap (((k : Int) + 1) * (C : Int)) = ((f + C : Nat) : Int) := by
          have e : ((k : Int) + 1) * (C : Int) = ((f + C : Nat) : Int) := by rw [Int.add_mul, ← Int.natCast_mul, ← hf, Int.one_mul]; omega
          rw [e]
          have := hkC.out
          exact IntWalk.i64_in _ (by omega)
        have hb1 : (f : Int) ≤ ((f + C : Nat) : Int) := by omega
        have hb2 : ((f + C : Nat) : Int) ≤ (N : Int) := by have := hkC.out; omega
        clear hf
        go_wp2_with fail
        rw [HCL.out, Oper.upon_enter]
        (with_reducible refine (KF.out).mono ?_)
        rintro e w2 ⟨a5, n5, c5, rfl, hv, hb⟩
        obtain rfl : C = n5 := (hv.num.trans HFC.out).symm
        have HV := hid hv
        have HB2 := hid (HB.out.trans (hb.mono (Nat.le_of_lt HGL.out)))
        have HA2 := hid (hA.out.old hb)
        have hgz2 : g < w2.heap.size := Nat.lt_of_lt_of_le HGL.out hb.size
        have hz2 := hb.size
        clear hv hb
        have HEs := hid (show Es.length = k by have := congrArg List.length hK.out; simpa using this)
        have PB := hid (heap_alloc_new w2 (.cells #[.slice (some ⟨g, f * 3, none⟩) C C] 42))
        have PA := hid (HA2.out.old (below_new' (o := .cells #[.slice (some ⟨g, f * 3, none⟩) C C] 42)))
        have hz1 : ¬ f + C = f := by omega
        go_wp2_with (at_builtin; refine wpList_pushA rfl _ _ rfl rfl PA.out (q := f * 3) (by rw [HEs.out, HFf.out]) rfl PB.out (by rw [HEs.out]; omega) (by simp; omega) (n := k + 1) (by rw [HEs.out]) ?_)
        intro G cap wp hmb hbp hszp hkeep hGl
        have HX := hid hmb.cell
        rw [HEs.out] at HX
        have HROW := hid hmb.row
        rw [HEs.out] at HROW
        have HLEN := hid hmb.len
        have HBP := hid ((HB2.out.alloc (show g ≤ w2.heap.size by omega) (.cells #[.slice (some ⟨g, f * 3, none⟩) C C] 42)).trans hbp)
        have HWP := hid (show w2.heap.size < wp.heap.size by first | omega | (simp at hszp; omega))
        obtain ⟨E5, hE5, hk5⟩ := HV.out
        have HY := hid (hkeep _ _ _ _ _ (hE5.old (below_new' (o := .cells #[.slice (some ⟨g, f * 3, none⟩) C C] 42))))
        have HVO := hid (hkeep _ _ _ _ _ PA.out.vo)
        have hl5 : E5.length = C := by rw [← keys_len, hk5]; exact HFC.out
        obtain ⟨g5, rfl, -, -, -, hg5⟩ := hE5.pos (by omega)
        obtain ⟨cur, hcur, hcs, -⟩ := HVO.out.block_of
        have hPl := take_len' (c := C) (Es := Es) (k := Es.length) HLEN.out (Nat.le_refl _)
        rw [List.take_length, HEs.out, ← HFf.out] at hPl
        have hkc := hkC.out
        have hkf := HFf.out
        have hzz : List.replicate (N - k * C) El0 = List.replicate C El0 ++ List.replicate (N - (k + 1) * C) El0 := by
          rw [List.replicate_append_replicate, Nat.add_mul, Nat.one_mul, ← hkf]
          congr 1
          omega
        have hcp := run_copy_rk (P := Tryz.prog) wp 42 42 3 62 g (f * 3) C C ⟨g5, 0, none⟩ C c5 cur 62 (flat E5) 3 C Tryz.underlying42 HI.out hcur (Nat.min_self C)
          (by rw [flat_len, hl5]) (fun j v hj => HY.out.row.cells rfl j v hj) (by
            rw [flat_len, hl5]
            rw [List.length_append, hPl, List.length_replicate] at hcs
            omega) HY.out.one
        obtain ⟨W2, hW2⟩ : ∃ W2, W2 = wp.setRow g (cur.toList.take (f * 3) ++ flat E5 ++ cur.toList.drop (f * 3 + (flat E5).length)).toArray := ⟨_, rfl⟩
        rw [← hW2] at hcp
        have hsW : W2.heap.size = wp.heap.size := by rw [hW2]; simp
        have hoth : ∀ j, j ≠ g → W2.heap[j]? = wp.heap[j]? := fun j hj => by rw [hW2]; exact setRow_other _ _ _ _ hj
        have hvo2 := HVO.out
        rw [hzz, ← List.append_assoc] at hvo2
        have hcopy := VO.copy (w' := W2) hvo2 HY.out (by rw [hl5, List.length_replicate]) (Nat.le_refl _) (Nat.le_of_lt HGL.out) hz2 hcur (by rw [hPl, hW2]; exact setRow_heap _ _ _ _ _ _ hcur) hoth
        have HMA := hid (show MA W2 (.slice (some ⟨G, 0, none⟩) (k + 1) cap) g N C (Es ++ [E5]) (List.replicate (N - (k + 1) * C) El0) g W2.heap.size from
          ⟨by
            rw [List.length_append, HEs.out]
            exact own_block HROW.out fun j hj => hoth j fun e => own_ne HROW.out HVO.out.row (by decide) j hj (by rw [e]; rfl),
           fun j hj => by
            have : j = G := by simpa [Value.ownBlock] using hj.symm
            omega,
           by
            rw [List.flatten_append, List.flatten_cons, List.flatten_nil, List.append_nil]
            exact hcopy.wide (Nat.le_refl _) (by have := HWP.out; omega),
           fun E hE => by
            rcases List.mem_append.1 hE with hE | hE
            · exact HLEN.out E hE
            · rw [List.mem_singleton.1 hE]; exact hl5⟩)
        have HKK := hid (show (Es ++ [E5]).map keys = (List.range (k + 1)).map F by rw [List.map_append, hK.out, List.range_succ, List.map_append, List.map_cons, List.map_nil, List.map_cons, List.map_nil, hk5])
        have HB3 := hid (show Below g w W2 by rw [hW2]; exact below_setRow HBP.out (Nat.le_refl _) _)
        have hgi : goInt C = .int .i64 (C : Int) := rfl
        rw [hgi] at hcp
        have hgW : g < W2.heap.size := by have := HWP.out; omega
        have q0 := HX.out
        rw [← hkf] at q0
        have HGW := hid hgW
        clear hE5 hmb hbp hszp hkeep hW2 hgi hcopy hvo2 hoth hzz hPl hkc hcs hcur hl5 hsW hkf hgW hk5
        go_wp2
        go_roundw
        case rel => exact ⟨k + 1, some ⟨G, 0, none⟩, cap, Es ++ [E5], by omega, by go_num, rfl, HKK, HMA, hid (fun i hi => by
          rcases Nat.lt_or_eq_of_le (Nat.le_of_lt_succ hi) with hi' | rfl
          · exact hF.out i hi'
          · exact HFC.out), HB3.out, HGW.out⟩
        case measure => simp [intOf]; omega
      · have HFC := hid hFC
        go_wp2_with fail
        rw [HCL.out, Oper.upon_enter]
        (with_reducible refine (KF.out).mono ?_)
        rintro e w2 ⟨a5, n5, c5, rfl, hv, hb⟩
        obtain rfl := hv.num
        obtain ⟨e1, e2⟩ := ne_facts hFC
        have R0 := hid (show MatG RS w (.returned (.slice none 0 0)) w2 from by
          rw [HRS.out, bmF_no hlt HFC.out]
          exact MatG_nil _ (by rw [← HG.out]; exact HB.out.trans (hb.mono (Nat.le_of_lt HGL.out))))
        clear hv hb hFC
        go_wp2
        go_ret
        exact R0.out
    · obtain rfl : k = R := by omega
      have R0 := hid (show MatG RS w (.returned (.slice a k c')) wr from by
        refine ⟨a, k, c', rfl, .inr ⟨g, N, C, Es, _, by rw [← HG.out]; exact hA.out, ?_⟩, by rw [← HG.out]; exact HB.out⟩
        rw [HRS.out, bmF_yes hF.out, hK.out])
      go_wp2
      go_ret
      exact R0.out
theorem buildMat_zero {R : Nat} (hR : R ≤ 40) (fn : FuncId) (caps : Array Value) (F : Nat → List Fq) (w : World) (hcall : ∀ args W, (callFunc fn args).run Tryz.prog W = .ok (.enter fn args) W)
    (HF : ∀ i, i < R → ∀ W, Below w.heap.size w W → Calls Tryz.prog fn (#[.int .i64 (i : Int)] ++ caps) W (VecR true (F i) W)) :
    Calls Tryz.prog 115 #[.int .i64 (R : Int), .int .i64 0, .func (.func fn) #[] caps] w (MatG (bmF R 0 F) w) := by
  have hmk := fun W => run_make_rowk (P := Tryz.prog) 42 62 (.agg #[.bool false, .slice none 0 0, .slice none 0 0]) #[.bool false, .slice none 0 0, .slice none 0 0] 3 56 Tryz.underlying42 infoRat rfl .i64 .i64 0 (by omega) (by omega) W
  simp only [Int.natCast_zero, Nat.zero_mul] at hmk
  have HM := hid (VO_made (w := w) 0 (by unfold maxLen; omega))
  have HA := hid (show Below w.heap.size w (w.alloc (.cells (madeCells #[.bool false, .slice none 0 0, .slice none 0 0] 0) 62)) from (Below.refl _ _).alloc (Nat.le_refl _) _)
  have HS := hid (show (w.alloc (.cells (madeCells #[.bool false, .slice none 0 0, .slice none 0 0] 0) 62)).heap.size = w.heap.size + 1 by simp)
  have HFh := hid HF
  have HCL := hid hcall
  have HI := hid (show (Tryz.prog.info? 62).map (·.size) = some 3 from by obtain ⟨i, hi, h0, h1, h2⟩ := info_parts infoRat; rw [hi]; simp [h1])
  clear HF hcall
  obtain ⟨RS, hRS⟩ : ∃ RS, RS = bmF R 0 F := ⟨_, rfl⟩
  rw [← hRS]
  have HRS := hid hRS
  clear hRS
  go_enter Tryz.func115, Tryz.ntmps115
  go_wp2
  clear hmk
  generalize w.alloc (.cells (madeCells #[.bool false, .slice none 0 0, .slice none 0 0] 0) 62) = w1 at HM HA HS ⊢
  obtain ⟨g, hg⟩ : ∃ g, g = w.heap.size := ⟨_, rfl⟩
  have HG := hid hg
  rw [← hg] at HM HA HS
  rw [← hg]
  clear hg
  go_loopw [8, 18] (fun v i wr => ∃ (k : Nat) (a : Option Addr) (c' : Nat) (Es : List (List El)), k ≤ R ∧ i = .int .i64 k ∧ v = .slice a k c' ∧ Hid (Es.map keys = (List.range k).map F) ∧ Hid (MA wr (.slice a k c') g 0 0 Es (([] : List El)) g wr.heap.size) ∧ Hid (∀ i, i < k → (F i).length = 0) ∧ Below g w wr ∧ g < wr.heap.size) (fun _ i _ => R - (intOf i).toNat)
  case atStart => exact ⟨0, none, 0, [], Nat.zero_le _, rfl, rfl, hid rfl, hid ⟨World.ownsRow_nil _ _ _ _, fun k hk => by simp [Value.ownBlock] at hk, HM.out.wide (Nat.le_refl _) (by rw [HS.out]; exact Nat.le_refl _), fun E hE => by cases hE⟩, hid (fun i hi => absurd hi (by omega)), HA.out, by rw [HS.out]; omega⟩
  case round =>
    obtain ⟨k, a, c', Es, hk, rfl, rfl, hK, hA, hF, hbel, hgl⟩ := hrel
    have HB := hid hbel
    have HGL := hid hgl
    clear hbel hgl
    by_cases hlt : k < R
    · have KF := hid (HFh.out k hlt wr (HB.out.mono (by rw [HG.out]; exact Nat.le_refl _)))
      have a1' : (0 : Int) ≤ k := by omega
      have a2 : (k : Int) < R := by omega
      by_cases hFC : (F k).length = 0
      · have HFC := hid hFC
        clear hFC
        go_wp2_with fail
        rw [HCL.out, Oper.upon_enter]
        (with_reducible refine (KF.out).mono ?_)
        rintro e w2 ⟨a5, n5, c5, rfl, hv, hb⟩
        obtain rfl : n5 = 0 := hv.num.trans HFC.out
        have HV := hid hv
        have HB2 := hid (HB.out.trans (hb.mono (Nat.le_of_lt HGL.out)))
        have HA2 := hid (hA.out.old hb)
        have hgz2 : g < w2.heap.size := Nat.lt_of_lt_of_le HGL.out hb.size
        have hz2 := hb.size
        clear hv hb
        have HEs := hid (show Es.length = k by have := congrArg List.length hK.out; simpa using this)
        have PB := hid (heap_alloc_new w2 (.cells #[.slice (some ⟨g, 0, none⟩) 0 0] 42))
        have PA := hid (HA2.out.old (below_new' (o := .cells #[.slice (some ⟨g, 0, none⟩) 0 0] 42)))
        go_wp2_with (at_builtin; refine wpList_pushA rfl _ _ rfl rfl PA.out (q := 0) (by simp) rfl PB.out (by rw [HEs.out]; omega) (by simp; omega) (n := k + 1) (by rw [HEs.out]) ?_)
        intro G cap wp hmb hbp hszp hkeep hGl
        have HX := hid hmb.cell
        rw [HEs.out] at HX
        have HROW := hid hmb.row
        rw [HEs.out] at HROW
        have HLEN := hid hmb.len
        have HBP := hid ((HB2.out.alloc (show g ≤ w2.heap.size by omega) (.cells #[.slice (some ⟨g, 0, none⟩) 0 0] 42)).trans hbp)
        have HWP := hid (show w2.heap.size < wp.heap.size by first | omega | (simp at hszp; omega))
        obtain ⟨E5, hE5, hk5⟩ := HV.out
        have HVO := hid (hkeep _ _ _ _ _ PA.out.vo)
        have hl5 : E5.length = 0 := by rw [← keys_len, hk5]; exact HFC.out
        have hE0 : E5 = [] := List.eq_nil_of_length_eq_zero hl5
        have hcp := run_copy_no (P := Tryz.prog) wp 42 42 3 62 (some ⟨g, 0, none⟩) a5 0 0 0 c5 3 Tryz.underlying42 HI.out rfl
        have HMA := hid (show MA wp (.slice (some ⟨G, 0, none⟩) (k + 1) cap) g 0 0 (Es ++ [E5]) (([] : List El)) g wp.heap.size from
          ⟨by
            rw [List.length_append, HEs.out]
            exact HROW.out,
           fun j hj => by
            have : j = G := by simpa [Value.ownBlock] using hj.symm
            omega,
           by
            rw [List.flatten_append, List.flatten_cons, List.flatten_nil, List.append_nil, hE0, List.append_nil]
            have := HVO.out
            exact this.wide (Nat.le_refl _) (by have := HWP.out; omega),
           fun E hE => by
            rcases List.mem_append.1 hE with hE | hE
            · exact HLEN.out E hE
            · rw [List.mem_singleton.1 hE]; exact hl5⟩)
        have HKK := hid (show (Es ++ [E5]).map keys = (List.range (k + 1)).map F by rw [List.map_append, hK.out, List.range_succ, List.map_append, List.map_cons, List.map_nil, List.map_cons, List.map_nil, hk5])
        have HB3 := HBP
        have hgi : goInt 0 = .int .i64 0 := rfl
        rw [hgi] at hcp
        have HGW := hid (show g < wp.heap.size by have := HWP.out; omega)
        have q0 := HX.out
        simp only [Nat.mul_zero, Nat.zero_mul] at q0
        clear hE5 hmb hbp hszp hkeep hgi hl5 hE0 hk5
        go_wp2
        go_roundw
        case rel => exact ⟨k + 1, some ⟨G, 0, none⟩, cap, Es ++ [E5], by omega, by go_num, rfl, HKK, HMA, hid (fun i hi => by
          rcases Nat.lt_or_eq_of_le (Nat.le_of_lt_succ hi) with hi' | rfl
          · exact hF.out i hi'
          · exact HFC.out), HB3.out, HGW.out⟩
        case measure => simp [intOf]; omega
      · have HFC := hid hFC
        go_wp2_with fail
        rw [HCL.out, Oper.upon_enter]
        (with_reducible refine (KF.out).mono ?_)
        rintro e w2 ⟨a5, n5, c5, rfl, hv, hb⟩
        obtain rfl := hv.num
        obtain ⟨e1, e2⟩ := ne_facts hFC
        have R0 := hid (show MatG RS w (.returned (.slice none 0 0)) w2 from by
          rw [HRS.out, bmF_no hlt HFC.out]
          exact MatG_nil _ (by rw [← HG.out]; exact HB.out.trans (hb.mono (Nat.le_of_lt HGL.out))))
        clear hv hb hFC
        go_wp2
        go_ret
        exact R0.out
    · obtain rfl : k = R := by omega
      have R0 := hid (show MatG RS w (.returned (.slice a k c')) wr from by
        refine ⟨a, k, c', rfl, .inr ⟨g, 0, 0, Es, _, by rw [← HG.out]; exact hA.out, ?_⟩, by rw [← HG.out]; exact HB.out⟩
        rw [HRS.out, bmF_yes hF.out, hK.out])
      go_wp2
      go_ret
      exact R0.out
theorem buildMat_any {R C : Nat} (hR : R ≤ 40) (hC : C ≤ 40) (fn : FuncId) (caps : Array Value) (F : Nat → List Fq) (w : World) (hcall : ∀ args W, (callFunc fn args).run Tryz.prog W = .ok (.enter fn args) W)
  (HF : ∀ i, i < R → ∀ W, Below w.heap.size w W → Calls Tryz.prog fn (#[.int .i64 (i : Int)] ++ caps) W (VecR true (F i) W)) :
  Calls Tryz.prog 115 #[.int .i64 (R : Int), .int .i64 (C : Int), .func (.func fn) #[] caps] w (MatG (bmF R C F) w) := by
 by_cases h : C = 0
 ·subst h
  exact buildMat_zero hR fn caps F w hcall HF
 ·exact buildMat_pos hR hC h fn caps F w hcall HF
end Go.Proofs.YtjjainnafihkdaaGreat
