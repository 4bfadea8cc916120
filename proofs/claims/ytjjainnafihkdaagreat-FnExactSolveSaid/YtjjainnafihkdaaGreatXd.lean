import Derived.Test.YtjjainnafihkdaaGreatTcl
import Derived.Test.YtjjainnafihkdaaGreatXw
import Derived.Deep.RegionHeld3
import Derived.Deep.DeepCutAuto
import Derived.Test.YtjjainnafihkdaaGreatXc
import Derived.Test.YtjjainnafihkdaaGreatVw
set_option maxRecDepth 100000
set_option maxHeartbeats 6400000
set_option linter.unusedVariables false
namespace Go.Proofs.YtjjainnafihkdaaGreat
open Go.RowKit
open Go.Lib (hid)
theorem VK.snocF {p : Bool} {w w1 : World} {v v' x y : Value} {K : List Fq} {s : Bool} {A D : List Int} {lo hi lo' n : Nat} (h : VK p w v K lo hi) (hr : RF p w lo' x y A D) (hh : hi ≤ lo') (hl : lo ≤ lo') {xs : List Value}
  (hx : ∃ E, VO p w v E lo hi ∧ keys E = K ∧ xs = flat E) (hrow : w1.ownsRow lo 62 3 v' n (xs ++ [.bool s, x, y])) (hn : n = K.length + 1) (hg : w.grownBy w1 v.ownBlock) : VK p w1 v' (K ++ [⟨s, A, D⟩]) lo w1.heap.size := by
 obtain ⟨E, hE, rfl, rfl⟩ := hx
 rw [keys_len] at hn
 subst hn
 have hro : ROw w x y A D lo' w.heap.size := ⟨⟨hr.i, fun k hk => (Ints_lt hr.i k hk).2⟩, ⟨hr.j, fun k hk => (Ints_lt hr.j k hk).2⟩⟩
 exact ⟨E ++ [⟨⟨s, A, D⟩, x, y⟩], hE.snoc (e := ⟨⟨s, A, D⟩, x, y⟩) ⟨hro.a.wide hl (.inr (Nat.le_refl _)), hro.d.wide hl (.inr (Nat.le_refl _))⟩ (fun hp => hr.nd hp) (fun hp => hE.apt (e := ⟨⟨s, A, D⟩, x, y⟩) hro hh) hrow hg, by rw [keys_append]; rfl⟩
section
variable {ops : Array Oper} {o : Oper} {a : Act} {p : Bool} {W : World} {v x y : Value} {Ks : List Fq} {lo hi lo' B : Nat} {sg : Bool} {A D : List Int}
theorem wpList_pushF {rest : List Oper} {Q : Exit → Act → World → Prop} (hgd : o.guard = none) (s1 x1 : Operand)
  (ho : o.op = .call { callee := .builtin .append, args := #[s1, x1], argTypes := #[42, 42] }) (hs : a.eval s1 = v) (hv : VK p W v Ks lo hi) (hh : hi ≤ lo') (hl : lo ≤ lo') (hr : RF p W lo' x y A D)
  (hx : a.eval x1 = .slice (some ⟨B, 0, none⟩) 1 1) (hB : W.heap[B]? = some (.cells #[.bool sg, x, y] 62 (0, 0))) (hlen : Ks.length ≤ 1048576) (hlw : lo ≤ W.heap.size) {n : Nat} (hnn : n = Ks.length + 1)
  (h : ∀ (g cap : Nat) (w' : World), VK p w' (.slice (some ⟨g, 0, none⟩) n cap) (Ks ++ [⟨sg, A, D⟩]) lo w'.heap.size → Below lo W w' → wpList Tryz.prog ops Q rest (a.put o.dst (.slice (some ⟨g, 0, none⟩) n cap)) w') :
  wpList Tryz.prog ops Q (o :: rest) a W := by
 subst hnn
 obtain ⟨i0, hi0, hz0, hz1, hz2⟩ := info_parts infoRat
 obtain ⟨E, hE, hk⟩ := hv
 have hlk : E.length = Ks.length := by rw [← hk, keys_len]
 refine wpList_append_lies W hgd s1 x1 42 ho lo 62 i0 _ 3 56 Tryz.underlying42 hi0 hz0 hz1 hz2 rfl (by decide) v Ks.length (flat E) hs (hlk ▸ hE.row) ⟨B, 0, none⟩ 1 1 [.bool sg, x, y] hx rfl (World.news_of_block hB) ?_ (by decide) (by unfold maxLen; omega) (by omega) hlw W.heap.size rfl ?_
 ·obtain ⟨a1, c1, rfl, -⟩ := Ints_form hr.i
  obtain ⟨a2, c2, rfl, -⟩ := Ints_form hr.j
  intro u hu
  simp only [List.mem_cons, List.not_mem_nil, or_false] at hu
  rcases hu with rfl | rfl | rfl <;> rfl
 ·intro g cap w' hrow hgr _ hlt
  have hvk : VK p W v Ks lo hi := ⟨E, hE, hk⟩
  exact h g cap w' (hvk.snocF hr hh hl ⟨E, hE, hk, rfl⟩ hrow rfl hgr) ((Below.refl lo W).grown hgr hlw fun k hk => (hE.lt k hk).1)
end
end Go.Proofs.YtjjainnafihkdaaGreat

namespace Go.Proofs.YtjjainnafihkdaaGreat
open Go.RowKit
open Go.Lib (hid)
theorem addr_in {g o g' o' : Nat} (h : some (⟨g, o, none⟩ : Addr) = some ⟨g', o', none⟩) : g = g' ∧ o = o' := by
 simpa only [Option.some.injEq, Addr.mk.injEq, and_true] using h
theorem impl_MatOk {a : Option Addr} {n c : Nat} {M : List (List Fq)} {lo hi : Nat} (hM : Sm2 M) (w : World) (h : MW w a n M lo hi) :
  Calls Tryz.prog 114 #[.slice a n c] w (RetB (.bool (matOk M)) w) := by
 have HV := hid h
 obtain rfl := h.num
 clear h
 have hkl := hM.2
 by_cases hL : 40 < M.length
 ·rw [matOk_long hL]
  go_enter Tryz.func114, Tryz.ntmps114
  go_wp2
  go_ret
  exact ⟨rfl, Below.refl _ _⟩
 obtain ⟨B0, hB0⟩ : ∃ B, B = matOk M := ⟨_, rfl⟩
 rw [← hB0]
 have HB0 := hid hB0
 clear hB0
 go_enter Tryz.func114, Tryz.ntmps114
 go_wp2
 go_loopw [10] (fun i wr => ∃ k : Nat, k ≤ M.length ∧ i = .int .i64 k ∧ Hid (∀ j (h : j < M.length), j < k → M[j].length = matW M ∧ oks (vals M[j]) = true) ∧ Below w.heap.size w wr) (fun i _ => M.length - (intOf i).toNat)
 case atStart => exact ⟨0, Nat.zero_le _, rfl, hid (fun j h hj => absurd hj (by omega)), Below.refl _ _⟩
 case round =>
  obtain ⟨k, hk, rfl, hA, hbel⟩ := hrel
  by_cases hlt : k < M.length
  ·obtain ⟨g, o, b, d, rfl, hg, q0, V⟩ := (HV.out.old hbel).at hlt
   obtain ⟨g', o', b', d', e, -, q1, -⟩ := (HV.out.old hbel).at (k := 0) (by omega)
   obtain ⟨rfl, rfl⟩ := addr_in e
   rw [Nat.add_zero, ← matW_at (by omega)] at q1
   have hSK := hM.at hlt
   obtain ⟨K, hKK⟩ : ∃ K, M[k]'(hlt) = K := ⟨_, rfl⟩
   rw [hKK] at q0 V hSK
   have HK := hid hKK
   obtain ⟨W, hW⟩ : ∃ W, matW M = W := ⟨_, rfl⟩
   rw [hW] at q1
   have HW := hid hW
   have KO := hid (impl_VecOk_w (c := d) hSK wr V)
   have HB := hid hbel
   have a1' : (0 : Int) ≤ k := by omega
   have a2 : (k : Int) < M.length := by omega
   have a3 : (0 : Int) < M.length := by omega
   clear hbel hKK hW V e
   by_cases hLK : K.length = W
   ·have HLK := hid (show (M[k]'(hlt)).length = matW M by rw [HK.out, HW.out, hLK])
    subst hLK
    obtain ⟨ob, hob⟩ : ∃ ob, oks (vals K) = ob := ⟨_, rfl⟩
    have HOB := hid (show oks (vals (M[k]'(hlt))) = ob by rw [HK.out, hob])
    rw [hob] at KO
    clear hob
    cases ob with
    |false =>
     go_wp2_with fail
     (with_reducible refine (KO.out).mono ?_)
     rintro e w2 ⟨rfl, hb⟩
     have HB := hid (HB.out.trans (hb.mono HB.out.size))
     clear hb q0 q1
     go_wp2
     go_ret
     exact ⟨bool_ret (by rw [HB0.out, matOk_no hlt HOB.out]), HB.out⟩
    |true =>
     go_wp2_with fail
     (with_reducible refine (KO.out).mono ?_)
     rintro e w2 ⟨rfl, hb⟩
     have HB := hid (HB.out.trans (hb.mono HB.out.size))
     clear hb q0 q1
     go_wp2
     go_roundw
     case rel => exact ⟨k + 1, by omega, by go_num, hid (fun j h hj => by
      rcases Nat.lt_or_eq_of_le (Nat.le_of_lt_succ hj) with hj' | rfl
      ·exact hA.out j h hj'
      ·exact ⟨HLK.out, HOB.out⟩), HB.out⟩
     case measure => simp [intOf]; omega
   ·obtain ⟨e1, e2⟩ := ne_facts hLK
    have HLK := hid (show (M[k]'(hlt)).length ≠ matW M by rw [HK.out, HW.out]; exact hLK)
    clear hLK
    go_wp2
    go_ret
    exact ⟨bool_ret (by rw [HB0.out, matOk_len hlt HLK.out]), HB.out⟩
  ·have HB := hid hbel
   clear hbel
   go_wp2
   go_ret
   exact ⟨bool_ret (by rw [HB0.out, matOk_yes (by omega) (fun j h => hA.out j h (by omega))]), HB.out⟩
theorem impl_matWidth {a : Option Addr} {n c : Nat} {M : List (List Fq)} {lo hi : Nat} (hM : Sm2 M) (w : World) (h : MW w a n M lo hi) :
  Calls Tryz.prog 109 #[.slice a n c] w (fun e w' => e = .returned (.int .i64 (matW M)) ∧ w = w') := by
 have HV := hid h
 obtain rfl := h.num
 clear h
 have hkl := hM.2
 by_cases h0 : M.length = 0
 ·rw [matW_nil h0, h0]
  go_enter Tryz.func109, Tryz.ntmps109
  go_wp2
  go_ret
  exact ⟨rfl, rfl⟩
 ·obtain ⟨g, o, b, d, rfl, hg, q0, -⟩ := HV.out.at (k := 0) (by omega)
  rw [Nat.add_zero, ← matW_at (by omega)] at q0
  obtain ⟨W, hW⟩ : ∃ W, matW M = W := ⟨_, rfl⟩
  rw [hW] at q0 ⊢
  have e0 : ((M.length : Int) == 0) = false := beq_eq_false_iff_ne.2 (by omega)
  have a3 : (0 : Int) < M.length := by omega
  clear hW h0
  go_enter Tryz.func109, Tryz.ntmps109
  go_wp2
  go_ret
  exact ⟨rfl, rfl⟩
end Go.Proofs.YtjjainnafihkdaaGreat

namespace Go.Proofs.YtjjainnafihkdaaGreat
open Go.RowKit
open Go.Lib (hid)
theorem enter_of {P : Program} {f : FuncId} {fn : Func} {c : Code} (hf : P.funcs[f]? = some fn) (hname : (fn.name == "runtime.NumGoroutine") = false) (hb : fn.body = some c) (args : Array Value) (w : World) :
  (callFunc f args).run P w = .ok (.enter f args) w := by
 have h1 : fn.name ≠ "runtime.NumGoroutine" := by simpa using hname
 simp [callFunc, hf, h1, hb]
theorem dim_yes (n : Int) (h0 : 0 ≤ n) (h1 : n ≤ 40) (w : World) : Calls Tryz.prog 146 #[.int .i64 n] w fun e w' => e = .returned (.bool true) ∧ w = w' := by
 go_enter Tryz.func146, Tryz.ntmps146
 go_wp2
 go_ret
 exact ⟨rfl, rfl⟩
theorem dim_no (n : Int) (h : n < 0 ∨ 40 < n) (w : World) : Calls Tryz.prog 146 #[.int .i64 n] w fun e w' => e = .returned (.bool false) ∧ w = w' := by
 rcases h with h | h
 ·have h2 : ¬ 0 ≤ n := by omega
  go_enter Tryz.func146, Tryz.ntmps146
  go_wp2
  go_ret
  exact ⟨rfl, rfl⟩
 ·have h2 : 0 ≤ n := by omega
  have h3 : ¬ n ≤ 40 := by omega
  go_enter Tryz.func146, Tryz.ntmps146
  go_wp2
  go_ret
  exact ⟨rfl, rfl⟩
theorem zeroK_len' {N : Nat} (h : N ≤ 40) : (zeroK (N : Int)).length = N := by rw [zeroK_yes h, List.length_replicate]
theorem unit_row {B C : Nat} {i : Nat} (W : World) (hB : W.cell? ⟨B, 0, none⟩ = some (.int .i64 (C : Int))) (hC : C ≤ 40) (hi : i < C) :
  Calls Tryz.prog 147 #[.int .i64 (i : Int), .pointer (some ⟨B, 0, none⟩)] W (VecR true (unitK C i) W) := by
 have KE := hid (impl_VecUnit (C : Int) (i : Int) (by omega) (by omega) (by omega) (by omega) W)
 go_enter Tryz.func147, Tryz.ntmps147
 go_wp2_with fail
 (with_reducible refine (KE.out).mono ?_)
 rintro e w2 ⟨a5, n5, c5, rfl, hv, hb⟩
 have R := hid (show VecR true (unitK C i) W (.returned (.slice a5 n5 c5)) w2 from ⟨_, _, _, rfl, hv, hb⟩)
 clear hv hb
 go_wp2
 go_ret
 exact R.out
theorem unitK_len' {N i : Nat} (h : N ≤ 40) (hi : i < N) : (unitK (N : Int) (i : Int)).length = N := by
 unfold unitK
 rw [if_pos ⟨by omega, by rw [zeroK_len' h]; omega⟩, List.length_set, zeroK_len' h]
theorem bmF_unit {N : Nat} (h : N ≤ 40) : bmF N N (fun (i : Nat) => unitK (N : Int) (i : Int)) = matI N := by
 rw [bmF_yes fun i hi => unitK_len' h hi, matI_yes h]
theorem impl_MatIdentity (n : Int) (n0 : -9223372036854775808 ≤ n) (n1 : n ≤ 9223372036854775807) (w : World) :
  Calls Tryz.prog 62 #[.int .i64 n] w (MatG (matI n) w) := by
 have BW := hid (below_new' (w := w) (o := .cells #[.int .i64 n] 3))
 have HBc := hid (show (w.alloc (.cells #[.int .i64 n] 3)).cell? ⟨w.heap.size, 0, none⟩ = some (.int .i64 n) by simp)
 have HS := hid (show (w.alloc (.cells #[.int .i64 n] 3)).heap.size = w.heap.size + 1 by simp)
 have q0 := HBc.out
 by_cases hr : n < 0 ∨ 40 < n
 ·rw [matI_no hr]
  have KD := hid (fun W => dim_no n hr W)
  have R := hid (MatG_nil w BW.out)
  clear hr
  go_enter Tryz.func62, Tryz.ntmps62
  go_wp2_with fail
  (with_reducible refine (KD.out _).mono ?_)
  rintro e w2 ⟨rfl, rfl⟩
  go_wp2
  go_ret
  exact R.out
 ·obtain ⟨N, rfl⟩ : ∃ N : Nat, n = N := ⟨n.toNat, by omega⟩
  have hN : N ≤ 40 := by omega
  have KD := hid (fun W => dim_yes (N : Int) (by omega) (by omega) W)
  have HZ := hid (bmF_unit hN)
  have KB := hid (buildMat_any hN hN 147 #[.pointer (some ⟨w.heap.size, 0, none⟩)] (fun (i : Nat) => unitK (N : Int) (i : Int)) (w.alloc (.cells #[.int .i64 (N : Int)] 3)) (fun args W => enter_of Tryz.func147 (by kernel_rfl) rfl args W)
   (fun i hi W hb => unit_row W ((hb.cell (p := ⟨w.heap.size, 0, none⟩) (by rw [HS.out]; simp)).trans HBc.out) hN hi))
  rw [HZ.out] at KB
  clear hr
  go_enter Tryz.func62, Tryz.ntmps62
  go_wp2_with fail
  (with_reducible refine (KD.out _).mono ?_)
  rintro e w2 ⟨rfl, rfl⟩
  go_wp2_with fail
  (with_reducible refine (KB.out).mono ?_)
  rintro e w2 ⟨a5, n5, c5, rfl, hv, hb⟩
  have R := hid (show MatG (matI N) w (.returned (.slice a5 n5 c5)) w2 from ⟨_, _, _, rfl, hv.wide (by rw [HS.out]; omega) (Nat.le_refl _), BW.out.trans (hb.mono BW.out.size)⟩)
  clear hv hb q0
  go_wp2
  go_ret
  exact R.out
end Go.Proofs.YtjjainnafihkdaaGreat
