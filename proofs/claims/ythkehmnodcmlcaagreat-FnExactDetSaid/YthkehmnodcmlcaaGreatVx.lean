import Derived.Test.YthkehmnodcmlcaaGreatVw
import Derived.Test.YthkehmnodcmlcaaGreatShelf
import Derived.Laws.CopyOwn
import Derived.Deep.RegionLaw
import Derived.Test.YthkehmnodcmlcaaGreatVs
import Derived.IntWalk
import Derived.Test.YthkehmnodcmlcaaGreatVt
import Derived.Deep.RegionHeld3
import Derived.Deep.DeepCutAuto
set_option maxRecDepth 100000
set_option maxHeartbeats 12800000
set_option linter.unusedVariables false
set_option linter.unusedSimpArgs false
namespace Go.Proofs.YthkehmnodcmlcaaGreat
open Go.RowKit
open Go.Lib (hid)
section
variable {P : Program}
theorem run_copy_rowk (w : World) (dT sT ty elem : TypeId) (g o dLen dCap : Nat) (a : Addr) (sLen sCap : Nat) (cur : Array Value) (t : TypeId) (cs : List Value) (size m : Nat)
  (hu : P.underlying dT = some (.slice elem)) (hs : (P.info? elem).map (·.size) = some size)
  (hg : w.heap[g]? = some (.cells cur t (0, 0))) (hm : Nat.min sLen dLen = m) (hn : cs.length = m * size)
  (hsrc : ∀ j v, cs[j]? = some v → w.cell? (a.add j) = some v) (hfit : o + cs.length ≤ cur.size) (h1 : ∀ v ∈ cs, v.oneCell' = true) :
  (Builtin.copy_ #[dT, sT] ty #[.slice (some ⟨g, o, none⟩) dLen dCap, .slice (some a) sLen sCap]).run P w =
   .ok (goInt m) (w.setRow g (cur.toList.take o ++ cs ++ cur.toList.drop (o + cs.length)).toArray) := by
 have hl := run_loadCells_list (P := P) w a cs hsrc
 have hst := run_storeCells_at P g o t cs 0 cur w hg (by simpa using hfit) h1
 cases hq : P.info? elem with
 | none => simp [hq] at hs
 |some i =>
  have hi : i.size = size := by simpa [hq] using hs
  rw [hn] at hl
  simp [Builtin.copy_, run_underlying hu, Builtin.lenOf, Builtin.firstCells, sizeOf, typeInfo, hq, hi, hm, hl, hst]
end
def rowJ (e : El) (n j : Nat) : List El := List.replicate j e ++ List.replicate (n - j) El0
theorem rowJ_len {e : El} {n j : Nat} (h : j ≤ n) : (flat (rowJ e n j)).length = n * 3 := by rw [flat_len]; simp [rowJ]; omega
theorem rowJ_copy {e : El} {n j m : Nat} (h : j + m ≤ n) : (flat (rowJ e n j)).take (j * 3) ++ flat (List.replicate m e) ++ (flat (rowJ e n j)).drop (j * 3 + (flat (List.replicate m e)).length) = flat (rowJ e n (j + m)) := by
 have h1 : (flat (List.replicate j e)).length = j * 3 := by rw [flat_len, List.length_replicate]
 have h2 : (flat (List.replicate m e)).length = m * 3 := by rw [flat_len, List.length_replicate]
 have h3 : flat (rowJ e n j) = flat (List.replicate j e) ++ (flat (List.replicate m El0) ++ flat (List.replicate (n - (j + m)) El0)) := by
  rw [rowJ, flat_append, ← flat_append (List.replicate m El0) (List.replicate (n - (j + m)) El0), List.replicate_append_replicate, show m + (n - (j + m)) = n - j by omega]
 have h4 : (flat (List.replicate m El0)).length = m * 3 := by rw [flat_len, List.length_replicate]
 rw [h3, h2, rowJ, flat_append, ← List.replicate_append_replicate, flat_append]
 rw [List.take_left' h1, List.drop_append, List.drop_eq_nil_of_le (by rw [h1]; omega), List.nil_append, h1, List.drop_left' (by rw [h4]; omega)]
theorem rowJ_src {e : El} {n j m : Nat} (hm : m ≤ j) (hj : j ≤ n) {i : Nat} {v : Value} (h : (flat (List.replicate m e))[i]? = some v) : (flat (rowJ e n j))[i]? = some v := by
 have hl : i < (flat (List.replicate m e)).length := (List.getElem?_eq_some_iff.1 h).1
 have h3 : flat (rowJ e n j) = flat (List.replicate m e) ++ (flat (List.replicate (j - m) e) ++ flat (List.replicate (n - j) El0)) := by
  rw [rowJ, flat_append, ← List.append_assoc, ← flat_append (List.replicate m e) (List.replicate (j - m) e), List.replicate_append_replicate, show m + (j - m) = j by omega]
 rw [h3, List.getElem?_append_left hl]
 exact h
end Go.Proofs.YthkehmnodcmlcaaGreat
namespace Go.Proofs.YthkehmnodcmlcaaGreat
open Go.RowKit
open Go.Lib (hid)
theorem El_one (e : El) (hv : ∃ a n c, e.v = .slice a n c) (hu : ∃ a n c, e.u = .slice a n c) (m : Nat) : ∀ v ∈ flat (List.replicate m e), v.oneCell' = true := by
 intro v hv'
 induction m with
 | zero => simp [flat] at hv'
 |succ m ih =>
  rw [List.replicate_succ, flat_cons] at hv'
  obtain ⟨a, n, c, h1⟩ := hv
  obtain ⟨a', n', c', h2⟩ := hu
  rw [h1, h2] at hv'
  simp only [List.mem_cons] at hv'
  rcases hv' with rfl | rfl | rfl | h
  ·rfl
  ·rfl
  ·rfl
  ·exact ih h
theorem repeat_one {s : Bool} {a1 : Option Addr} {n1 c1 : Nat} {b1 : Option Addr} {m1 d1 : Nat} {o : Option Rat} {b n : Nat} (hn : n ≤ 1048576) (w : World) (hL : w.heap[b]? = some (.cells #[.bool s, .slice a1 n1 c1, .slice b1 m1 d1] 37 (0, 0))) (hr : RA w s (.slice a1 n1 c1) (.slice b1 m1 d1) o) :
  Calls Tryz.prog 193 #[.slice (some ⟨b, 0, none⟩) 1 1, .int .i64 n] w
   fun e w' => ∃ g A D, e = .returned (.slice (some ⟨g, 0, none⟩) n n) ∧ VK false w' (.slice (some ⟨g, 0, none⟩) n n) (List.replicate n ⟨s, A, D⟩) 0 w'.heap.size ∧ Fq.o ⟨s, A, D⟩ = o ∧ (A.length ≤ 1048576 ∧ D.length ≤ 1048576) ∧ RL w (.slice a1 n1 c1) (.slice b1 m1 d1) A D ∧ Below w.heap.size w w' := by
 obtain ⟨A, D, hrl, ho⟩ := hr
 obtain ⟨el, hel⟩ : ∃ el : El, el = ⟨⟨s, A, D⟩, .slice a1 n1 c1, .slice b1 m1 d1⟩ := ⟨_, rfl⟩
 have HEL := hid hel
 have e1 : 1 * n / 18446744073709551616 = 0 := Nat.div_eq_of_lt (by omega)
 have e2 : 1 * n % 18446744073709551616 = n := by rw [Nat.one_mul]; exact Nat.mod_eq_of_lt (by omega)
 have KM := fun W => Tryz.bits_Mul 1 n (by decide) (by omega) W
 rw [e1, e2] at KM
 have KM := hid (show ∀ W, Calls Tryz.prog _ #[.int .u64 1, .int .u64 (n : Int)] W _ from KM)
 clear e1 e2 hel
 have hbl : b < w.heap.size := (Array.getElem?_eq_some_iff.1 hL).1
 have hmk := fun W => run_make_rowk (P := Tryz.prog) 41 37 (.agg #[.bool false, .slice none 0 0, .slice none 0 0]) #[.bool false, .slice none 0 0, .slice none 0 0] 3 56 Tryz.underlying41 infoRat rfl .i64 .i64 n (by omega) (by omega) W
 have HI := hid (show (Tryz.prog.info? 37).map (·.size) = some 3 from by obtain ⟨i, hi, h0, h1, h2⟩ := info_parts infoRat; rw [hi]; simp [h1])
 have HH := hid (show (w.alloc (.cells (madeCells #[.bool false, .slice none 0 0, .slice none 0 0] (n * 3)) 37)).heap[w.heap.size]? = some (.cells (flat (rowJ el n 0)).toArray 37 (0, 0)) from by
  rw [heap_alloc_new]
  simp only [rowJ, List.replicate_zero, List.nil_append, Nat.sub_zero, flat_zeros, Array.toArray_toList])
 have BB := hid (below_new' (w := w) (o := .cells (madeCells #[.bool false, .slice none 0 0, .slice none 0 0] (n * 3)) 37))
 have HB := hid ((BB.out.block b hbl).trans hL)
 have HRL := hid hrl
 have hvs : ∀ m, ∀ v ∈ flat (List.replicate m el), v.oneCell' = true := El_one el ⟨a1, n1, c1, by rw [HEL.out]⟩ ⟨b1, m1, d1, by rw [HEL.out]⟩
 obtain ⟨m0, hm0⟩ : ∃ m0, Nat.min 1 n = m0 := ⟨_, rfl⟩
 have hm1 : m0 ≤ n ∧ m0 ≤ 1 ∧ (n = 0 ∨ 1 ≤ m0) := by
  have : Nat.min 1 n = min 1 n := rfl
  omega
 have hcp := run_copy_rowk (P := Tryz.prog) (w.alloc (.cells (madeCells #[.bool false, .slice none 0 0, .slice none 0 0] (n * 3)) 37)) 41 41 3 37 w.heap.size 0 n n ⟨b, 0, none⟩ 1 1 _ 37 (flat (List.replicate m0 el)) 3 m0 Tryz.underlying41 HI.out HH.out hm0
  (by rw [flat_len, List.length_replicate])
  (fun j v hj => by
   have h1 := World.news_of_block HB.out
   refine h1 j v ?_
   have hle : m0 = 0 ∨ m0 = 1 := by omega
   rcases hle with e | e
   ·rw [e] at hj; simp [flat] at hj
   ·rw [e, HEL.out] at hj; exact hj)
  (by rw [flat_len, List.length_replicate, List.size_toArray, rowJ_len (Nat.zero_le _)]; omega) (hvs m0)
 obtain ⟨W2, hW2⟩ : ∃ W2, W2 = (w.alloc (.cells (madeCells #[.bool false, .slice none 0 0, .slice none 0 0] (n * 3)) 37)).setRow w.heap.size ((flat (rowJ el n 0)).toArray.toList.take 0 ++ flat (List.replicate m0 el) ++ (flat (rowJ el n 0)).toArray.toList.drop (0 + (flat (List.replicate m0 el)).length)).toArray := ⟨_, rfl⟩
 rw [← hW2] at hcp
 have HR2 := hid (show W2.heap[w.heap.size]? = some (.cells (flat (rowJ el n m0)).toArray 37 (0, 0)) from by
  rw [hW2, setRow_heap _ _ _ _ _ _ HH.out]
  have := rowJ_copy (e := el) (n := n) (j := 0) (m := m0) (by omega)
  simp only [Nat.zero_mul, Nat.zero_add] at this
  simp only [Nat.zero_add]
  rw [this])
 have HB2 := hid (show Below w.heap.size w W2 from by rw [hW2]; exact below_setRow BB.out (Nat.le_refl _) _)
 have hgi : goInt m0 = .int .i64 (m0 : Int) := rfl
 rw [hgi] at hcp
 have HGW := hid (show W2.heap.size = w.heap.size + 1 from by rw [hW2]; simp [World.setRow])
 have HVS := hid hvs
 clear hW2 hrl hL hvs hgi hm0
 have c1' : ¬ (n : Int) < 0 := by omega
 have c2 : ¬ (9223372036854775807 : Int) < n := by omega
 have c3 : decide ((9223372036854775807 : Int) < n) = false := decide_eq_false c2
 go_enter Tryz.func193, Tryz.ntmps193
 go_wp2_with fail
 (with_reducible refine (KM.out _).mono ?_)
 rintro e w1 ⟨rfl, hw1⟩
 have hw1 := hw1.symm
 subst hw1
 go_wp2
 clear hcp hmk
 obtain ⟨g, hg⟩ : ∃ g, g = w.heap.size := ⟨_, rfl⟩
 have HG := hid hg
 rw [← hg] at HR2 HGW
 rw [← hg]
 clear hg
 go_loopw [8] (fun x wr => ∃ j : Nat, j ≤ n ∧ (n = 0 ∨ 1 ≤ j) ∧ x = .int .i64 j ∧ Hid (wr.heap[g]? = some (.cells (flat (rowJ el n j)).toArray 37 (0, 0))) ∧ Below w.heap.size w wr) (fun x _ => n - (intOf x).toNat)
 case atStart => exact ⟨m0, hm1.1, hm1.2.2, rfl, HR2, HB2.out⟩
 case round =>
  obtain ⟨j, hj, hj1, rfl, hrow, hbel⟩ := hrel
  have HBL := hid hbel
  clear hbel
  by_cases hlt : j < n
  ·have a1' : (0 : Int) ≤ j := by omega
   have a2 : (j : Int) < n := by omega
   have a3 : (j : Int) ≤ n := by omega
   have hnj : ¬ n = j := by omega
   obtain ⟨m, hm⟩ : ∃ m, Nat.min j (n - j) = m := ⟨_, rfl⟩
   have hmb : m ≤ j ∧ m ≤ n - j ∧ 1 ≤ m := by
    have : Nat.min j (n - j) = min j (n - j) := rfl
    omega
   have hcp2 := run_copy_rowk (P := Tryz.prog) wr.drew 41 41 3 37 g (j * 3) (n - j) (n - j) ⟨g, 0, none⟩ j n _ 37 (flat (List.replicate m el)) 3 m Tryz.underlying41 HI.out (show wr.drew.heap[g]? = _ from hrow.out) hm
    (by rw [flat_len, List.length_replicate])
    (fun i v hi => by
     have h1 := World.news_of_block (w := wr.drew) hrow.out
     exact h1 i v (by simpa using rowJ_src hmb.1 hj hi))
    (by rw [flat_len, List.length_replicate, List.size_toArray, rowJ_len hj]; omega) (HVS.out m)
   obtain ⟨W3, hW3⟩ : ∃ W3, W3 = wr.drew.setRow g ((flat (rowJ el n j)).toArray.toList.take (j * 3) ++ flat (List.replicate m el) ++ (flat (rowJ el n j)).toArray.toList.drop (j * 3 + (flat (List.replicate m el)).length)).toArray := ⟨_, rfl⟩
   rw [← hW3] at hcp2
   have HR3 := hid (show W3.heap[g]? = some (.cells (flat (rowJ el n (j + m))).toArray 37 (0, 0)) from by
    rw [hW3, setRow_heap (w := wr.drew) _ _ _ _ _ hrow.out, rowJ_copy (by omega)])
   have HB3 := hid (show Below w.heap.size w W3 from by rw [hW3]; exact below_setRow (Below_drew1 HBL.out) (by rw [HG.out]; exact Nat.le_refl _) _)
   have hgi2 : goInt m = .int .i64 (m : Int) := rfl
   rw [hgi2] at hcp2
   have a4 : (0 : Int) ≤ (m : Int) := by omega
   have a5 : (j : Int) + (m : Int) ≤ n := by omega
   have hjm : (j : Int) + (m : Int) = ((j + m : Nat) : Int) := by omega
   have hwr : IntKind.i64.wrap ((j : Int) + (m : Int)) = ((j + m : Nat) : Int) := by rw [IntWalk.i64_in _ (by omega)]; exact hjm
   clear hW3 hgi2 hm hjm
   go_wp2_with fail
   go_region_held3 (fun _ => True) (trivial) (fail)
   clear hwr
   go_wp2
   go_roundw
   case rel => exact ⟨j + m, by omega, .inr (by omega), by first | rfl | go_num, HR3, HB3.out⟩
   case measure => simp [intOf]; omega
  ·obtain rfl : j = n := by omega
   have HV := hid (show VK false wr (.slice (some ⟨g, 0, none⟩) j j) (List.replicate j ⟨s, A, D⟩) 0 wr.heap.size from by
    have hgl : g < wr.heap.size := (Array.getElem?_eq_some_iff.1 hrow.out).1
    have hq := HRL.out.old HBL.out
    refine ⟨List.replicate j el, ⟨⟨by rw [flat_len], .inr ⟨g, j, _, by rw [List.length_replicate], Nat.zero_le _, hrow.out, by rw [List.length_replicate]; exact Nat.le_refl _, by unfold maxLen; omega, by rw [List.size_toArray, rowJ_len (Nat.le_refl _)], ?_⟩⟩, fun k hk => ?_, fun e he => ?_, fun h => (by cases h), fun h => (by cases h)⟩, ?_⟩
    ·rw [List.length_replicate]
     have : rowJ el j j = List.replicate j el := by simp [rowJ]
     rw [this]
     exact List.take_of_length_le (by rw [flat_len, List.length_replicate]; exact Nat.le_refl _)
    ·simp [Value.ownBlock] at hk; omega
    ·rw [(List.mem_replicate.1 he).2, HEL.out]
     obtain ⟨⟨x1, y1⟩, ⟨x2, y2⟩, -, -⟩ := hq
     exact ⟨⟨Ints_base y1 (Nat.zero_le _), fun k hk => (Ints_lt y1 k hk).2⟩, ⟨Ints_base y2 (Nat.zero_le _), fun k hk => (Ints_lt y2 k hk).2⟩⟩
    ·simp [keys, HEL.out])
   have hn1 := hid (show A.length ≤ 1048576 ∧ D.length ≤ 1048576 from ⟨HRL.out.la, HRL.out.ld⟩)
   have R := hid (show ∃ g' A' D', Ending.returned (.slice (some ⟨g, 0, none⟩) j j) = .returned (.slice (some ⟨g', 0, none⟩) j j) ∧ VK false wr (.slice (some ⟨g', 0, none⟩) j j) (List.replicate j ⟨s, A', D'⟩) 0 wr.heap.size ∧ Fq.o ⟨s, A', D'⟩ = o ∧ (A'.length ≤ 1048576 ∧ D'.length ≤ 1048576) ∧ RL w (.slice a1 n1 c1) (.slice b1 m1 d1) A' D' ∧ Below w.heap.size w wr from ⟨g, A, D, rfl, HV.out, ho, hn1.out, HRL.out, HBL.out⟩)
   go_wp2
   go_ret
   exact R.out
end Go.Proofs.YthkehmnodcmlcaaGreat
namespace Go.Proofs.YthkehmnodcmlcaaGreat
open Go.RowKit
open Go.Lib (hid)
def smO (K : List Fq) (o : Option Rat) : List (Option Rat) := K.map fun f => bq mulF f.o o
def vscale (K : List Fq) (o : Option Rat) : List Fq := vres (smO K o)
theorem smO_fit (K : List Fq) (o : Option Rat) : ∀ x ∈ smO K o, fitO x := by
 intro x hx
 obtain ⟨f, -, rfl⟩ := List.mem_map.1 hx
 exact fitO_bq fitO_mul _ _
theorem zw_rep (f : Fq) : ∀ K : List Fq, zw mulF K (List.replicate K.length f) = smO K f.o
 | [] => rfl
 |g :: K => by
  have := zw_rep f K
  simp only [zw, smO, List.length_cons, List.replicate_succ, List.zipWith_cons_cons, List.map_cons] at this ⊢
  rw [this]
theorem vzip_rep (f : Fq) (K : List Fq) : vzip mulF K (List.replicate K.length f) = vscale K f.o := by
 unfold vzip vscale
 rw [if_pos (by simp), zw_rep]
theorem Sm_rep {n : Nat} {f : Fq} (hn : n ≤ 1048576) (h : f.A.length ≤ 1048576 ∧ f.D.length ≤ 1048576) : Sm (List.replicate n f) :=
 ⟨fun x hx => by rw [(List.mem_replicate.1 hx).2]; exact h, by simpa using hn⟩
theorem impl_VecScale_w  {a : Option Addr} {n c : Nat} {K : List Fq} {lo hi : Nat} {s : Bool} {a1 : Option Addr} {n1 c1 : Nat} {b1 : Option Addr} {m1 d1 : Nat} {o : Option Rat} (hK : Sm K) (w : World) (h : VW w a n K lo hi) (hr : RA w s (.slice a1 n1 c1) (.slice b1 m1 d1) o) :
  Calls Tryz.prog 164 #[.slice a n c, .agg #[.bool s, .slice a1 n1 c1, .slice b1 m1 d1]] w (VecR true (vscale K o) w) := by
 have BW := hid (below_new2 (w := w) (o := .cells #[.bool s, .slice a1 n1 c1, .slice b1 m1 d1] 37) (o' := .cells #[.bool s, .slice a1 n1 c1, .slice b1 m1 d1] 37))
 have V := hid (h.old BW.out)
 have X := hid (hr.old BW.out)
 have HH := hid (show ((w.alloc (.cells #[.bool s, .slice a1 n1 c1, .slice b1 m1 d1] 37)).alloc (.cells #[.bool s, .slice a1 n1 c1, .slice b1 m1 d1] 37)).heap[w.heap.size + 1]? = some (.cells #[.bool s, .slice a1 n1 c1, .slice b1 m1 d1] 37 (0, 0)) by have := heap_alloc_new (w.alloc (.cells #[.bool s, .slice a1 n1 c1, .slice b1 m1 d1] 37)) (.cells #[.bool s, .slice a1 n1 c1, .slice b1 m1 d1] 37); simpa using this)
 obtain rfl := h.num
 have hkl := hK.2
 clear h hr
 have KR := hid (repeat_one hkl ((w.alloc (.cells #[.bool s, .slice a1 n1 c1, .slice b1 m1 d1] 37)).alloc (.cells #[.bool s, .slice a1 n1 c1, .slice b1 m1 d1] 37)) HH.out X.out)
 generalize hW : (w.alloc (.cells #[.bool s, .slice a1 n1 c1, .slice b1 m1 d1] 37)).alloc (.cells #[.bool s, .slice a1 n1 c1, .slice b1 m1 d1] 37) = W at BW V X HH KR
 have HW := hid hW
 clear hW
 go_enter Tryz.func164, Tryz.ntmps164
 go_wp2_with fail
 rw [HW.out]
 (with_reducible refine (KR.out).mono ?_)
 rintro e w2 ⟨g, A, D, rfl, hv, ho, hl, -, hb⟩
 have V2 := hid (V.out.old hb)
 have HB := hid (BW.out.trans (hb.mono BW.out.size))
 have KE := hid (elementwise_mul_w (c := c) (d := K.length) hK (Sm_rep hkl hl) w2 V2.out hv.vw)
 have HZ := hid (show vzip mulF K (List.replicate K.length ⟨s, A, D⟩) = vscale K o by rw [vzip_rep, ho])
 rw [HZ.out] at KE
 clear hv ho hl hb
 go_wp2_with fail
 (with_reducible refine (KE.out).mono ?_)
 rintro e w3 ⟨a5, n5, c5, rfl, hv5, hb5⟩
 have R := hid (show VecR true (vscale K o) w (.returned (.slice a5 n5 c5)) w3 from ⟨_, _, _, rfl, hv5.wide HB.out.size (Nat.le_refl _), HB.out.trans (hb5.mono HB.out.size)⟩)
 clear hv5 hb5
 go_wp2
 go_ret
 exact R.out
end Go.Proofs.YthkehmnodcmlcaaGreat
