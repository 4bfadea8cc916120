import Derived.Test.YthkehmnodcmlcaaGreatYi
import Derived.Test.YthkehmnodcmlcaaGreatXc
set_option maxRecDepth 512
set_option maxHeartbeats 200000
set_option linter.unusedVariables false
set_option linter.unusedSimpArgs false
namespace Go.Proofs.YthkehmnodcmlcaaGreat
open Go.RowKit
open Go.Lib (hid)
theorem VO.keepG {p : Bool} {w w' : World} {G n m c lo' : Nat} {xs : List Value} {v : Value} {E : List El} {lo hi : Nat} (h : VO p w v E lo hi) (hr : w.ownsRow lo' 41 1 (.slice (some ⟨G, 0, none⟩) m c) n xs) (hb : ∀ k, k ≠ G → w'.heap[k]? = w.heap[k]?) : VO p w' v E lo hi := by
 have ob : ∀ {y : Value} {L : List Int}, Obj w y L lo hi → Obj w' y L lo hi := fun {y L} ho =>
  ⟨Ints_block ho.ints fun k hk => hb k fun e => own_ne hr ho.ints (by decide) k (by rw [e]; rfl) hk, ho.high⟩
 exact ⟨own_block h.row fun k hk => hb k fun e => own_ne hr h.row (by decide) k (by rw [e]; rfl) hk, h.high, fun x hx => ⟨ob (h.el x hx).a, ob (h.el x hx).d⟩, h.nd, h.ap⟩
theorem VK.keepG {p : Bool} {w w' : World} {G n m c lo' : Nat} {xs : List Value} {v : Value} {K : List Fq} {lo hi : Nat} (h : VK p w v K lo hi) (hr : w.ownsRow lo' 41 1 (.slice (some ⟨G, 0, none⟩) m c) n xs) (hb : ∀ k, k ≠ G → w'.heap[k]? = w.heap[k]?) : VK p w' v K lo hi := by
 obtain ⟨E, h, e⟩ := h
 exact ⟨E, h.keepG hr hb, e⟩
structure Arr where
 g : Nat
 N : Nat
 d : Nat
 cc : Nat
 Es : List (List El)
 Z : List El
 lo : Nat
 hi : Nat
def Arr.vo (A : Arr) (w : World) : Prop := VO true w (.slice (some ⟨A.g, 0, none⟩) A.N A.d) (A.Es.flatten ++ A.Z) A.lo A.hi
def Arr.seg (A : Arr) (i : Nat) : List El := A.Es.getD i []
def Arr.off (A : Arr) (i : Nat) : Nat := (A.Es.take i).flatten.length * 3
def ag (As : List Arr) (a : Nat) : Arr := As.getD a ⟨0, 0, 0, 0, [], [], 0, 0⟩
def hdr (As : List Arr) (r : Nat × Nat) : Value := .slice (some ⟨(ag As r.1).g, (ag As r.1).off r.2, none⟩) ((ag As r.1).seg r.2).length (ag As r.1).cc
def sgk (As : List Arr) (r : Nat × Nat) : List Fq := keys ((ag As r.1).seg r.2)
theorem seg_at {A : Arr} {i : Nat} (h : i < A.Es.length) : A.seg i = A.Es[i] := by simp [Arr.seg, h]
theorem Arr.view {A : Arr} {w : World} (h : A.vo w) {i : Nat} (hi : i < A.Es.length) : VW w (some ⟨A.g, A.off i, none⟩) (A.seg i).length (keys (A.seg i)) A.lo A.hi := by
 have hs := flat_split hi
 rw [seg_at hi]
 have hp := VO.part (f := (A.Es.take i).flatten.length) (m := A.Es[i].length) h (by
  rw [hs]
  simp only [List.length_append]
  omega)
 have e2 : ((keys (A.Es.flatten ++ A.Z)).drop (A.Es.take i).flatten.length).take A.Es[i].length = keys A.Es[i] := by
  rw [hs, List.append_assoc, List.append_assoc, keys_append, keys_append, List.drop_left' (keys_len _), List.take_left' (keys_len _)]
 rw [e2] at hp
 exact hp
structure MX (w : World) (G n cap : Nat) (As : List Arr) (P : List (Nat × Nat)) (lo hi : Nat) : Prop where
 row : w.ownsRow lo 41 1 (.slice (some ⟨G, 0, none⟩) n cap) n (P.map (hdr As))
 gh : G < hi
 le : hi ≤ w.heap.size
 ok : ∀ a, a < As.length → (ag As a).vo w ∧ lo ≤ (ag As a).lo ∧ (ag As a).hi ≤ hi
 ap : ∀ a b, a < b → b < As.length → (ag As a).hi ≤ (ag As b).lo
 nd : P.Nodup
 inb : ∀ r ∈ P, r.1 < As.length ∧ r.2 < (ag As r.1).Es.length
 cp : ∀ a, a < As.length → ∀ E ∈ (ag As a).Es, E.length ≤ (ag As a).cc
theorem MX.len {w : World} {G n cap : Nat} {As : List Arr} {P : List (Nat × Nat)} {lo hi : Nat} (h : MX w G n cap As P lo hi) : P.length = n := by
 have := h.row.1
 simpa using this
theorem MX.view {w : World} {G n cap : Nat} {As : List Arr} {P : List (Nat × Nat)} {lo hi : Nat} (h : MX w G n cap As P lo hi) {k : Nat} (hk : k < P.length) :
  VW w (some ⟨(ag As P[k].1).g, (ag As P[k].1).off P[k].2, none⟩) ((ag As P[k].1).seg P[k].2).length (sgk As P[k]) lo hi := by
 obtain ⟨h1, h2⟩ := h.inb _ (List.getElem_mem hk)
 obtain ⟨o1, o2, o3⟩ := h.ok _ h1
 exact (Arr.view o1 h2).wide o2 o3
theorem MX.old {w w' : World} {G n cap : Nat} {As : List Arr} {P : List (Nat × Nat)} {lo hi : Nat} (h : MX w G n cap As P lo hi) (hb : Below w.heap.size w w') : MX w' G n cap As P lo hi :=
 ⟨own_block h.row fun k hk => hb.block k (h.row.lt k hk).2, h.gh, Nat.le_trans h.le hb.size, fun a ha => ⟨VO.old (h.ok a ha).1 hb, (h.ok a ha).2⟩, h.ap, h.nd, h.inb, h.cp⟩
theorem MX.onlyG {w w' : World} {G n cap : Nat} {As : List Arr} {P : List (Nat × Nat)} {lo hi a b : Nat} (h : MX w G n cap As P lo hi) (hb : Only (InG a b w.heap.size) w w') (hd : hi ≤ a ∨ b ≤ lo) : MX w' G n cap As P lo hi :=
 ⟨own_block h.row fun k hk => hb.block k fun hs => by
   have := InG_cases hs
   have := h.gh
   have := h.row.lt k hk
   have : k = G := by simpa [Value.ownBlock] using hk.symm
   omega,
  h.gh, Nat.le_trans h.le hb.size, fun x hx => ⟨VO.onlyG (h.ok x hx).1 hb (by have := (h.ok x hx).2; omega), (h.ok x hx).2⟩, h.ap, h.nd, h.inb, h.cp⟩
structure RI (G n cap lo : Nat) (I : World → List Value → List (List Rat) → Nat → Prop) : Prop where
 row : ∀ {w H R hi}, I w H R hi → w.ownsRow lo 41 1 (.slice (some ⟨G, 0, none⟩) n cap) n H
 len : ∀ {w H R hi}, I w H R hi → R.length = n
 le : ∀ {w H R hi}, I w H R hi → hi ≤ w.heap.size
 view : ∀ {w H R hi}, I w H R hi → ∀ k (hk : k < R.length), ∃ b c, H[k]? = some (.slice b R[k].length c) ∧ VW w b R[k].length (rv R[k]) 0 w.heap.size
 old : ∀ {w w' H R hi}, I w H R hi → Below w.heap.size w w' → I w' H R hi
 set : ∀ {w H R hi k v X l h}, I w H R hi → k < n → 0 < X.length → VK true w v (rv X) l h → hi ≤ l → l ≤ h → h ≤ w.heap.size → I (w.setCell ⟨G, k, none⟩ v) (H.set k v) (R.set k X) h
 mv : ∀ {w w' H R hi d i}, I w H R hi → d ≤ i → i < n → w'.heap.size = w.heap.size → (∀ k, k ≠ G → w'.heap[k]? = w.heap[k]?) → w'.ownsRow lo 41 1 (.slice (some ⟨G, 0, none⟩) n cap) n (mvf H d i) → I w' (mvf H d i) (mvf R d i) hi
theorem setCell_other (w : World) (G i : Nat) (v : Value) : ∀ k, k ≠ G → (w.setCell ⟨G, i, none⟩ v).heap[k]? = w.heap[k]? := fun k hk => Below.heap_setCell _ _ _ _ hk
def IX (b : Option Nat) (G n cap lo : Nat) (w : World) (H : List Value) (R : List (List Rat)) (hi : Nat) : Prop := ∃ As P, MX w G n cap As P lo hi ∧ H = P.map (hdr As) ∧ R.map rv = P.map (sgk As) ∧ (∀ a, a < As.length → ∀ k, b = some k → k < (ag As a).lo ∨ (ag As a).hi ≤ k) ∧ ∀ k, b = some k → k < hi
theorem VO.blockI {p : Bool} {w w' : World} {v : Value} {E : List El} {lo hi : Nat} (h : VO p w v E lo hi) (hb : ∀ k, lo ≤ k → k < hi → k < w.heap.size → w'.heap[k]? = w.heap[k]?) : VO p w' v E lo hi := by
 have ob : ∀ {y : Value} {L : List Int}, Obj w y L lo hi → Obj w' y L lo hi := fun {y L} ho =>
  ⟨Ints_block ho.ints fun k hk => hb k (Ints_lt ho.ints k hk).1 (ho.high k hk) (Ints_lt ho.ints k hk).2, ho.high⟩
 exact ⟨own_block h.row fun k hk => hb k (h.lt k hk).1 (h.high k hk) (h.lt k hk).2, h.high, fun x hx => ⟨ob (h.el x hx).a, ob (h.el x hx).d⟩, h.nd, h.ap⟩
theorem IX.grown {b b' : Option Nat} {w w' : World} {G n cap lo lo' : Nat} {H : List Value} {R : List (List Rat)} {hi : Nat} {pv : Value} {L : List Int} (h : IX b G n cap lo w H R hi) (hb : pv.ownBlock = b) (hp : Ints w lo' pv L) (hg : w.grownBy w' b) (hat : b = b' ∨ b' = some w.heap.size) (hlt : ∀ k, b' = some k → k < w'.heap.size) : IX b' G n cap lo w' H R w'.heap.size := by
 subst hb
 obtain ⟨As, P, h, e1, e2, e3, e4⟩ := h
 have hle := h.le
 have hz := hg.size
 refine ⟨As, P, ⟨own_block h.row fun k hk => hg.block k (h.row.lt k hk).2 fun e => own_ne h.row hp (by decide) k hk e.symm, by have := h.gh; omega, Nat.le_refl _, fun a ha => ?_, h.ap, h.nd, h.inb, h.cp⟩, e1, e2, fun a ha k hk => ?_, hlt⟩
 ·have ho := h.ok a ha
  refine ⟨VO.blockI ho.1 fun k k1 k2 k3 => hg.block k k3 fun e => ?_, ho.2.1, by omega⟩
  have := e3 a ha k e.symm
  omega
 ·rcases hat with e | e
  ·exact e3 a ha k (by rw [e]; exact hk)
  ·rw [e] at hk
   have := Option.some.inj hk
   have := (h.ok a ha).2.2
   omega
theorem VW.keepG {w w' : World} {G a n lo hi : Nat} {b : Option Addr} {K : List Fq} (h : VW w b n K 0 lo) (hG : lo ≤ G) (hs : w'.heap.size = w.heap.size) (hb : ∀ k, k ≠ G → w'.heap[k]? = w.heap[k]?) : VW w' b n K 0 lo := by
 obtain ⟨h1, h2⟩ := h
 refine ⟨h1, fun h0 => ?_⟩
 obtain ⟨g, o, e, k1, k2, k3, hc⟩ := h2 h0
 refine ⟨g, o, e, k1, k2, by omega, fun i hi => ?_⟩
 obtain ⟨x, y, q0, q1, q2, r⟩ := hc i hi
 have cg : ∀ j, w'.cell? ⟨g, j, none⟩ = w.cell? ⟨g, j, none⟩ := fun j => World.cell?_of_block (hb g (by omega))
 have ob : ∀ {y : Value} {L : List Int}, Obj w y L 0 lo → Obj w' y L 0 lo := fun {y L} ho =>
  ⟨Ints_block ho.ints fun k hk => hb k fun e => by have := ho.high k hk; omega, ho.high⟩
 exact ⟨x, y, (cg _).trans q0, (cg _).trans q1, (cg _).trans q2, ⟨ob r.a, ob r.d⟩⟩
end Go.Proofs.YthkehmnodcmlcaaGreat
