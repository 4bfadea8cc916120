import Derived.Test.YthkehmnodcmlcaaGreatZe
set_option maxRecDepth 512
set_option maxHeartbeats 200000
set_option linter.unusedVariables false
set_option linter.unusedSimpArgs false
namespace Go.Proofs.YthkehmnodcmlcaaGreat
open Go.RowKit
open Go.Lib (hid)
theorem BD.setN {w w' : World} {lo G n cap N : Nat} {H : List Value} {V : Nat → Value} {O : Nat → List (Option Rat)} {pv : Value} {L : List Int} {T : TypeId} {cs : Array Value} (h : BD w lo G n cap H V O pv L) (hL : LocA T w N cs) (hT : T ≠ 3) (hG : N ≠ G) (hV : ∀ r, r < n → (V r).ownBlock ≠ some N) (hs : w'.heap.size = w.heap.size) (hb : ∀ k, k ≠ N → w'.heap[k]? = w.heap[k]?) : BD w' lo G n cap H V O pv L := by
 refine ⟨⟨fun j hj => ?_, h.rc.ne, h.rc.ft⟩, own_block h.row fun k hk => hb k fun e => hG (by simp [Value.ownBlock] at hk; omega), Ints_block h.pv fun k hk => hb k fun e => hL.ne hT h.pv (by rw [hk, e])⟩
 obtain ⟨E, hE, hEk, hav⟩ := h.rc.el j hj
 rw [hs]
 have ob : ∀ {y : Value} {M : List Int}, Obj w y M lo w.heap.size → Obj w' y M lo w.heap.size := fun {y M} ho =>
  ⟨Ints_block ho.ints fun k hk => hb k fun e => hL.ne hT ho.ints (by rw [hk, e]), ho.high⟩
 exact ⟨E, ⟨own_block hE.row fun k hk => hb k fun e => hV j hj (by rw [hk, e]), hE.high, fun x hx => ⟨ob (hE.el x hx).a, ob (hE.el x hx).d⟩, hE.nd, hE.ap⟩, hEk, hav⟩
structure DD (w : World) (lo G n cap : Nat) (H : List Value) (V : Nat → Value) (O : Nat → List (Option Rat)) (N : Nat) (s : Bool) (v u : Value) (o : Option Rat) : Prop where
 bd : BD w lo G n cap H V O (.slice none 0 0) []
 nG : N ≠ G
 nV : ∀ r, r < n → (V r).ownBlock ≠ some N
 lc : LocA 37 w N #[.bool s, v, u]
 ro : RO false w lo s v u o
theorem DD.old {w w' : World} {lo G n cap N : Nat} {H : List Value} {V : Nat → Value} {O : Nat → List (Option Rat)} {s : Bool} {v u : Value} {o : Option Rat} (h : DD w lo G n cap H V O N s v u o) (hb : Below w.heap.size w w') : DD w' lo G n cap H V O N s v u o :=
 ⟨h.bd.old hb, h.nG, h.nV, h.lc.old hb, h.ro.old hb⟩
theorem DD.same {w : World} {lo G n cap N : Nat} {H : List Value} {V : Nat → Value} {O O' : Nat → List (Option Rat)} {s : Bool} {v u : Value} {o : Option Rat} (h : DD w lo G n cap H V O N s v u o) (e : ∀ j, j < n → O' j = O j) : DD w lo G n cap H V O' N s v u o :=
 ⟨h.bd.same e, h.nG, h.nV, h.lc, h.ro⟩
theorem DD.eqo {w : World} {lo G n cap N : Nat} {H : List Value} {V : Nat → Value} {O : Nat → List (Option Rat)} {s : Bool} {v u : Value} {o o' : Option Rat} (h : DD w lo G n cap H V O N s v u o) (e : o = o') : DD w lo G n cap H V O N s v u o' := by subst e; exact h
theorem DD.sgn {w : World} {lo G n cap N : Nat} {H : List Value} {V : Nat → Value} {O : Nat → List (Option Rat)} {s s' : Bool} {v u : Value} {a' b' : Option Addr} {n' c' m' d' : Nat} {o o' : Option Rat} {p : Bool} (h : DD w lo G n cap H V O N s v u o) (hr : RO p w lo s' (.slice a' n' c') (.slice b' m' d') o') :
  DD (((w.setCell ⟨N, 0, none⟩ (.bool s')).setCell ⟨N, 1, none⟩ (.slice a' n' c')).setCell ⟨N, 2, none⟩ (.slice b' m' d')) lo G n cap H V O N s' (.slice a' n' c') (.slice b' m' d') o' := by
 have l1 := h.lc.set (i := 0) (x := .bool s')
 have l2 := l1.set (i := 1) (x := .slice a' n' c')
 have hr2 := ((hr.set h.lc (by decide) (i := 0) (y := .bool s')).set l1 (by decide) (i := 1) (y := .slice a' n' c')).set l2 (by decide) (i := 2) (y := .slice b' m' d')
 refine ⟨h.bd.setN h.lc (by decide) h.nG h.nV (by simp) fun k hk => ?_, h.nG, h.nV, l2.set (i := 2) (x := .slice b' m' d'), ⟨hr2.sg, hr2.i, hr2.j, fun h => (by cases h), hr2.ft⟩⟩
 rw [setCell_other _ N _ _ k hk, setCell_other _ N _ _ k hk, setCell_other _ N _ _ k hk]
theorem DD.put {w : World} {lo G n cap N : Nat} {H : List Value} {V : Nat → Value} {O O' : Nat → List (Option Rat)} {s : Bool} {v u : Value} {o : Option Rat} (h : DD w lo G n cap H V O N s v u o) {i k g c W : Nat} (hi : i < n) {os : List (Option Rat)} (hO : O i = os) (hl : os.length = W) (hv : V i = .slice (some ⟨g, 0, none⟩) W c) (hk : k < W) {lo' : Nat} {s1 : Bool} {x y : Value} {o1 : Option Rat} (hr : RO false w lo' s1 x y o1) (hl' : lo ≤ lo') (hO' : O' i = os.set k o1) (hO2 : ∀ j, j < n → j ≠ i → O' j = O j) :
  DD (set3 w g k s1 x y) lo G n cap H V O' N s v u o := by
 have hg : N ≠ g := fun e => h.nV i hi (by rw [hv, e]; rfl)
 exact ⟨h.bd.put' hi hO hl hv hk hr hl' (fun k hk => (by cases hk)) hO' hO2, h.nG, h.nV, h.lc.put3 hg, h.bd.ro hi hv h.ro⟩
theorem DD.hdr {w w' : World} {lo G n cap N : Nat} {H H' : List Value} {V : Nat → Value} {O : Nat → List (Option Rat)} {s : Bool} {v u : Value} {o : Option Rat} (h : DD w lo G n cap H V O N s v u o) (hs : w'.heap.size = w.heap.size) (hb : ∀ k, k ≠ G → w'.heap[k]? = w.heap[k]?) (hr : w'.ownsRow lo 41 1 (.slice (some ⟨G, 0, none⟩) n cap) n H') : DD w' lo G n cap H' V O N s v u o :=
 ⟨h.bd.hdr hs hb hr, h.nG, h.nV, (hb N h.nG).trans h.lc, ⟨h.ro.sg, Ints_keepG h.bd.row hb h.ro.i, Ints_keepG h.bd.row hb h.ro.j, h.ro.nd, h.ro.ft⟩⟩
theorem DD.perm {w : World} {lo G n cap N : Nat} {H : List Value} {V : Nat → Value} {O : Nat → List (Option Rat)} {s : Bool} {v u : Value} {o : Option Rat} (h : DD w lo G n cap H V O N s v u o) {f : Nat → Nat} (hf : ∀ j, j < n → f j < n) (hi : ∀ i j, i < n → j < n → i ≠ j → f i ≠ f j) : DD w lo G n cap H (fun j => V (f j)) (fun j => O (f j)) N s v u o :=
 ⟨⟨h.bd.rc.perm hf hi, h.bd.row, h.bd.pv⟩, h.nG, fun r hr => h.nV _ (hf r hr), h.lc, h.ro⟩
theorem DD.ne {w : World} {lo G n cap N : Nat} {H : List Value} {V : Nat → Value} {O : Nat → List (Option Rat)} {s : Bool} {v u : Value} {o : Option Rat} (h : DD w lo G n cap H V O N s v u o) {i g c m : Nat} (hi : i < n) (hv : V i = .slice (some ⟨g, 0, none⟩) m c) : N ≠ g := fun e => h.nV i hi (by rw [hv, e]; rfl)
end Go.Proofs.YthkehmnodcmlcaaGreat
