import Derived.Test.YteanocjkdehhgaaGreatKf
import Derived.Maps.RangeWalk
import Derived.Lib.SlKeysI
set_option maxRecDepth 512
set_option maxHeartbeats 200000
set_option linter.unusedVariables false
set_option linter.unusedSimpArgs false
namespace Go.Proofs.YteanocjkdehhgaaGreat
open Go.RowKit
open Go.Lib (hid)
theorem keyS : Go.Maps.Keyed Tryz.prog 9 := Go.Maps.string_keyed Tryz.underlying9
theorem keyOf_S {s : ByteArray} (h : s.size ≤ maxLen) : keyOf Tryz.prog 9 (.string s) = some (.string s.data.toList) := by
 have hu : Tryz.prog.underlying 9 = some .string := Tryz.underlying9
 unfold keyOf
 rw [hu]
 simp [mapKey, hu, h]
def rawI (v : Value) : Option (DataW Value × List MemPlace) :=
 match v with
 | .int .i64 _ => some (.held v, [])
 | _ => none
theorem rawI_mk (x : Int) : rawI (.int .i64 x) = some (.held (.int .i64 x), []) := rfl
def SpecS (D : DataW Value) (E : ByteArray → Option Int) : Prop := ∀ s : ByteArray, s.size ≤ maxLen → ∀ z, D.atKey (.string s.data.toList) z = match E s with | some x => .held (.int .i64 x) | none => z
def MS (w : World) (b n : Nat) (E : ByteArray → Option Int) : Prop := ∃ D : DataW Value, w.ownsMap Tryz.prog 9 rawI b n D ∧ SpecS D E
theorem zeroInt (w : World) : (zeroValue 3).run Tryz.prog w = .ok (.int .i64 0) w := by kernel_rfl
section
variable {w : World} {b n : Nat} {E : ByteArray → Option Int}
theorem MS.block {w' : World} (h : MS w b n E) (hb : w'.heap[b]? = w.heap[b]?) : MS w' b n E := by
 obtain ⟨D, ⟨es, clock, h1, r⟩, hD⟩ := h
 exact ⟨D, ⟨es, clock, hb.trans h1, r⟩, hD⟩
theorem MS.lt (h : MS w b n E) : b < w.heap.size := by
 obtain ⟨D, h, -⟩ := h
 exact h.lt
theorem MS.old {w' : World} (h : MS w b n E) (hb : Below w.heap.size w w') : MS w' b n E := h.block (hb.block b h.lt)
theorem MS_made (w : World) : MS (w.alloc (.map #[] 0)) w.heap.size 0 (fun _ => none) :=
 ⟨.map [], World.ownsMap_made w Tryz.prog 9 rawI, fun x _ z => rfl⟩
def updS (E : ByteArray → Option Int) (s : ByteArray) (x : Int) : ByteArray → Option Int := fun y => if y = s then some x else E y
theorem bytes_of {s t : ByteArray} (h : s.data.toList = t.data.toList) : s = t := by
 cases s; cases t
 simp only at h
 congr 1
 exact Array.toList_inj.1 h
theorem SpecS.has {D : DataW Value} {E : ByteArray → Option Int} (hD : SpecS D E) {s : ByteArray} (hs : s.size ≤ maxLen) : Go.Maps.has D (.string s.data.toList) = (E s).isSome := by
 have h := hD s hs
 cases e : E s with
 | none => rw [e] at h; exact Go.Maps.has_false_of_atKey h
 | some v => rw [e] at h; exact Go.Maps.has_true_of_atKey h
theorem SpecS.upd {D : DataW Value} {E : ByteArray → Option Int} (hD : SpecS D E) (hm : Go.Maps.IsMap D) (s : ByteArray) (x : Int) : SpecS (D.put (.string s.data.toList) (.held (.int .i64 x))) (updS E s x) := by
 intro y hy z
 by_cases h : y = s
 ·subst h
  simp only [updS, if_pos]
  exact Go.Maps.atKey_put_same hm (show WideAt.IsKeyLit (.string y.data.toList) from trivial) _ _
 ·simp only [updS, if_neg h]
  rw [Go.Maps.atKey_put_other (fun e => h (bytes_of (Lit.string.inj e)))]
  exact hD y hy z
end
section
variable {ops : Array Oper} {rest : List Oper} {o : Oper} {a : Act} {Q : Exit → Act → World → Prop} {w : World} {b n : Nat} {E : ByteArray → Option Int}
theorem wpList_lookS (hg : o.guard = none) (m x : Operand) (hop : o.op = Op.lookup 110 m x true) (hm : a.eval m = .map (some b)) (h : MS w b n E) (s : ByteArray) (hs : s.size ≤ maxLen) (hx : a.eval x = .string s)
  (hK : ∀ v, wpList Tryz.prog ops Q rest (a.put o.dst (.tuple #[v, .bool (E s).isSome])) w) : wpList Tryz.prog ops Q (o :: rest) a w := by
 obtain ⟨D, hown, hD⟩ := h
 refine wpList_lookup_own_ok w hg m x 110 hop 9 3 keyS Tryz.underlying110 rawI (zeroInt w) _ [] (rawI_mk _) b n D hm hown _ (.string s.data.toList) hx (keyOf_S hs) fun v' ps hv' => ?_
 rw [SpecS.has hD hs]
 exact hK v'
theorem wpList_storeS (hg : o.guard = none) (m x y : Operand) (hop : o.op = Op.mapUpdate 110 m x y) (hm : a.eval m = .map (some b)) (h : MS w b n E) (hn : n ≤ 1048576) (s : ByteArray) (hs : s.size ≤ maxLen) (hx : a.eval x = .string s) (i : Int) (hv : a.eval y = .int .i64 i)
  (hK : ∀ w', MS w' b (n + 1) (updS E s i) → w.grownBy w' (some b) → wpList Tryz.prog ops Q rest (a.put o.dst undef) w') : wpList Tryz.prog ops Q (o :: rest) a w := by
 obtain ⟨D, hown, hD⟩ := h
 refine wpList_mapUpdate_own w hg m x y 110 hop 9 3 keyS Tryz.underlying110 rawI b n D hm hown (by unfold maxLen; omega) _ _ (.string s.data.toList) hx hv (keyOf_S hs) _ [] (rawI_mk _) fun w' ho hg => ?_
 exact hK w' ⟨_, ho, SpecS.upd hD hown.isMap s i⟩ hg
end
end Go.Proofs.YteanocjkdehhgaaGreat
