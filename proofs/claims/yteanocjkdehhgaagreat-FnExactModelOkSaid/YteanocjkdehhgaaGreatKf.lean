import Derived.Test.YteanocjkdehhgaaGreatKb
import Derived.Deep.RegionHeld3
import Derived.Test.YteanocjkdehhgaaGreatProg
import Derived.WalkKit
import Derived.Lib.Hide
import Derived.Deep.Quiet
import Derived.WalkSmall
import Derived.Laws.IdiomStrings
import Derived.Maps.AppendAt
import Derived.Deep.QuietTactic
import Derived.BigQuiet
import Derived.Test.YteanocjkdehhgaaGreatKd
set_option maxRecDepth 512
set_option maxHeartbeats 200000
set_option linter.unusedVariables false
set_option linter.unusedSimpArgs false
namespace Go.Proofs.YteanocjkdehhgaaGreat
open Go.RowKit
open Go.Lib (hid)
variable {α : Type} {D : Kd α} {T : TypeId}
theorem Obj.keepS {w w' : World} {v : Value} {L : List Int} {lo hi : Nat} {S : Nat → Prop} (h : Obj w v L lo hi) (hb : Only S w w') (hd : ∀ k, v.ownBlock = some k → ¬ S k) : Obj w' v L lo hi := ⟨Ints_only h.ints hb hd, h.high⟩
theorem TO.keepS {p : Bool} {w w' : World} {v : Value} {E : List Et} {lo hi : Nat} {S : Nat → Prop} (h : TO p w v E lo hi) (hb : Only S w w') (h0 : ∀ k, v.ownBlock = some k → ¬ S k) (h1 : ∀ e ∈ E, ∀ k, (e.v.ownBlock = some k ∨ e.u.ownBlock = some k) → ¬ S k) : TO p w' v E lo hi :=
 ⟨own_block h.row fun k hk => hb.block k (h0 k hk), h.high, fun e he => ⟨(h.el e he).a.keepS hb fun k hk => h1 e he k (.inl hk), (h.el e he).d.keepS hb fun k hk => h1 e he k (.inr hk)⟩, h.nd, h.ap⟩
theorem RwG.inA {w w' : World} {t v u : Value} {K : List Tq} {A D A' : List Int} {lo hi : Nat} (h : RwG w t v u K A D lo hi) (hb : Only (fun k => v.ownBlock = some k) w w') (ha : Ints w' lo v A') : RwG w' t v u K A' D lo hi := by
 obtain ⟨E, hE, e, hx⟩ := h.t
 exact ⟨⟨E, hE.keepS hb (fun k hk hs => own_ne hE.row h.r.a.ints (by decide) k hk hs) (fun x hm k hk hs => (hx x hm k hk).1 hs), e, hx⟩, h.r.inA hb ha⟩
theorem RwG.inD {w w' : World} {t v u : Value} {K : List Tq} {A D D' : List Int} {lo hi : Nat} (h : RwG w t v u K A D lo hi) (hb : Only (fun k => u.ownBlock = some k) w w') (ha : Ints w' lo u D') : RwG w' t v u K A D' lo hi := by
 obtain ⟨E, hE, e, hx⟩ := h.t
 exact ⟨⟨E, hE.keepS hb (fun k hk hs => own_ne hE.row h.r.d.ints (by decide) k hk hs) (fun x hm k hk hs => (hx x hm k hk).2 hs), e, hx⟩, h.r.inD hb ha⟩
def Er.n (e : Er) : Nat := e.q.n
end Go.Proofs.YteanocjkdehhgaaGreat

namespace Go.Proofs.YteanocjkdehhgaaGreat
open Go.RowKit
open Go.Lib (hid)
def Strs (w : World) (E B : Nat) (v : Value) (L : List ByteArray) : Prop := w.ownsRow B E 1 v L.length (L.map Value.string)
theorem Strs_snoc {w : World} {E B : Nat} {v : Value} {L : List ByteArray} {x : ByteArray} {n : Nat} {xs : List Value} (hn : n = L.length + 1) (hx : xs = L.map Value.string ++ [.string x])
  (h : w.ownsRow B E 1 v n xs) : Strs w E B v (L ++ [x]) := by
 subst hn; subst hx
 unfold Strs
 simpa using h
theorem Strs_own {w : World} {E B : Nat} {v : Value} {L : List ByteArray} (h : Strs w E B v L) : ∀ k, v.ownBlock = some k → B ≤ k := fun k hk => (World.ownsRow.lt h k hk).1
theorem Strs_app {w0 w w1 : World} {E B : Nat} {v v' : Value} {L : List ByteArray} {x : ByteArray} {o : Go.Obj} (h : Strs w E B v L) (hbel : Below B w0 w) (hB : B ≤ w.heap.size)
  (h' : w1.ownsRow B E 1 v' (L.length + 1) (L.map Value.string ++ [.string x])) (hg : (w.alloc o).grownBy w1 v.ownBlock) : Strs w1 E B v' (L ++ [x]) ∧ Below B w0 w1 :=
 ⟨Strs_snoc rfl rfl h', (hbel.alloc hB o).grown hg (by simp; omega) (Strs_own h)⟩
theorem Strs_cases {w : World} {E B : Nat} {v : Value} {L : List ByteArray} (h : Strs w E B v L) :
  (v = .slice none 0 0 ∧ L = []) ∨ ∃ g cap, v = .slice (some ⟨g, 0, none⟩) L.length cap ∧ B ≤ g ∧ g < w.heap.size ∧ L.length ≤ cap := by
 rcases h.2 with ⟨h1, h2⟩ | ⟨g, cap, cur, h1, h2, h3, h4, _⟩
 ·exact .inl ⟨h1, List.length_eq_zero_iff.mp h2⟩
 ·exact .inr ⟨g, cap, h1, h2, (Array.getElem?_eq_some_iff.1 h3).1, h4⟩
theorem Strs_cell {w : World} {E B g n cap : Nat} {L : List ByteArray} (h : Strs w E B (.slice (some ⟨g, 0, none⟩) n cap) L) {i : Nat} (hi : i < L.length) : w.cell? ⟨g, i, none⟩ = some (.string L[i]) := by
 have hn : n = L.length := by
  rcases h.2 with ⟨h1, _⟩ | ⟨g', cap', cur, h1, _⟩
  ·simp at h1
  ·simp at h1; exact h1.2.1
 subst hn
 rw [World.ownsRow.cellAt h i (by omega)]
 simp [hi]
theorem Strs_below {w w' : World} {E B B' : Nat} {v : Value} {L : List ByteArray} (h : Strs w E B v L) (hb : Below B' w w') (hg : ∀ k, v.ownBlock = some k → k < B') : Strs w' E B v L := by
 refine ⟨h.1, ?_⟩
 rcases h.2 with g | ⟨b, cap, cur, h1, h2, h3, h4⟩
 ·exact .inl g
 ·exact .inr ⟨b, cap, cur, h1, h2, (hb.block b (hg b (by rw [h1]; rfl))).trans h3, h4⟩
def mkF : Nat → Int → ByteArray → ByteArray
 | 0, _, acc => acc
 | f + 1, m, acc => if 0 < m then mkF f (m / 10) (ByteArray.mk [UInt8.ofNat (48 + m % 10).toNat].toArray ++ acc) else acc
def mkTs (n : Int) : ByteArray := ByteArray.mk #[109] ++ mkF n.toNat n (ByteArray.mk #[])
def Row (w : World) (a : Option Addr) (n : Nat) (L : List ByteArray) : Prop := n = L.length ∧ (0 < L.length → ∃ g, a = some ⟨g, 0, none⟩ ∧ ∀ i (h : i < L.length), w.cell? ⟨g, i, none⟩ = some (.string L[i]))
def marksS (n : Nat) : List ByteArray := (List.range n).map fun i : Nat => mkTs (1 + (i : Int))
theorem Row_of {w : World} {B g cap : Nat} {L : List ByteArray} (h : Strs w 9 B (.slice (some ⟨g, 0, none⟩) L.length cap) L) : Row w (some ⟨g, 0, none⟩) L.length L :=
 ⟨rfl, fun _ => ⟨g, rfl, fun _ hi => Strs_cell h hi⟩⟩
theorem Strs_old {w w' : World} {E B : Nat} {v : Value} {L : List ByteArray} (h : Strs w E B v L) (hb : Below w.heap.size w w') : Strs w' E B v L := Strs_below h hb fun k hk => (World.ownsRow.lt h k hk).2
theorem Strs_sh {w : World} {E B n c : Nat} {a : Option Addr} {L : List ByteArray} (h : Strs w E B (.slice a n c) L) : n = L.length ∧ (0 < L.length → ∃ g, a = some ⟨g, 0, none⟩ ∧ g < w.heap.size) ∧ L.length ≤ c := by
 rcases h.2 with ⟨h1, h2⟩ | ⟨g, cap, cur, h1, h2, h3, h4, -⟩
 ·simp only [Value.slice.injEq] at h1
  exact ⟨by omega, fun h0 => by omega, by omega⟩
 ·simp only [Value.slice.injEq] at h1
  exact ⟨h1.2.1, fun _ => ⟨g, h1.1, (Array.getElem?_eq_some_iff.1 h3).1⟩, by rw [h1.2.2]; exact h4⟩
theorem infoStr : (Tryz.prog.info? 9).map (fun i => (i.zero, i.size, i.bytes)) = some (some (.string ByteArray.empty), 1, 16) := by kernel_rfl
end Go.Proofs.YteanocjkdehhgaaGreat

namespace Go.Proofs.YteanocjkdehhgaaGreat
open Go.RowKit
open Go.Lib (hid)
def Ec.nm (e : Ec) : Nat := e.q.nm
end Go.Proofs.YteanocjkdehhgaaGreat
