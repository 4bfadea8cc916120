import Derived.Test.YthkehmnodcmlcaaGreatRhiP
import Derived.Deep.RegionHeld3
import Derived.Test.YthkehmnodcmlcaaGreatRoP
import Derived.Deep.AppendLies
set_option maxRecDepth 100000
set_option maxHeartbeats 3200000
set_option linter.unusedVariables false
set_option linter.unusedSimpArgs false
namespace Go.Proofs.YthkehmnodcmlcaaGreat
open Go.RowKit
open Go.Lib (hid)
structure Fq where
 s : Bool
 A : List Int
 D : List Int
structure El where
 q : Fq
 v : Value
 u : Value
def El.cs (e : El) : List Value := [.bool e.q.s, e.v, e.u]
theorem own_block {w w' : World} {B k n : Nat} {T : TypeId} {v : Value} {xs : List Value} (h : w.ownsRow B T k v n xs) (hb : ∀ j, v.ownBlock = some j → w'.heap[j]? = w.heap[j]?) : w'.ownsRow B T k v n xs := by
 refine ⟨h.1, ?_⟩
 rcases h.2 with g | ⟨b, cap, cur, h1, h2, h3, h4⟩
 ·exact .inl g
 ·exact .inr ⟨b, cap, cur, h1, h2, (hb b (by rw [h1]; rfl)).trans h3, h4⟩
theorem own_base {w : World} {B B' k n : Nat} {T : TypeId} {v : Value} {xs : List Value} (h : w.ownsRow B T k v n xs) (hB : B' ≤ B) : w.ownsRow B' T k v n xs := by
 refine ⟨h.1, ?_⟩
 rcases h.2 with g | ⟨b, cap, cur, h1, h2, h3⟩
 ·exact .inl g
 ·exact .inr ⟨b, cap, cur, h1, Nat.le_trans hB h2, h3⟩
theorem own_ne {w : World} {B B' k k' n n' : Nat} {T T' : TypeId} {v u : Value} {xs ys : List Value} (h : w.ownsRow B T k v n xs) (h' : w.ownsRow B' T' k' u n' ys) (hT : T ≠ T') : ∀ j, v.ownBlock = some j → u.ownBlock ≠ some j := by
 intro j hv hu
 rcases h.2 with ⟨rfl, -⟩ | ⟨b, cap, cur, rfl, h2, h3, h4⟩
 ·simp [Value.ownBlock] at hv
 ·rcases h'.2 with ⟨rfl, -⟩ | ⟨b', cap', cur', rfl, h2', h3', h4'⟩
  ·simp [Value.ownBlock] at hu
  ·simp only [Value.ownBlock, Option.some.injEq] at hv hu
   subst hv
   subst hu
   rw [h3] at h3'
   simp only [Option.some.injEq, Go.Obj.cells.injEq] at h3'
   exact hT h3'.2.1
def Apt (e e' : El) : Prop := ∀ k, (e.v.ownBlock = some k ∨ e.u.ownBlock = some k) → ¬ (e'.v.ownBlock = some k ∨ e'.u.ownBlock = some k)
theorem Apt.symm {e e' : El} (h : Apt e e') : Apt e' e := fun k h1 h2 => h k h2 h1
end Go.Proofs.YthkehmnodcmlcaaGreat
namespace Go.Proofs.YthkehmnodcmlcaaGreat
open Go.RowKit
open Go.Lib (hid)
def Fq.n (f : Fq) : Nat := 1 + f.A.length + f.D.length
def Fq.mk' (f : Fq) (m : Int) : Fq := ⟨m % 3 == 0, marks f.A.length (m + 1), marks f.D.length (m + 1 + (f.A.length : Int))⟩
theorem list_set_at {α : Type} {l : List α} {k : Nat} (h : k < l.length) (x : α) : (l.set k x)[k]'(by rw [List.length_set]; exact h) = x := by simp
end Go.Proofs.YthkehmnodcmlcaaGreat
namespace Go.Proofs.YthkehmnodcmlcaaGreat
open Go.RowKit
open Go.Lib (hid)
end Go.Proofs.YthkehmnodcmlcaaGreat
namespace Go.Proofs.YthkehmnodcmlcaaGreat
open Go.RowKit
open Go.Lib (hid)
end Go.Proofs.YthkehmnodcmlcaaGreat
namespace Go.Proofs.YthkehmnodcmlcaaGreat
open Go.RowKit
open Go.Lib (hid)
theorem run_make_rowk {P : Program} (t e : TypeId) (z : Value) (zs : Array Value) (size bytes : Nat) (ht : P.underlying t = some (.slice e)) (hinfo : (P.info? e).map (fun i => (i.zero, i.size, i.bytes)) = some (some z, size, bytes)) (hz1 : z.cells = zs)
  (kl kc : IntKind) (n : Nat) (hbytes : bytes * n ≤ 281474976710656) (h63 : n ≤ 9223372036854775807) (w : World) :
  (Instr.makeSlice t (.int kl (n : Int)) (.int kc (n : Int))).run P w = .ok (.slice (some ⟨w.heap.size, 0, none⟩) n n) (w.alloc (.cells (madeCells zs (n * size)) e)) := by
 obtain ⟨i, hi, hzz⟩ := Option.map_eq_some_iff.1 hinfo
 simp only [Prod.mk.injEq] at hzz
 obtain ⟨hz, hs, hb⟩ := hzz
 have hb' : (i.bytes : Int) * (n : Int) ≤ 281474976710656 := by
  have h : ((i.bytes * n : Nat) : Int) ≤ 281474976710656 := by rw [hb]; omega
  rwa [Int.natCast_mul] at h
 have hr := run_make (P := P) w t e i z ht hi hz kl kc n n (by omega) (Int.le_refl _) hb' (by omega)
 simp only [Int.toNat_natCast, hs, hz1] at hr
 exact hr
end Go.Proofs.YthkehmnodcmlcaaGreat
namespace Go.Proofs.YthkehmnodcmlcaaGreat
open Go.RowKit
open Go.Lib (hid)
end Go.Proofs.YthkehmnodcmlcaaGreat
namespace Go.Proofs.YthkehmnodcmlcaaGreat
open Go.RowKit
open Go.Lib (hid)
end Go.Proofs.YthkehmnodcmlcaaGreat
namespace Go.Proofs.YthkehmnodcmlcaaGreat
open Go.RowKit
open Go.Lib (hid)
def Fq.o (f : Fq) : Option Rat := rval f.s f.A f.D
def fqo (o : Option Rat) : Fq := ⟨gzs (qn o), gzl (qn o), gzl (qd o)⟩
theorem fqo_o {o : Option Rat} (h : fitO o) : (fqo o).o = o := by
 have := (rval_parts h).1
 simp only [Fq.o, fqo]
 exact this
theorem fqo_A (o : Option Rat) : (fqo o).A = gzl (qn o) := by simp only [fqo]
theorem fqo_D (o : Option Rat) : (fqo o).D = gzl (qd o) := by simp only [fqo]
section
variable {ops : Array Oper} {o : Oper} {a : Act} {p : Bool} {W : World} {v x y : Value} {Ks : List Fq} {lo hi lo' B : Nat} {sg : Bool} {oo : Option Rat}
end
end Go.Proofs.YthkehmnodcmlcaaGreat
