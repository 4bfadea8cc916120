import Derived.Test.YtjjainnafihkdaaGreatVbe
import Derived.Test.YtjjainnafihkdaaGreatRhi
import Derived.Deep.RegionHeld3
import Derived.Deep.AppendLies
set_option maxRecDepth 512
set_option maxHeartbeats 200000
set_option linter.unusedVariables false
namespace Go.Proofs.YtjjainnafihkdaaGreat
open Go.RowKit
open Go.Lib (hid)
structure Tq where
 c : Int
 s : Bool
 A : List Int
 D : List Int
end Go.Proofs.YtjjainnafihkdaaGreat
namespace Go.Proofs.YtjjainnafihkdaaGreat
open Go.RowKit
open Go.Lib (hid)
def Tq.n (f : Tq) : Nat := 2 + f.A.length + f.D.length
def Tq.m (f : Tq) : Nat := 1 + f.A.length + f.D.length
def Tq.mk' (f : Tq) (m : Int) : Tq := ⟨m, (m + 1) % 3 == 0, marks f.A.length (m + 2), marks f.D.length (m + 2 + (f.A.length : Int))⟩
end Go.Proofs.YtjjainnafihkdaaGreat
namespace Go.Proofs.YtjjainnafihkdaaGreat
open Go.RowKit
open Go.Lib (hid)
end Go.Proofs.YtjjainnafihkdaaGreat
namespace Go.Proofs.YtjjainnafihkdaaGreat
open Go.RowKit
open Go.Lib (hid)
end Go.Proofs.YtjjainnafihkdaaGreat
namespace Go.Proofs.YtjjainnafihkdaaGreat
open Go.RowKit
open Go.Lib (hid)
end Go.Proofs.YtjjainnafihkdaaGreat
namespace Go.Proofs.YtjjainnafihkdaaGreat
open Go.RowKit
open Go.Lib (hid)
end Go.Proofs.YtjjainnafihkdaaGreat
namespace Go.Proofs.YtjjainnafihkdaaGreat
open Go.RowKit
open Go.Lib (hid)
def Tq.o (f : Tq) : Option Rat := rval f.s f.A f.D
def Tq.f (f : Tq) : Fq := ⟨f.s, f.A, f.D⟩
variable {ops : Array Oper} {o : Oper} {a : Act} {p : Bool} {W : World} {v x y : Value} {Ks : List Tq} {lo hi lo' B : Nat} {sg : Bool} {oo : Option Rat} {x0 : Int}
end Go.Proofs.YtjjainnafihkdaaGreat
