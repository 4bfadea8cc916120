/- What the listed variables of the row of ParseInt give a walk: the table of powers of ten, and that the two error variables hold errors. -/
import Derived.Test.YthkhnifgkcgkmaaDoorLaid
import Derived.Test.YthkhnifgkcgkmaaDoorParI
namespace Go.Proofs.YthkhnifgkcgkmaaDoor
open Go.RowKit

theorem gRange : Tryd.prog.globalNamed "strconv.ErrRange" = some 1 := by kernel_rfl
theorem gSyntax : Tryd.prog.globalNamed "strconv.ErrSyntax" = some 0 := by kernel_rfl
theorem tRange : (Tryd.prog.globals[1]?).map (·.type) = some 44 := by kernel_rfl
theorem tSyntax : (Tryd.prog.globals[0]?).map (·.type) = some 44 := by kernel_rfl

theorem err_of_head {W : World} {name nm : String} {d : DataW Unit} {rest : List (String × DataW Unit)} {g : Nat}
    (hg : Tryd.prog.globalNamed name = some g) (hty : (Tryd.prog.globals[g]?).map (·.type) = some 44)
    (h : laidMet Tryd.prog ((name, .iface nm d) :: rest) W) : ErrCell W g := by
  obtain ⟨ps, ⟨g', t', cs, fuel, p, q, hg', ht', hvar, hd, _, _⟩, _⟩ := h
  obtain rfl := Option.some.inj (hg.symm.trans hg')
  obtain rfl := Option.some.inj (hty.symm.trans ht')
  obtain ⟨f1, u, v, hcs, _, _⟩ := iface_of_trod Tryd.underlying44 hd
  have hc := World.var?_cell hg hvar 0
  obtain ⟨l⟩ := cs
  simp at hcs
  subst hcs
  exact ⟨.iface u v, by simpa using hc, .inr ⟨u, v, rfl⟩⟩

theorem facts_of_laidP {W : World} (h : laidMetH Tryd.prog Rows.fnExactParseIntRow.laid W) : ErrCell W 0 ∧ ErrCell W 1 ∧ Pow10 W := by
  rw [MakeChecks.laidMetH_plain _ _ _ (by kernel_rfl)] at h
  have h2 : laidMet Tryd.prog (("internal/strconv.uint64pow10", Lib.tabData .u64 Lib.pow10Tab) :: [("strconv.ErrRange", Rows.laid_strconv_ErrRange), ("strconv.ErrSyntax", Rows.laid_strconv_ErrSyntax)]) W := by
    rw [← pow_same]; exact h.tail.tail
  exact ⟨err_of_head gSyntax tSyntax h2.tail.tail, err_of_head gRange tRange h2.tail, Lib.tabIs_of_head gPow tPow Tryd.underlying89 Tryd.underlying62 (by kernel_rfl) (by kernel_rfl) h2⟩

theorem door_metP (os : Os) (args : Array Value) : laidMetH Tryd.prog Rows.fnExactParseIntRow.laid ((World.doorLaid Tryd.prog 400 os).forCall (fun _ _ => 0) ⟨#[], args, []⟩).memory :=
  laidMetH_of_parts3 (fuel := 8) (laidMet_of_run' 8 (by kernel_rfl) (by kernel_rfl)) (by kernel_rfl) (by kernel_rfl)
end Go.Proofs.YthkhnifgkcgkmaaDoor
