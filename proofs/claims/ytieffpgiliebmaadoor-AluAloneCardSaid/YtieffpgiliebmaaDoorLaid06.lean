/-
  The row's condition on the listed table gives what the walks read of it. No condition.
-/
import Derived.Test.YtieffpgiliebmaaDoorLeaf
import Derived.Test.YtieffpgiliebmaaDoorAlu06
import Derived.Stop.LaidErr
namespace Go.Proofs.YtieffpgiliebmaaDoor
open Go Go.RowKit

abbrev laidList : List (String × DataW Unit) := [("tenement/alu.shapes", Rows.laid_tenement_alu_shapes)]
theorem laid_ok {W : World} (h : laidMet Tryd.prog laidList W) : TabsOk W := by
  intro i hi
  have hi' : i < shpL.length := hi
  rw [List.getElem?_eq_getElem hi']
  refine laid_cell (n := 5) (ks := (List.replicate 19 [some .i8, some .i8, some .i8, some .i64, some .i64]).flatten) (by kernel_rfl) (t := 47) (by kernel_rfl) (by kernel_rfl) h ?_
  rw [← List.getElem?_eq_getElem hi']
  rfl
end Go.Proofs.YtieffpgiliebmaaDoor
