/-
  The row's condition on the listed table of kinds gives what the walks read of it. No condition.
-/
import Derived.Test.YtgjjbgijdgihcaaDoorLeaf
import Derived.Test.YtgjjbgijdgihcaaDoorPSm09
import Derived.Stop.LaidErr
namespace Go.Proofs.YtgjjbgijdgihcaaDoor
open Go Go.RowKit

abbrev laidList : List (String × DataW Unit) := [("tenement/buffer.kinds", Rows.laid_tenement_buffer_kinds)]
theorem laid_ok {W : World} (h : laidMet Tryd.prog laidList W) : TabsOk W := by
  intro i hi
  have hi' : i < kindL.length := hi
  rw [List.getElem?_eq_getElem hi']
  refine laid_cell (n := 5) (ks := (List.replicate 4 [none, none, none]).flatten) (by kernel_rfl) (t := 61) (by kernel_rfl) (by kernel_rfl) h ?_
  rw [← List.getElem?_eq_getElem hi']
  rfl
end Go.Proofs.YtgjjbgijdgihcaaDoor
