/-
  The row's condition on package desc's three tables gives what the walks read of them. No condition.
-/
import Derived.Test.YtpdgajlookhpfaaDoorLeaf
import Derived.Test.YtpdgajlookhpfaaDoorDesc
import Derived.Stop.LaidErr
namespace Go.Proofs.YtpdgajlookhpfaaDoor
open Go Go.RowKit

abbrev laidList : List (String × DataW Unit) := [("tenement/desc.spots", Rows.laid_tenement_desc_spots), ("tenement/desc.kinds", Rows.laid_tenement_desc_kinds), ("tenement/desc.levels", Rows.laid_tenement_desc_levels)]
theorem laid_ok {W : World} (h : laidMet Tryd.prog laidList W) : TabsOk W := by
  refine ⟨fun i hi => ?_, fun i hi => ?_, fun i hi => ?_⟩
  · rw [List.getElem?_eq_getElem hi]
    refine laid_cell (n := 4) (ks := List.replicate 10 (some .i64)) (by kernel_rfl) (t := 44) (by kernel_rfl) (by kernel_rfl) h ?_
    rw [← List.getElem?_eq_getElem hi]
    rfl
  · rw [List.getElem?_eq_getElem hi]
    refine laid_cell (n := 4) (ks := List.replicate 18 (some .u64)) (by kernel_rfl) (t := 41) (by kernel_rfl) (by kernel_rfl) h.tail ?_
    rw [← List.getElem?_eq_getElem hi]
    rfl
  · rw [List.getElem?_eq_getElem hi]
    refine laid_cell (n := 4) (ks := List.replicate 4 (some .i8)) (by kernel_rfl) (t := 48) (by kernel_rfl) (by kernel_rfl) h.tail.tail ?_
    rw [← List.getElem?_eq_getElem hi]
    rfl
end Go.Proofs.YtpdgajlookhpfaaDoor
