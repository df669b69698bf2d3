/-
  The row's condition on the four listed tables gives what the walks read of them. No condition.
-/
import Derived.Test.YtjglobnjmahpaaaDoorLeaf
import Derived.Test.YtjglobnjmahpaaaDoorFmt
import Derived.Stop.LaidErr
namespace Go.Proofs.YtjglobnjmahpaaaDoor
open Go Go.RowKit

abbrev laidList : List (String × DataW Unit) := [("math/bits.deBruijn32tab", Rows.laid_math_bits_deBruijn32tab), ("math/bits.deBruijn64tab", Rows.laid_math_bits_deBruijn64tab), ("internal/strconv.uint64pow10", Rows.laid_internal_strconv_uint64pow10), ("tenement/syndrome.classes", Rows.laid_tenement_syndrome_classes)]
theorem laid_ok {W : World} (h : laidMet Tryd.prog laidList W) : TabsOk W ∧ Bru W := by
  refine ⟨fun i hi => ?_, ?_⟩
  · have hi' : i < clsL.length := hi
    rw [List.getElem?_eq_getElem hi']
    refine laid_cell (n := 4) (ks := List.replicate 5 (some .u64)) (by kernel_rfl) (t := 46) (by kernel_rfl) (by kernel_rfl) h.tail.tail.tail ?_
    rw [← List.getElem?_eq_getElem hi']
    rfl
  · exact laid_cell (n := 4) (ks := List.replicate 64 (some .u8)) (by kernel_rfl) (t := 81) (by kernel_rfl) (by kernel_rfl) h.tail rfl
end Go.Proofs.YtjglobnjmahpaaaDoor
