/-
  The row's condition on the listed tables gives what the walks read of them. No condition.
-/
import Derived.Test.YtfbkppncaampdaaDoorLeafS
import Derived.Test.YtfbkppncaampdaaDoorDecode07
import Derived.Test.YtfbkppncaampdaaDoorText07
import Derived.Stop.LaidErr
namespace Go.Proofs.YtfbkppncaampdaaDoor
open Go Go.RowKit

def TAll (w : World) : Prop := TabsOk w ∧ FmtsRow w ∧ PowOk w
theorem TAll.kp {w w' : World} (h : TAll w) (hk : Kp w w') : TAll w' := ⟨h.1.kp hk, h.2.1.kp hk, h.2.2.kp hk⟩
abbrev laidList : List (String × DataW Unit) := [("math/bits.deBruijn32tab", Rows.laid_math_bits_deBruijn32tab), ("math/bits.deBruijn64tab", Rows.laid_math_bits_deBruijn64tab), ("internal/strconv.uint64pow10", Rows.laid_internal_strconv_uint64pow10), ("tenement/alu.shapes", Rows.laid_tenement_alu_shapes), ("tenement/isa.formats", Rows.laid_tenement_isa_formats)]
set_option maxRecDepth 100000 in
theorem laid_ok {W : World} (h : laidMet Tryd.prog laidList W) : TAll W := by
  refine ⟨fun i hi => ?_, ?_, ?_⟩
  · have hi' : i < shpL.length := hi
    rw [List.getElem?_eq_getElem hi']
    refine laid_cell (n := 5) (ks := (List.replicate 19 [some .i8, some .i8, some .i8, some .i64, some .i64]).flatten) (by kernel_rfl) (t := 80) (by kernel_rfl) (by kernel_rfl) h.tail.tail.tail ?_
    rw [← List.getElem?_eq_getElem hi']
    rfl
  · exact laid_row (n := 5) (ks := (List.replicate 19 [none, some .u32, none, none, none, some .i64, some .i64, none]).flatten) (by kernel_rfl) (t := 63) (by kernel_rfl) (by kernel_rfl) h.tail.tail.tail.tail
  · exact Lib.tabIs_of_head (rest := laidList.drop 3) (g := 2) (by kernel_rfl) (t := 128) (e := 56) (n := 20) (by kernel_rfl) Tryd.underlying128 Tryd.underlying56 (by kernel_rfl) (by kernel_rfl) h.tail.tail
end Go.Proofs.YtfbkppncaampdaaDoor
