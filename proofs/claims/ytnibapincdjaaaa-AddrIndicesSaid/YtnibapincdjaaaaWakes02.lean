/-
  What the document says of a few numbers holds of package addr: 'wakes' returns true. No condition.
-/
import Derived.Test.YtnibapincdjaaaaAddrFrom
namespace Go.Proofs.Ytnibapincdjaaaa
open Go Go.RowKit

theorem wakes_i3 (w : World) : Calls Try.prog 20 #[.int .u64 513, .int .i64 3] w fun e w' => e = .returned (.tuple #[.int .i64 1, .int .i64 0]) ∧ Kp w w' := index_any 513#64 3 w
theorem wakes_i2 (w : World) : Calls Try.prog 20 #[.int .u64 513, .int .i64 2] w fun e w' => e = .returned (.tuple #[.int .i64 1, .int .i64 0]) ∧ Kp w w' := index_any 513#64 2 w
theorem wakes_p2 (w : World) : Calls Try.prog 22 #[.int .u64 513, .int .i64 2] w fun e w' => e = .returned (.tuple #[.int .u64 1, .int .i64 0]) ∧ Kp w w' := prefix_any 513#64 2 w
theorem wakes_from (w : World) : Calls Try.prog 24 #[.agg #[.int .i64 256, .int .i64 0, .int .i64 0, .int .i64 0]] w fun e w' => e = .returned (.tuple #[.int .u64 0, .int .i64 2]) ∧ Kp w w' := from_any 256 0 0 0 w (by decide) (by decide) (by decide) (by decide)
theorem wakes_page (w : World) : Calls Try.prog 15 #[.int .u64 140737488351240] w fun e w' => e = .returned (.int .u64 34359738367) ∧ Kp w w' := page_any 140737488351240#64 w
theorem wakes_place (w : World) : Calls Try.prog 17 #[.int .u64 140737488351240] w fun e w' => e = .returned (.int .i64 1) ∧ Kp w w' := place_any 140737488351240#64 w
theorem wakes_any (w : World) : Calls Try.prog 19 #[] w fun e w' => e = .returned (.bool true) ∧ Kp w w' := by
  go_enter Try.func19, Try.ntmps19
  go_wp2_with fail
  refine (wakes_i3 _).mono ?_; rintro e w1 ⟨rfl, hg⟩
  have H1 := Lib.hid hg; clear hg
  go_wp2_with fail
  refine (wakes_i2 _).mono ?_; rintro e w2 ⟨rfl, hg⟩
  have H2 := Lib.hid hg; clear hg
  go_wp2_with fail
  refine (wakes_p2 _).mono ?_; rintro e w3 ⟨rfl, hg⟩
  have H3 := Lib.hid hg; clear hg
  go_wp2_with fail
  refine (wakes_from _).mono ?_; rintro e w4 ⟨rfl, hg⟩
  have H4 := Lib.hid hg; clear hg
  go_wp2_with fail
  refine (wakes_page _).mono ?_; rintro e w5 ⟨rfl, hg⟩
  have H5 := Lib.hid hg; clear hg
  go_wp2_with fail
  refine (wakes_place _).mono ?_; rintro e w6 ⟨rfl, hg⟩
  have H6 := Lib.hid hg; clear hg
  go_wp2_with fail
  go_ret
  exact ⟨rfl, (by (repeat (first | apply Kp.drew | apply Kp.alloc)); refine Kp.trans ?_ H6.out; (repeat (first | apply Kp.drew | apply Kp.alloc)); refine Kp.trans ?_ H5.out; (repeat (first | apply Kp.drew | apply Kp.alloc)); refine Kp.trans ?_ H4.out; (repeat (first | apply Kp.drew | apply Kp.alloc)); refine Kp.trans ?_ H3.out; (repeat (first | apply Kp.drew | apply Kp.alloc)); refine Kp.trans ?_ H2.out; (repeat (first | apply Kp.drew | apply Kp.alloc)); refine Kp.trans ?_ H1.out; (repeat (first | apply Kp.drew | apply Kp.alloc)); exact Kp.refl _)⟩
end Go.Proofs.Ytnibapincdjaaaa
