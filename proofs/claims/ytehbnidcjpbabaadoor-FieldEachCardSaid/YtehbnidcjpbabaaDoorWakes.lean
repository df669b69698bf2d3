/-
  What the document says of three calls of package field holds: 'wakes' returns true. No condition.
-/
import Derived.Test.YtehbnidcjpbabaaDoorField
namespace Go.Proofs.YtehbnidcjpbabaaDoor
open Go Go.RowKit

theorem wakes_put16 (w : World) : Calls Tryd.prog 9 #[.int .u64 0, .int .i64 7, .int .i64 4, .int .u64 16] w fun e w' => e = .returned (.tuple #[.int .u64 0, .int .i64 2]) ∧ Kp w w' :=
  put_not 0#64 16#64 7 4 w (by decide) (by decide) (by decide)
theorem wakes_put15 (w : World) : Calls Tryd.prog 9 #[.int .u64 0, .int .i64 7, .int .i64 4, .int .u64 15] w fun e w' => e = .returned (.tuple #[.int .u64 240, .int .i64 0]) ∧ Kp w w' :=
  put_yes 0#64 15#64 7 4 w (by decide) (by decide) (by decide)
theorem wakes_get (w : World) : Calls Tryd.prog 10 #[.int .u64 43981, .int .i64 11, .int .i64 4] w fun e w' => e = .returned (.int .u64 188) ∧ Kp w w' :=
  get_yes 43981#64 11 4 w (by decide) (by decide)
theorem wakes_sign (w : World) : Calls Tryd.prog 11 #[.int .u64 15, .int .i64 3] w fun e w' => e = .returned (.int .i64 (-1)) ∧ Kp w w' :=
  sign_yes 15#64 3 w (by decide)
theorem wakes_any (w : World) : Calls Tryd.prog 6 #[] w fun e w' => e = .returned (.bool true) ∧ Kp w w' := by
  go_enter Tryd.func6, Tryd.ntmps6
  go_wp2_with fail
  refine (wakes_put16 _).mono ?_; rintro e w1 ⟨rfl, h1⟩
  have H1 := Lib.hid h1; clear h1
  go_wp2_with fail
  refine (wakes_put15 _).mono ?_; rintro e w2 ⟨rfl, h2⟩
  have H2 := Lib.hid h2; clear h2
  go_wp2_with fail
  refine (wakes_get _).mono ?_; rintro e w3 ⟨rfl, h3⟩
  have H3 := Lib.hid h3; clear h3
  go_wp2_with fail
  refine (wakes_sign _).mono ?_; rintro e w4 ⟨rfl, h4⟩
  have H4 := Lib.hid h4; clear h4
  go_wp2_with fail
  go_ret
  exact ⟨rfl, Kp.trans H1.out (Kp.trans H2.out (Kp.trans H3.out H4.out))⟩
end Go.Proofs.YtehbnidcjpbabaaDoor
