/-
  What the document says of a copy and of an addition comes out so. No condition.
-/
import Derived.Test.YtnjdglejcfdonaaPair08
namespace Go.Proofs.Ytnjdglejcfdonaa
open Go Go.RowKit Go.Maps

theorem wk_new (w : World) : Calls Try.prog 8 #[.int .i64 4] w fun e w' => ∃ b, e = .returned (.tuple #[.pointer (some ⟨b, 0, none⟩), .int .i64 0]) ∧ OM b 4 (fun _ _ => 0) w w' := own_new 4 w (by decide) (by decide)
theorem wk_write (w0 w : World) (b : Nat) (V : Nat → Nat → Nat) (h : OM b 4 V w0 w) : Calls Try.prog 12 #[.pointer (some ⟨b, 0, none⟩), .int .u64 513, .int .u64 7] w fun e w' => e = .returned (.int .i64 0) ∧ OM b 4 (putV V 1 1 7) w0 w' := own_write 513 7 w0 w b 4 V h (by decide) (by decide)
theorem wk_reach (w0 w : World) (b : Nat) (V : Nat → Nat → Nat) (h : OM b 4 V w0 w) : Calls Try.prog 19 #[.pointer (some ⟨b, 0, none⟩), .agg #[.int .i8 3, .int .u64 0, .int .u64 0, .int .i64 1, .int .i64 2]] w fun e w' => e = .returned (.int .i64 0) ∧ OM b 4 (setF V 2 (V 1)) w0 w' := own_reach 3 0 0 1 2 w0 w b 4 V h (by decide) (by decide) (by decide)
theorem wk_read (W x f p : Nat) (hW : W < 18446744073709551616) (w0 w : World) (b : Nat) (V : Nat → Nat → Nat) (h : OM b 4 V w0 w) (hf : W / 512 = f) (hp : W % 512 = p) (h4 : f < 4) (hx : V f p = x) : Calls Try.prog 17 #[.pointer (some ⟨b, 0, none⟩), .int .u64 W] w fun e w' => e = .returned (.tuple #[.int .u64 x, .int .i64 0]) ∧ OM b 4 V w0 w' := by
  have q := own_read W w0 w b 4 V h hW
  rwa [hf, hp, if_pos h4, if_pos h4, hx] at q
theorem wk_add (x y : Nat) (w0 w : World) (b : Nat) (V : Nat → Nat → Nat) (h : OM b 4 V w0 w) (hx : V 0 0 = x) (hy : (x + 1) % 18446744073709551616 = y) : Calls Try.prog 18 #[.pointer (some ⟨b, 0, none⟩), .int .u64 0, .int .u64 1] w fun e w' => e = .returned (.tuple #[.int .u64 x, .int .i64 0]) ∧ OM b 4 (putV V 0 0 y) w0 w' := by
  have q := own_add 0 1 w0 w b 4 V h (by decide)
  rw [show 0 / 512 = 0 from rfl, show 0 % 512 = 0 from rfl, if_pos (by decide : 0 < 4), if_pos (by decide : 0 < 4), if_pos (by decide : 0 < 4), hx, hy] at q
  exact q
theorem wakes_any (w : World) : Calls Try.prog 7 #[] w fun e w' => e = .returned (.bool true) ∧ Kp w w' := by
  go_enter Try.func7, Try.ntmps7
  go_wp2_with (first
    | (go_at_call 8; refine (wk_new _).mono ?_; rintro e w1 ⟨b, rfl, ho⟩; have H1 := Lib.hid ho; clear ho)
    | (go_at_call 12; refine (wk_write _ _ _ _ H1.out).mono ?_; rintro e w2 ⟨rfl, ho⟩; have H2 := Lib.hid ho; clear ho)
    | (go_at_call 19; refine (wk_reach _ _ _ _ H2.out).mono ?_; rintro e w3 ⟨rfl, ho⟩; have H3 := Lib.hid ho; clear ho)
    | (go_at_call 17; refine (wk_read 0 2 0 0 (by decide) _ _ _ _ H6.out rfl rfl (by decide) (by decide)).mono ?_; rintro e w7 ⟨rfl, ho⟩; have H7 := Lib.hid ho; clear ho)
    | (go_at_call 17; refine (wk_read 1025 7 2 1 (by decide) _ _ _ _ H3.out rfl rfl (by decide) (by decide)).mono ?_; rintro e w4 ⟨rfl, ho⟩; have H4 := Lib.hid ho; clear ho)
    | (go_at_call 18; refine (wk_add 1 2 _ _ _ _ H5.out (by decide) (by decide)).mono ?_; rintro e w6 ⟨rfl, ho⟩; have H6 := Lib.hid ho; clear ho)
    | (go_at_call 18; refine (wk_add 0 1 _ _ _ _ H4.out (by decide) (by decide)).mono ?_; rintro e w5 ⟨rfl, ho⟩; have H5 := Lib.hid ho; clear ho))
  go_ret
  exact ⟨rfl, H7.out.below⟩
end Go.Proofs.Ytnjdglejcfdonaa
