/-
  The law on no memory. No condition.
-/
import Derived.Test.YtnjdglejcfdonaaWakes08
namespace Go.Proofs.Ytnjdglejcfdonaa
open Go Go.RowKit Go.Maps

theorem memnil_any (a b k W X fr fm : Int) (w : World) :
    Calls Try.prog 4 #[.int .u64 a, .int .u64 b, .agg #[.int .i8 k, .int .u64 W, .int .u64 X, .int .i64 fr, .int .i64 fm]] w fun e w' => e = .returned (.bool true) ∧ Kp w w' := by
  have H0 : Hid (Kp w (w.alloc (.cells #[.int .i8 k, .int .u64 W, .int .u64 X, .int .i64 fr, .int .i64 fm] 35))) := Lib.hid ((Kp.refl w).alloc _ _)
  have HB : Hid (Blk (w.alloc (.cells #[.int .i8 k, .int .u64 W, .int .u64 X, .int .i64 fr, .int .i64 fm] 35)) w.heap.size #[.int .i8 k, .int .u64 W, .int .u64 X, .int .i64 fr, .int .i64 fm] 35) := Lib.hid (Blk.new w _ _)
  go_enter Try.func4, Try.ntmps4
  go_wp2_with (first
    | (go_at_call 17; refine (pread_nil _ _).mono ?_; rintro e w1 ⟨rfl, hg⟩; have K1 := Lib.hid hg; clear hg)
    | (go_at_call 18; refine (padd_nil _ _ _).mono ?_; rintro e w2 ⟨rfl, hg⟩; have K2 := Lib.hid hg; clear hg)
    | (go_at_call 12; refine (pwrite_nil _ _ _).mono ?_; rintro e w3 ⟨rfl, hg⟩; have K3 := Lib.hid hg; clear hg; have q0 := (((HB.out.kp K1.out).kp K2.out).kp K3.out).cell 0; have q1 := (((HB.out.kp K1.out).kp K2.out).kp K3.out).cell 1; have q2 := (((HB.out.kp K1.out).kp K2.out).kp K3.out).cell 2; have q3 := (((HB.out.kp K1.out).kp K2.out).kp K3.out).cell 3; have q4 := (((HB.out.kp K1.out).kp K2.out).kp K3.out).cell 4)
    | (go_at_call 19; refine (preach_nil k W X fr fm _).mono ?_; rintro e w4 ⟨rfl, hg⟩; have K4 := Lib.hid hg; clear hg q0 q1 q2 q3 q4)
    | (go_at_call 16; refine (pframes_nil _).mono ?_; rintro e w5 ⟨rfl, hg⟩; have K5 := Lib.hid hg; clear hg)
    | (go_at_call 14; refine (pwords_nil _ _).mono ?_; rintro e w6 ⟨rfl, hg⟩; have K6 := Lib.hid hg; clear hg)
    | (go_at_call 11; refine (pcopy_nil _).mono ?_; rintro e w7 ⟨rfl, hg⟩; have K7 := Lib.hid hg; clear hg)
    | (go_at_call 7; refine (wakes_any _).mono ?_; rintro e w8 ⟨rfl, hg⟩; have K8 := Lib.hid hg; clear hg))
  go_ret
  exact ⟨rfl, (((((((H0.out.trans K1.out).trans K2.out).trans K3.out).trans K4.out).trans K5.out).trans K6.out).trans K7.out).trans K8.out⟩
end Go.Proofs.Ytnjdglejcfdonaa
