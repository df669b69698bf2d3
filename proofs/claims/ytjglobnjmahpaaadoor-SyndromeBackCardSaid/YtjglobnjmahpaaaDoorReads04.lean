/-
  SyndromeReads returns true. No condition but the tables.
-/
import Derived.Test.YtjglobnjmahpaaaDoorSynDcd
import Derived.Test.YtjglobnjmahpaaaDoorWakes04
namespace Go.Proofs.YtjglobnjmahpaaaDoor
open Go Go.RowKit

theorem nat_of (a : Int) (h : (Lit.int .u64 a).wf = true) : ∃ n : Nat, a = (n : Int) ∧ n < 18446744073709551616 := by
  have ha : 0 ≤ a ∧ a < 18446744073709551616 := by
    simp [Lit.wf, IntKind.min, IntKind.max, IntKind.bits, IntKind.signed] at h
    omega
  obtain ⟨n, rfl⟩ := Int.eq_ofNat_of_zero_le ha.1
  exact ⟨n, rfl, by omega⟩
set_option maxHeartbeats 2000000 in
theorem walkReads (a b : Int) (w : World) (hT : TabsOk w) (hB : Bru w) (wa : (Lit.int .u64 a).wf = true) (wb : (Lit.int .u64 b).wf = true) :
    Calls Tryd.prog 4 #[.int .u64 a, .int .u64 b] w fun e w' => e = .returned (.bool true) ∧ Kp w w' := by
  obtain ⟨x, rfl, hx⟩ := nat_of a wa
  obtain ⟨far, rfl, hf⟩ := nat_of b wb
  have HX := Lib.hid hx
  have HT := Lib.hid hT
  have HB := Lib.hid hB
  clear hT hB hx hf wa wb
  go_enter Tryd.func4, Tryd.ntmps4
  go_wp2_with fail
  refine (decode_any x far _ HX.out HT.out).mono ?_; rintro e w1 ⟨rfl, hg⟩
  have H1 := Lib.hid hg; clear hg
  have hS := Blk.new w1 #[.int .i8 (dC x far), .bool (dS x far), .int .i8 (dF x far), .int .i8 (dL x far), .int .u64 (dA x far)] 25
  have HS := Lib.hid hS; clear hS
  go_wp2_with fail
  refine (rdecode_any x far _).mono ?_; rintro e w2 ⟨rfl, hg⟩
  have H2 := Lib.hid hg; clear hg
  have hS := HS.out.kp H2.out
  have z0 := hS.cell 0
  have z1 := hS.cell 1
  have z2 := hS.cell 2
  have z3 := hS.cell 3
  have z4 := hS.cell 4
  simp at z0 z1 z2 z3 z4
  have hlt : w1.heap.size < w2.heap.size := hS.lt
  clear hS
  have HK := Lib.hid ((H1.out.alloc #[.int .i8 (dC x far), .bool (dS x far), .int .i8 (dF x far), .int .i8 (dL x far), .int .u64 (dA x far)] 25).trans H2.out |>.alloc #[.int .i8 (dC x far), .bool (dS x far), .int .i8 (dF x far), .int .i8 (dL x far), .int .u64 (dA x far)] 25)
  go_wp2_with fail
  refine (wakes_any _ (HT.out.kp HK.out) (HB.out.kp HK.out)).mono ?_; rintro e w3 ⟨rfl, hg⟩
  have H3 := Lib.hid hg; clear hg
  go_wp2
  go_ret
  exact ⟨rfl, HK.out.trans H3.out⟩
end Go.Proofs.YtjglobnjmahpaaaDoor
