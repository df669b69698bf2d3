/-
  SyndromeWords returns true. No condition but the tables.
-/
import Derived.Test.YtjglobnjmahpaaaDoorWakes04
import Derived.Test.YtjglobnjmahpaaaDoorRefText
namespace Go.Proofs.YtjglobnjmahpaaaDoor
open Go Go.RowKit

set_option maxHeartbeats 2000000 in
theorem walkWords (c : Int) (st : Bool) (f l a : Int) (w : World) (hT : TabsOk w) (hB : Bru w) (wc : (Lit.int .i8 c).wf = true) (wa : (Lit.int .u64 a).wf = true) :
    Calls Tryd.prog 3 #[.agg #[.int .i8 c, .bool st, .int .i8 f, .int .i8 l, .int .u64 a]] w fun e w' => e = .returned (.bool true) ∧ Kp w w' := by
  have ha : 0 ≤ a ∧ a < 18446744073709551616 := by
    simp [Lit.wf, IntKind.min, IntKind.max, IntKind.bits, IntKind.signed] at wa
    omega
  obtain ⟨n, rfl⟩ := Int.eq_ofNat_of_zero_le ha.1
  have HN : Hid (n < 18446744073709551616) := Lib.hid (by omega)
  have HT := Lib.hid hT
  have HB := Lib.hid hB
  have WC := Lib.hid wc
  clear hT hB wc wa ha
  go_enter Tryd.func3, Tryd.ntmps3
  have S0 := Lib.hid (synAt_new w c st f l n HT.out)
  go_wp2_with fail
  refine (encode_any c st f l n _ S0.out.2.2.2.2.2.1 WC.out).mono ?_; rintro e w1 ⟨rfl, hg⟩
  have H1 := Lib.hid hg; clear hg
  have S1 := Lib.hid (S0.out.kp H1.out)
  obtain ⟨z0, z1, z2, z3, z4, -⟩ := S1.out
  go_wp2_with fail
  refine (rencode_any c st f l n _).mono ?_; rintro e w2 ⟨rfl, hg⟩
  have H2 := Lib.hid hg; clear hg
  have S2 := Lib.hid (S1.out.kp H2.out)
  clear z0 z1 z2 z3 z4
  obtain ⟨z0, z1, z2, z3, z4, -⟩ := S2.out
  go_wp2_with fail
  go_region_held3 (fun w' => w'.cell? ⟨w.heap.size, 0, none⟩ = some (.int .i8 c) ∧ w'.cell? ⟨w.heap.size, 1, none⟩ = some (.bool st) ∧ w'.cell? ⟨w.heap.size, 2, none⟩ = some (.int .i8 f) ∧ w'.cell? ⟨w.heap.size, 3, none⟩ = some (.int .i8 l) ∧ w'.cell? ⟨w.heap.size, 4, none⟩ = some (.int .u64 n) ∧ TabsOk w' ∧ w.heap.size < w'.heap.size ∧ Kp w w')
      (first | exact S2.out.drew | assumption | exact SynAt.drew (by assumption))
      (first | (go_at_call 8; rename_i hh _ _; refine (check_any _ _ _ _ _ _ WC.out).mono ?_; rintro e w' ⟨rfl, hg⟩; have hh' := SynAt.kp hh hg; clear hh hg) | (go_at_call 9; rename_i hh _ _; refine (rcheck_any _ _ _ _ _ _).mono ?_; rintro e w' ⟨rfl, hg⟩; have hh' := SynAt.kp hh hg; clear hh hg) | (go_at_call 10; rename_i hh _ _; refine (text_any _ _ _ _ _ _ hh.2.2.2.2.2.1 (HB.out.kp hh.2.2.2.2.2.2.2) HN.out WC.out).mono ?_; rintro e w' ⟨rfl, hg⟩; have hh' := SynAt.kp hh hg; clear hh hg) | (go_at_call 11; rename_i hh _ _; refine (rtext_any _ _ _ _ _ _ HN.out).mono ?_; rintro e w' ⟨rfl, hg⟩; have hh' := SynAt.kp hh hg; clear hh hg) | (go_at_call 12; rename_i hh _ _; refine (wakes_any _ hh.2.2.2.2.2.1 (HB.out.kp hh.2.2.2.2.2.2.2)).mono ?_; rintro e w' ⟨rfl, hg⟩; have hh' := SynAt.kp hh hg; clear hh hg))
  rename_i hh
  have HH := Lib.hid hh; clear hh
  go_wp2_with fail
  go_ret
  exact ⟨rfl, HH.out.2.2.2.2.2.2.2⟩
end Go.Proofs.YtjglobnjmahpaaaDoor
