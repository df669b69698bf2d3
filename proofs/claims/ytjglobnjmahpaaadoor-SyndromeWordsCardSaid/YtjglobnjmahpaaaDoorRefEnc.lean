/-
  The contract of the document's Encode, for every syndrome. No condition.
-/
import Derived.Test.YtjglobnjmahpaaaDoorRefChk
import Derived.Test.YtjglobnjmahpaaaDoorSynWord
import Derived.RegionTactic
namespace Go.Proofs.YtjglobnjmahpaaaDoor
open Go Go.RowKit

theorem rencode_no (c : Int) (st : Bool) (f l va : Int) (w : World) (h : ¬ SOk c st f l va) :
    Calls Tryd.prog 7 #[.agg #[.int .i8 c, .bool st, .int .i8 f, .int .i8 l, .int .u64 va]] w fun e w' => e = .returned (.tuple #[.int .u64 (encW c st f l va), .int .u64 (encA c st f l va), .int .i64 (chkE c st f l va)]) ∧ Kp w w' := by
  have HE := Lib.hid (enc_no h)
  have HC := Lib.hid (chk_no h)
  clear h
  go_enter Tryd.func7, Tryd.ntmps7
  go_wp2_with fail
  refine (rcheck_any _ st f l va _).mono ?_; rintro e w1 ⟨rfl, hg⟩
  have H1 := Lib.hid hg; clear hg
  rw [HC.out]
  go_wp2_with fail
  go_ret3
  exact ⟨ret_enc HE.out.1.symm HE.out.2.symm HC.out.symm, (by (repeat (first | apply Kp.drew | apply Kp.alloc)); refine Kp.trans ?_ H1.out; (repeat (first | apply Kp.drew | apply Kp.alloc)); exact Kp.refl _)⟩
theorem rencode_plain (c : Int) (w : World) (hc : c = 0 ∨ c = 1 ∨ c = 3 ∨ c = 4) (h : SOk c false 0 0 0) :
    Calls Tryd.prog 7 #[.agg #[.int .i8 c, .bool false, .int .i8 0, .int .i8 0, .int .u64 0]] w fun e w' => e = .returned (.tuple #[.int .u64 (encW c false 0 0 0), .int .u64 (encA c false 0 0 0), .int .i64 (chkE c false 0 0 0)]) ∧ Kp w w' := by
  have HE := Lib.hid (enc_yes h)
  have HC := Lib.hid (chk_yes h)
  clear h
  rcases hc with rfl | rfl | rfl | rfl
  all_goals
    go_enter Tryd.func7, Tryd.ntmps7
    go_wp2_with fail
    refine (rcheck_any _ false 0 0 0 _).mono ?_; rintro e w1 ⟨rfl, hg⟩
    rw [HC.out]
    have b1 := (Blk.new w _ 25).kp hg
    have H1 := Lib.hid ((kpA w _ _).trans hg); clear hg
    have z0 := b1.cell 0
    have z1 := b1.cell 1
    have z2 := b1.cell 2
    have z3 := b1.cell 3
    have z4 := b1.cell 4
    simp at z0 z1 z2 z3 z4
    clear b1
    go_wp2
    go_quiet (fail)
    go_wp2
    go_ret3
    exact ⟨ret_enc HE.out.1.symm HE.out.2.symm HC.out.symm, H1.out.drewN _⟩

theorem rencode_trans (st : Bool) (l : Nat) (va : Int) (w : World) (h : SOk 2 st 1 l va) :
    Calls Tryd.prog 7 #[.agg #[.int .i8 2, .bool st, .int .i8 1, .int .i8 l, .int .u64 va]] w fun e w' => e = .returned (.tuple #[.int .u64 (encW 2 st 1 l va), .int .u64 (encA 2 st 1 l va), .int .i64 (chkE 2 st 1 l va)]) ∧ Kp w w' := by
  have HE := Lib.hid (enc_yes h)
  have HC := Lib.hid (chk_yes h)
  have hl : (l : Int) ≤ 3 := by have := h; unfold SOk FOk at this; omega
  clear h
  cases st
  all_goals
    go_enter Tryd.func7, Tryd.ntmps7
    go_wp2_with fail
    refine (rcheck_any _ _ 1 l va _).mono ?_; rintro e w1 ⟨rfl, hg⟩
    rw [HC.out]
    have b1 := (Blk.new w _ 25).kp hg
    have H1 := Lib.hid ((kpA w _ _).trans hg); clear hg
    have z0 := b1.cell 0
    have z1 := b1.cell 1
    have z2 := b1.cell 2
    have z3 := b1.cell 3
    have z4 := b1.cell 4
    simp at z0 z1 z2 z3 z4
    clear b1
    go_wp2
    go_quiet (fail)
    go_wp2
    go_ret3
    refine ⟨ret_enc ?_ HE.out.2.symm HC.out.symm, H1.out.drewN _⟩
    rw [HE.out.1]
    simp [esrN, clsN, bN, stsN]
    try omega
theorem rencode_perm (st : Bool) (va : Int) (w : World) (h : SOk 2 st 2 3 va) :
    Calls Tryd.prog 7 #[.agg #[.int .i8 2, .bool st, .int .i8 2, .int .i8 3, .int .u64 va]] w fun e w' => e = .returned (.tuple #[.int .u64 (encW 2 st 2 3 va), .int .u64 (encA 2 st 2 3 va), .int .i64 (chkE 2 st 2 3 va)]) ∧ Kp w w' := by
  have HE := Lib.hid (enc_yes h)
  have HC := Lib.hid (chk_yes h)

  clear h
  cases st
  all_goals
    go_enter Tryd.func7, Tryd.ntmps7
    go_wp2_with fail
    refine (rcheck_any _ _ 2 3 va _).mono ?_; rintro e w1 ⟨rfl, hg⟩
    rw [HC.out]
    have b1 := (Blk.new w _ 25).kp hg
    have H1 := Lib.hid ((kpA w _ _).trans hg); clear hg
    have z0 := b1.cell 0
    have z1 := b1.cell 1
    have z2 := b1.cell 2
    have z3 := b1.cell 3
    have z4 := b1.cell 4
    simp at z0 z1 z2 z3 z4
    clear b1
    go_wp2
    go_quiet (fail)
    go_wp2
    go_ret3
    refine ⟨ret_enc ?_ HE.out.2.symm HC.out.symm, H1.out.drewN _⟩
    rw [HE.out.1]
    simp [esrN, clsN, bN, stsN]

theorem rencode_align (st : Bool) (va : Int) (w : World) (h : SOk 2 st 3 0 va) :
    Calls Tryd.prog 7 #[.agg #[.int .i8 2, .bool st, .int .i8 3, .int .i8 0, .int .u64 va]] w fun e w' => e = .returned (.tuple #[.int .u64 (encW 2 st 3 0 va), .int .u64 (encA 2 st 3 0 va), .int .i64 (chkE 2 st 3 0 va)]) ∧ Kp w w' := by
  have HE := Lib.hid (enc_yes h)
  have HC := Lib.hid (chk_yes h)

  clear h
  cases st
  all_goals
    go_enter Tryd.func7, Tryd.ntmps7
    go_wp2_with fail
    refine (rcheck_any _ _ 3 0 va _).mono ?_; rintro e w1 ⟨rfl, hg⟩
    rw [HC.out]
    have b1 := (Blk.new w _ 25).kp hg
    have H1 := Lib.hid ((kpA w _ _).trans hg); clear hg
    have z0 := b1.cell 0
    have z1 := b1.cell 1
    have z2 := b1.cell 2
    have z3 := b1.cell 3
    have z4 := b1.cell 4
    simp at z0 z1 z2 z3 z4
    clear b1
    go_wp2
    go_quiet (fail)
    go_wp2
    go_ret3
    refine ⟨ret_enc ?_ HE.out.2.symm HC.out.symm, H1.out.drewN _⟩
    rw [HE.out.1]
    simp [esrN, clsN, bN, stsN]

theorem rencode_any (c : Int) (st : Bool) (f l va : Int) (w : World) :
    Calls Tryd.prog 7 #[.agg #[.int .i8 c, .bool st, .int .i8 f, .int .i8 l, .int .u64 va]] w fun e w' => e = .returned (.tuple #[.int .u64 (encW c st f l va), .int .u64 (encA c st f l va), .int .i64 (chkE c st f l va)]) ∧ Kp w w' := by
  by_cases h : SOk c st f l va
  · have h' := h
    rcases h with ⟨rfl, ⟨rfl, h0, h1⟩ | ⟨rfl, rfl⟩ | ⟨rfl, rfl⟩⟩ | ⟨hc, rfl, rfl, rfl, rfl⟩
    · obtain ⟨n, rfl⟩ := Int.eq_ofNat_of_zero_le h0
      exact rencode_trans st n va w h'
    · exact rencode_perm st va w h'
    · exact rencode_align st va w h'
    · exact rencode_plain c w hc h'
  · exact rencode_no c st f l va w h
end Go.Proofs.YtjglobnjmahpaaaDoor
