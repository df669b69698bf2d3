/-
  The contract of the document's Text, for every syndrome. No condition.
-/
import Derived.Test.YtjglobnjmahpaaaDoorSynText
import Derived.Test.YtjglobnjmahpaaaDoorRefEnc
namespace Go.Proofs.YtjglobnjmahpaaaDoor
open Go Go.RowKit

theorem rtext_no (c : Int) (st : Bool) (f l va : Int) (w : World) (h : ¬ SOk c st f l va) :
    Calls Tryd.prog 11 #[.agg #[.int .i8 c, .bool st, .int .i8 f, .int .i8 l, .int .u64 va]] w fun e w' => e = .returned (.string (strB (txtL c st f l va))) ∧ Kp w w' := by
  rw [txt_no h]
  have HC := Lib.hid (chk_no h)
  clear h
  go_enter Tryd.func11, Tryd.ntmps11
  go_wp2_with fail
  refine (rcheck_any _ st f l va _).mono ?_; rintro e w1 ⟨rfl, hg⟩
  have H1 := Lib.hid hg; clear hg
  rw [HC.out]
  go_wp2_with fail
  go_ret
  exact ⟨rfl, (by (repeat (first | apply Kp.drew | apply Kp.alloc)); refine Kp.trans ?_ H1.out; (repeat (first | apply Kp.drew | apply Kp.alloc)); exact Kp.refl _)⟩
theorem rtext_plain (c : Int) (w : World) (hc : c = 0 ∨ c = 1 ∨ c = 3 ∨ c = 4) (h : SOk c false 0 0 0) :
    Calls Tryd.prog 11 #[.agg #[.int .i8 c, .bool false, .int .i8 0, .int .i8 0, .int .u64 0]] w fun e w' => e = .returned (.string (strB (txtL c false 0 0 0))) ∧ Kp w w' := by
  rw [txt_plain h (by omega)]
  have HC := Lib.hid (chk_yes h)
  clear h
  rcases hc with rfl | rfl | rfl | rfl
  all_goals
    go_enter Tryd.func11, Tryd.ntmps11
    go_wp2_with fail
    refine (rcheck_any _ false 0 0 0 _).mono ?_; rintro e w1 ⟨rfl, hg⟩
    rw [HC.out]
    have z0 := ((Blk.new w _ 25).kp hg).cell 0
    simp at z0
    have H1 := Lib.hid ((kpA w _ _).trans hg); clear hg
    go_wp2_with fail
    go_ret
    exact ⟨rfl, H1.out⟩
set_option maxHeartbeats 1000000 in
theorem rtext_trans (st : Bool) (k : Nat) (hk : k ≤ 3) (n : Nat) (w : World) (hn : n < 18446744073709551616) (h : SOk 2 st 1 k n) :
    Calls Tryd.prog 11 #[.agg #[.int .i8 2, .bool st, .int .i8 1, .int .i8 k, .int .u64 n]] w fun e w' => e = .returned (.string (strB (txtL 2 st 1 k n))) ∧ Kp w w' := by
  rw [txt_data h]
  have HC := Lib.hid (chk_yes h)
  have HN := Lib.hid hn
  have HL := Lib.hid (hexL_16 n hn)
  have hk' : (k : Int) ≤ 3 := by omega
  have HK := Lib.hid hk
  have HD : Hid ((hexL k).length ≤ 16) := Lib.hid (hexL_16 k (by omega))
  clear hk
  clear h hn
  cases st
  all_goals
    go_enter Tryd.func11, Tryd.ntmps11
    go_wp2_with fail
    refine (rcheck_any _ _ 1 k n _).mono ?_; rintro e w1 ⟨rfl, hg⟩
    rw [HC.out]
    have b1 := (Blk.new w _ 25).kp hg
    have z0 := b1.cell 0
    have z1 := b1.cell 1
    have z2 := b1.cell 2
    have z3 := b1.cell 3
    have z4 := b1.cell 4
    simp at z0 z1 z2 z3 z4
    have H1 := Lib.hid ((kpA w _ _).trans hg); clear hg b1
    go_wp2_with fail
    refine (rhex_any _ k k (Nat.le_refl _) (by have := HK.out; omega)).mono ?_; rintro e w2 ⟨rfl, rfl⟩
    go_wp2_with fail
    all_goals first
      | (exfalso; have g1 := HL.out; have g2 := HD.out; have s1 := strB_size (hexL k); have s2 := strB_size (hexL n); omega)
      | (refine (rhex_any _ n n (Nat.le_refl _) HN.out).mono ?_; rintro e w2 ⟨rfl, rfl⟩; go_wp2_with fail; all_goals first | (exfalso; have g1 := HL.out; have g2 := HD.out; have s1 := strB_size (hexL k); have s2 := strB_size (hexL n); omega) | (go_ret; exact ⟨ret_str (by apply ByteArray.ext; simp [strB, ByteArray.data_append, accL, fltL]), H1.out⟩))
set_option maxHeartbeats 1000000 in
theorem rtext_perm (st : Bool) (n : Nat) (w : World) (hn : n < 18446744073709551616) (h : SOk 2 st 2 3 n) :
    Calls Tryd.prog 11 #[.agg #[.int .i8 2, .bool st, .int .i8 2, .int .i8 3, .int .u64 n]] w fun e w' => e = .returned (.string (strB (txtL 2 st 2 3 n))) ∧ Kp w w' := by
  rw [txt_data h]
  have HC := Lib.hid (chk_yes h)
  have HN := Lib.hid hn
  have HL := Lib.hid (hexL_16 n hn)
  clear h hn
  cases st
  all_goals
    go_enter Tryd.func11, Tryd.ntmps11
    go_wp2_with fail
    refine (rcheck_any _ _ 2 3 n _).mono ?_; rintro e w1 ⟨rfl, hg⟩
    rw [HC.out]
    have b1 := (Blk.new w _ 25).kp hg
    have z0 := b1.cell 0
    have z1 := b1.cell 1
    have z2 := b1.cell 2
    have z3 := b1.cell 3
    have z4 := b1.cell 4
    simp at z0 z1 z2 z3 z4
    have H1 := Lib.hid ((kpA w _ _).trans hg); clear hg b1
    go_wp2_with fail
    all_goals first
      | (exfalso; have g1 := HL.out; have s2 := strB_size (hexL n); omega)
      | (refine (rhex_any _ n n (Nat.le_refl _) HN.out).mono ?_; rintro e w2 ⟨rfl, rfl⟩; go_wp2_with fail; all_goals first | (exfalso; have g1 := HL.out; have s2 := strB_size (hexL n); omega) | (go_ret; exact ⟨ret_str (by apply ByteArray.ext; simp [strB, ByteArray.data_append, accL, fltL]), H1.out⟩))
set_option maxHeartbeats 1000000 in
theorem rtext_align (st : Bool) (n : Nat) (w : World) (hn : n < 18446744073709551616) (h : SOk 2 st 3 0 n) :
    Calls Tryd.prog 11 #[.agg #[.int .i8 2, .bool st, .int .i8 3, .int .i8 0, .int .u64 n]] w fun e w' => e = .returned (.string (strB (txtL 2 st 3 0 n))) ∧ Kp w w' := by
  rw [txt_data h]
  have HC := Lib.hid (chk_yes h)
  have HN := Lib.hid hn
  have HL := Lib.hid (hexL_16 n hn)
  clear h hn
  cases st
  all_goals
    go_enter Tryd.func11, Tryd.ntmps11
    go_wp2_with fail
    refine (rcheck_any _ _ 3 0 n _).mono ?_; rintro e w1 ⟨rfl, hg⟩
    rw [HC.out]
    have b1 := (Blk.new w _ 25).kp hg
    have z0 := b1.cell 0
    have z1 := b1.cell 1
    have z2 := b1.cell 2
    have z3 := b1.cell 3
    have z4 := b1.cell 4
    simp at z0 z1 z2 z3 z4
    have H1 := Lib.hid ((kpA w _ _).trans hg); clear hg b1
    go_wp2_with fail
    all_goals first
      | (exfalso; have g1 := HL.out; have s2 := strB_size (hexL n); omega)
      | (refine (rhex_any _ n n (Nat.le_refl _) HN.out).mono ?_; rintro e w2 ⟨rfl, rfl⟩; go_wp2_with fail; all_goals first | (exfalso; have g1 := HL.out; have s2 := strB_size (hexL n); omega) | (go_ret; exact ⟨ret_str (by apply ByteArray.ext; simp [strB, ByteArray.data_append, accL, fltL]), H1.out⟩))
theorem rtext_any (c : Int) (st : Bool) (f l : Int) (n : Nat) (w : World) (hn : n < 18446744073709551616) :
    Calls Tryd.prog 11 #[.agg #[.int .i8 c, .bool st, .int .i8 f, .int .i8 l, .int .u64 n]] w fun e w' => e = .returned (.string (strB (txtL c st f l n))) ∧ Kp w w' := by
  by_cases h : SOk c st f l n
  · have h' := h
    rcases h with ⟨rfl, ⟨rfl, h0, h1⟩ | ⟨rfl, rfl⟩ | ⟨rfl, rfl⟩⟩ | ⟨hc, rfl, rfl, rfl, h0⟩
    · obtain ⟨k, rfl⟩ := Int.eq_ofNat_of_zero_le h0
      exact rtext_trans st k (by omega) n w hn h'
    · exact rtext_perm st n w hn h'
    · exact rtext_align st n w hn h'
    · obtain rfl : n = 0 := by omega
      exact rtext_plain c w hc h'
  · exact rtext_no c st f l n w h
end Go.Proofs.YtjglobnjmahpaaaDoor
