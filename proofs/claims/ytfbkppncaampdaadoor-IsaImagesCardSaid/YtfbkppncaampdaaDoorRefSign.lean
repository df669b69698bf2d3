/-
  The document's own Sign. No condition.
-/
import Derived.Test.YtfbkppncaampdaaDoorRefGet
namespace Go.Proofs.YtfbkppncaampdaaDoor
open Go Go.RowKit

/-! Sign -/
theorem rsign_no (x hi : Int) (w : World) (h : hi < 0 ∨ 63 < hi) :
    Calls Tryd.prog 19 #[.int .u64 x, .int .i64 hi] w fun e w' => e = .returned (.int .i64 0) ∧ w' = w := by
  by_cases a : hi < 0
  · clear h
    go_enter Tryd.func19, Tryd.ntmps19
    go_wp2
    go_ret
    exact ⟨rfl, rfl⟩
  · have b : 63 < hi := by omega
    have c : decide (63 < hi) = true := by simpa using b
    clear h
    go_enter Tryd.func19, Tryd.ntmps19
    go_wp2
    go_ret
    exact ⟨rfl, rfl⟩
theorem mod_step (x : BitVec 64) (k : Nat) : ((x.toNat % 2 ^ (k + 1) : Nat) : Int) = ((x.toNat % 2 ^ k : Nat) : Int) + (if x.getLsbD k then 2 ^ k else 0) := by
  have e : x.getLsbD k = decide (x.toNat / 2 ^ k % 2 = 1) := by
    show x.toNat.testBit k = _
    rw [Nat.testBit_eq_decide_div_mod_eq]
  rw [e, Nat.pow_succ, Nat.mod_mul]
  have h : x.toNat / 2 ^ k % 2 = 0 ∨ x.toNat / 2 ^ k % 2 = 1 := by omega
  rcases h with h | h <;> simp [h]
theorem pow62 (k : Nat) (hk : k ≤ 62) : (2 : Nat) ^ k ≤ 4611686018427387904 := Nat.pow_le_pow_right (by decide) hk
theorem pow63 (k : Nat) (hk : k ≤ 63) : (2 : Nat) ^ k ≤ 9223372036854775808 := Nat.pow_le_pow_right (by decide) hk
theorem wrap_add (X k : Nat) (hX : X < 2 ^ k) (hk : k ≤ 62) : wrap64 ((X : Int) + wrap64 (2 ^ k)) = (X : Int) + 2 ^ k := by
  have h := pow62 k hk
  have c : ((2 : Int) ^ k) = ((2 ^ k : Nat) : Int) := by simp
  rw [c]
  generalize 2 ^ k = p at *
  unfold wrap64
  omega
theorem wrap_sub (X k : Nat) (hX : X < 2 ^ k) (hk : k ≤ 63) : wrap64 ((X : Int) - wrap64 (2 ^ k)) = (X : Int) - 2 ^ k := by
  have h := pow63 k hk
  have c : ((2 : Int) ^ k) = ((2 ^ k : Nat) : Int) := by simp
  rw [c]
  generalize 2 ^ k = p at *
  unfold wrap64
  omega
theorem wrap_keep (X k : Nat) (hX : X < 2 ^ k) (hk : k ≤ 62) : wrap64 (X : Int) = (X : Int) := by
  have h := pow62 k hk
  unfold wrap64
  omega
theorem signB_of (x : BitVec 64) (hi : Nat) : signB x hi = ((x.toNat % 2 ^ hi : Nat) : Int) - (if x.getLsbD hi then 2 ^ hi else 0) := by
  have e : x.getLsbD hi = decide (x.toNat / 2 ^ hi % 2 = 1) := by
    show x.toNat.testBit hi = _
    rw [Nat.testBit_eq_decide_div_mod_eq]
  unfold signB
  rw [e]
  have cm : ((x.toNat : Int) % 2 ^ hi) = ((x.toNat % 2 ^ hi : Nat) : Int) := by simp
  have cd : ((x.toNat : Int) / 2 ^ hi % 2) = ((x.toNat / 2 ^ hi % 2 : Nat) : Int) := by simp
  rw [cm, cd]
  have h : x.toNat / 2 ^ hi % 2 = 0 ∨ x.toNat / 2 ^ hi % 2 = 1 := by omega
  rcases h with h | h <;> simp [h]
theorem rsign_yes (x : BitVec 64) (hi : Nat) (w : World) (h2 : hi ≤ 63) :
    Calls Tryd.prog 19 #[.int .u64 x.toNat, .int .i64 hi] w fun e w' => e = .returned (.int .i64 (signB x hi)) ∧ w' = w := by
  have d1 : decide (63 < (hi : Int)) = false := by simp; omega
  go_enter Tryd.func19, Tryd.ntmps19
  go_wp2
  go_loop [5, 6] (fun v i => ∃ k : Nat, k ≤ hi ∧ i = .int .i64 k ∧ v = .int .i64 (x.toNat % 2 ^ k : Nat)) (fun _ i => hi - (intOf i).toNat)
  case atStart => exact ⟨0, by omega, rfl, by rw [Nat.pow_zero, Nat.mod_one]; rfl⟩
  case round =>
    obtain ⟨k, ha, rfl, rfl⟩ := hrel
    have HX := Lib.hid (Nat.mod_lt x.toNat (Nat.two_pow_pos k))
    by_cases hlt : k < hi
    · have HT := Lib.hid (mod_step x k)
      generalize x.toNat % 2 ^ k = X at HT HX ⊢
      by_cases hbit : x.getLsbD k
      · have hz : bitB x k = 1#64 := by rw [bitB_eq, if_pos hbit]
        rw [if_pos hbit] at HT
        clear hbit
        have HW := Lib.hid (wrap_add X k HX.out (by omega))
        go_wp2_with (go_at_call 36; refine (bit_any x k _ (by omega)).mono ?_; rintro e w' ⟨rfl, rfl⟩)
        go_round
        case rel => exact ⟨k + 1, by omega, by go_num, by rw [HW.out, HT.out]⟩
        case measure => simp [intOf]; omega
      · have hz : bitB x k = 0#64 := by rw [bitB_eq, if_neg hbit]
        rw [if_neg hbit] at HT
        clear hbit
        have HW := Lib.hid (wrap_keep X k HX.out (by omega))
        go_wp2_with (go_at_call 36; refine (bit_any x k _ (by omega)).mono ?_; rintro e w' ⟨rfl, rfl⟩)
        go_round
        case rel => exact ⟨k + 1, by omega, by go_num, by rw [HW.out, HT.out, Int.add_zero]⟩
        case measure => simp [intOf]; omega
    · obtain rfl : k = hi := by omega
      have HS := Lib.hid (signB_of x k)
      generalize x.toNat % 2 ^ k = X at HX HS ⊢
      by_cases hbit : x.getLsbD k
      · have hz : bitB x k = 1#64 := by rw [bitB_eq, if_pos hbit]
        rw [if_pos hbit] at HS
        clear hbit
        have HW := Lib.hid (wrap_sub X k HX.out (by omega))
        go_wp2_with (go_at_call 36; refine (bit_any x k _ (by omega)).mono ?_; rintro e w' ⟨rfl, rfl⟩)
        go_ret
        exact ⟨ret_int (by rw [HW.out, HS.out]), rfl⟩
      · have hz : bitB x k = 0#64 := by rw [bitB_eq, if_neg hbit]
        rw [if_neg hbit] at HS
        clear hbit
        go_wp2_with (go_at_call 36; refine (bit_any x k _ (by omega)).mono ?_; rintro e w' ⟨rfl, rfl⟩)
        go_ret
        exact ⟨ret_int (by rw [HS.out]; simp), rfl⟩
end Go.Proofs.YtfbkppncaampdaaDoor
