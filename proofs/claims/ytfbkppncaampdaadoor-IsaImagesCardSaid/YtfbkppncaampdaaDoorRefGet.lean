/-
  The document's own answer for a field of a word, bit by bit, comes to what package field answers. No condition.
-/
import Derived.Test.YtfbkppncaampdaaDoorFieldMath
import Derived.Test.YtfbkppncaampdaaDoorRefBit
namespace Go.Proofs.YtfbkppncaampdaaDoor
open Go Go.RowKit

theorem is_yes (hi lo : Nat) (w : World) (h1 : lo ≤ hi) (h2 : hi ≤ 63) :
    Calls Tryd.prog 35 #[.int .i64 hi, .int .i64 lo] w fun e w' => e = .returned (.bool true) ∧ w' = w := by
  have c' : decide ((hi : Int) ≤ 63) = true := by simp; omega
  go_enter Tryd.func35, Tryd.ntmps35
  go_wp2
  go_ret
  exact ⟨rfl, rfl⟩
theorem is_no (hi lo : Int) (w : World) (h : lo < 0 ∨ hi < lo ∨ 63 < hi) :
    Calls Tryd.prog 35 #[.int .i64 hi, .int .i64 lo] w fun e w' => e = .returned (.bool false) ∧ w' = w := by
  by_cases a : 0 ≤ lo
  · by_cases b : lo ≤ hi
    · have c : 63 < hi := by omega
      have c' : decide (hi ≤ 63) = false := by simp; omega
      clear h
      go_enter Tryd.func35, Tryd.ntmps35
      go_wp2
      go_ret
      exact ⟨rfl, rfl⟩
    · clear h
      have c : hi < lo := by omega
      have c' : decide (lo ≤ hi) = false := by simp; omega
      go_enter Tryd.func35, Tryd.ntmps35
      go_wp2
      go_ret
      exact ⟨rfl, rfl⟩
  · clear h
    have c : lo < 0 := by omega
    have c' : decide (0 ≤ lo) = false := by simp; omega
    go_enter Tryd.func35, Tryd.ntmps35
    go_wp2
    go_ret
    exact ⟨rfl, rfl⟩

/-! Get -/
def gotB (x : BitVec 64) (hi j : Nat) : BitVec 64 := (x >>> j) &&& mask (hi + 1 - j)
theorem gotB_step (x : BitVec 64) (hi j : Nat) (h2 : hi ≤ 63) (hj : j ≤ hi) : (gotB x hi (j + 1) <<< 1) ||| bitB x j = gotB x hi j := by
  apply BitVec.eq_of_getLsbD_eq
  intro i hi64
  unfold gotB
  rw [BitVec.getLsbD_or, BitVec.getLsbD_shiftLeft, BitVec.getLsbD_and, BitVec.getLsbD_and, bitB_bit, BitVec.getLsbD_ushiftRight, BitVec.getLsbD_ushiftRight, mask_bit _ _ (by omega), mask_bit _ _ (by omega)]
  cases i with
  | zero => simp; omega
  | succ i =>
    simp only [show i + 1 < 64 by omega, show ¬ i + 1 < 1 by omega, show i + 1 - 1 = i by omega, show j + 1 + i = j + (i + 1) by omega, show ¬ i + 1 = 0 by omega]
    simp
    congr 1
    rw [decide_eq_decide]; omega
theorem gotB_none (x : BitVec 64) (hi : Nat) : gotB x hi (hi + 1) = 0#64 := by
  unfold gotB
  rw [Nat.sub_self]
  have : mask 0 = 0#64 := rfl
  rw [this, BitVec.and_zero]
theorem shl1_or (x y : BitVec 64) : bits BinOp.or IntKind.u64 (IntKind.u64.wrap ((x.toNat : Int) * 2)) (y.toNat : Int) = (((x <<< 1) ||| y).toNat : Int) := by
  have := shl_num x 1 (by decide)
  rw [show ((2 : Int) ^ 1) = 2 from rfl] at this
  rw [this, bv_or]
theorem rget_yes (x : BitVec 64) (hi lo : Nat) (w : World) (h1 : lo ≤ hi) (h2 : hi ≤ 63) :
    Calls Tryd.prog 18 #[.int .u64 x.toNat, .int .i64 hi, .int .i64 lo] w fun e w' => e = .returned (.int .u64 (getB x hi lo).toNat) ∧ w' = w := by
  have H1 := Lib.hid h1
  have hz : (0 : Int) = ((gotB x hi (hi + 1)).toNat : Int) := by rw [gotB_none]; rfl
  have HZ := Lib.hid hz; clear hz
  go_enter Tryd.func18, Tryd.ntmps18
  go_wp2_with (go_at_call 35; refine (is_yes _ _ _ h1 h2).mono ?_; rintro e w' ⟨rfl, rfl⟩)
  go_loop [7, 8] (fun v i => ∃ k : Int, (lo : Int) - 1 ≤ k ∧ k ≤ (hi : Int) ∧ i = .int .i64 k ∧ v = .int .u64 (gotB x hi (k + 1).toNat).toNat) (fun _ i => (intOf i + 1 - lo).toNat)
  case atStart => exact ⟨hi, by omega, by omega, rfl, by rw [show ((hi : Int) + 1).toNat = hi + 1 by omega, ← HZ.out]⟩
  case round =>
    obtain ⟨k, ha, hb, rfl, rfl⟩ := hrel
    by_cases hlt : (lo : Int) ≤ k
    · obtain ⟨j, rfl⟩ := Int.eq_ofNat_of_zero_le (show 0 ≤ k by omega)
      have hj : j ≤ hi := by omega
      rw [show ((j : Int) + 1).toNat = j + 1 by omega]
      have HS := Lib.hid (shl1_or (gotB x hi (j + 1)) (bitB x j))
      have HT := Lib.hid (gotB_step x hi j h2 hj)
      go_wp2_with (go_at_call 36; refine (bit_any x j _ (by omega)).mono ?_; rintro e w' ⟨rfl, rfl⟩)
      go_round
      case rel => exact ⟨(j : Int) - 1, by omega, by omega, rfl, by rw [HS.out, HT.out, show ((j : Int) - 1 + 1).toNat = j by omega]⟩
      case measure => simp [intOf]; omega
    · obtain rfl : k = (lo : Int) - 1 := by omega
      rw [show ((lo : Int) - 1 + 1).toNat = lo by omega]
      go_wp2
      go_ret
      exact ⟨ret_int (by unfold gotB getB; rw [show hi + 1 - lo = hi - lo + 1 by omega]), rfl⟩
theorem rget_no (x : Int) (hi lo : Int) (w : World) (h : lo < 0 ∨ hi < lo ∨ 63 < hi) :
    Calls Tryd.prog 18 #[.int .u64 x, .int .i64 hi, .int .i64 lo] w fun e w' => e = .returned (.int .u64 0) ∧ w' = w := by
  have H := Lib.hid h; clear h
  go_enter Tryd.func18, Tryd.ntmps18
  go_wp2_with (go_at_call 35; refine (is_no _ _ _ H.out).mono ?_; rintro e w' ⟨rfl, rfl⟩)
  go_ret
  exact ⟨rfl, rfl⟩
end Go.Proofs.YtfbkppncaampdaaDoor
