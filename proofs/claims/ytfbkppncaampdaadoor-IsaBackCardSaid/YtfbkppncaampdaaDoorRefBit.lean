/-
  The document's own answer for one bit of a word. No condition.
-/
import Derived.Test.YtfbkppncaampdaaDoorRows
import Derived.Test.YtfbkppncaampdaaDoorBv
namespace Go.Proofs.YtfbkppncaampdaaDoor
open Go Go.RowKit

theorem bit_num (x : BitVec 64) (k : Nat) (hk : k ≤ 63) : bits BinOp.and IntKind.u64 ((x.toNat : Int) / 2 ^ k) 1 = ((x >>> k &&& 1#64).toNat : Int) := by
  have := bv_shr x k
  rw [Nat.min_eq_left (by omega)] at this
  rw [this]; exact bv_and _ 1#64
def bitB (x : BitVec 64) (k : Nat) : BitVec 64 := x >>> k &&& 1#64
theorem one_bit (i : Nat) : (1#64).getLsbD i = decide (i = 0) := by
  cases i with
  | zero => rfl
  | succ j =>
    show (1 % 2 ^ 64 : Nat).testBit (j + 1) = decide (j + 1 = 0)
    rw [Nat.testBit_succ]; simp
theorem bitB_bit (x : BitVec 64) (k i : Nat) : (bitB x k).getLsbD i = (x.getLsbD k && decide (i = 0)) := by
  unfold bitB
  rw [BitVec.getLsbD_and, BitVec.getLsbD_ushiftRight, one_bit]
  by_cases h : i = 0
  · subst h; rfl
  · simp [h]
theorem bitB_eq (x : BitVec 64) (k : Nat) : bitB x k = if x.getLsbD k then 1#64 else 0#64 := by
  apply BitVec.eq_of_getLsbD_eq
  intro i hi
  rw [bitB_bit]
  cases x.getLsbD k
  · simp
  · simp
theorem bitB_toNat (x : BitVec 64) (k : Nat) : ((bitB x k).toNat : Int) = if x.getLsbD k then 1 else 0 := by
  rw [bitB_eq]; split <;> rfl
theorem bit_any (x : BitVec 64) (k : Nat) (w : World) (hk : k ≤ 63) :
    Calls Tryd.prog 36 #[.int .u64 x.toNat, .int .i64 k] w fun e w' => e = .returned (.int .u64 (bitB x k).toNat) ∧ w' = w := by
  have H := Lib.hid (bit_num x k hk)
  go_enter Tryd.func36, Tryd.ntmps36
  go_wp2
  go_ret
  exact ⟨ret_int H.out, rfl⟩
end Go.Proofs.YtfbkppncaampdaaDoor
