/-
  Fields of words as quotients and remainders of natural numbers: plain facts on bit vectors. No condition.
-/
import Derived.Test.YtfbkppncaampdaaDoorFieldMath
namespace Go.Proofs.YtfbkppncaampdaaDoor
open Go Go.RowKit

theorem ofN (X : Nat) (h : X < 2 ^ 64) : (BitVec.ofNat 64 X).toNat = X := by
  rw [BitVec.toNat_ofNat, Nat.mod_eq_of_lt h]
theorem getB_nat (x : BitVec 64) (hi lo : Nat) (h1 : lo ≤ hi) (h2 : hi ≤ 63) : (getB x hi lo).toNat = x.toNat / 2 ^ lo % 2 ^ (hi - lo + 1) := by
  unfold getB
  rw [BitVec.toNat_and, mask_toNat _ (by omega), Nat.and_two_pow_sub_one_eq_mod, BitVec.toNat_ushiftRight, Nat.shiftRight_eq_div_pow]
theorem putB_nat (x v : BitVec 64) (hi lo : Nat) (h1 : lo ≤ hi) (h2 : hi ≤ 63) (hf : v.toNat ≤ (mask (hi - lo + 1)).toNat) :
    (putB x v hi lo).toNat = 2 ^ lo * (2 ^ (hi - lo + 1) * (x.toNat / 2 ^ (hi + 1)) + v.toNat) + x.toNat % 2 ^ lo := by
  have hv : v.toNat < 2 ^ (hi - lo + 1) := by
    have hf' := hf
    rw [mask_toNat _ (by omega)] at hf'
    have := Nat.two_pow_pos (hi - lo + 1)
    omega
  apply Nat.eq_of_testBit_eq
  intro i
  rw [Nat.testBit_two_pow_mul_add _ (Nat.mod_lt _ (Nat.two_pow_pos lo)), Nat.testBit_two_pow_mul_add _ hv]
  by_cases hi64 : i < 64
  · have e : (putB x v hi lo).toNat.testBit i = (putB x v hi lo).getLsbD i := rfl
    rw [e, putB_bit x v hi lo i h1 h2 hf hi64]
    by_cases a : i < lo
    · rw [if_neg (by omega), if_pos a, Nat.testBit_mod_two_pow]
      simp [a]; rfl
    · rw [if_neg a]
      by_cases b : i ≤ hi
      · rw [if_pos ⟨by omega, b⟩, if_pos (by omega)]; rfl
      · rw [if_neg (by omega), if_neg (by omega), Nat.testBit_div_two_pow]
        show x.toNat.testBit i = _
        congr 1; omega
  · have e : (putB x v hi lo).toNat.testBit i = false := Nat.testBit_lt_two_pow (Nat.lt_of_lt_of_le (putB x v hi lo).isLt (Nat.pow_le_pow_right (by decide) (by omega)))
    rw [e, if_neg (by omega), if_neg (by omega), Nat.testBit_div_two_pow]
    exact (Nat.testBit_lt_two_pow (Nat.lt_of_lt_of_le x.isLt (Nat.pow_le_pow_right (by decide) (by omega)))).symm
end Go.Proofs.YtfbkppncaampdaaDoor
