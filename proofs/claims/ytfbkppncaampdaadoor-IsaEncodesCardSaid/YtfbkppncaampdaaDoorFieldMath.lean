/-
  What fields of words are, bit by bit: plain facts on bit vectors. No condition.
-/
import Derived.Test.YtfbkppncaampdaaDoorField
namespace Go.Proofs.YtfbkppncaampdaaDoor
open Go Go.RowKit

theorem fit_bit {v : BitVec 64} {n : Nat} (hn : n ≤ 64) (hf : v.toNat ≤ (mask n).toNat) {i : Nat} (hi : n ≤ i) : v.getLsbD i = false := by
  rw [mask_toNat n hn] at hf
  have hp : 0 < 2 ^ n := Nat.two_pow_pos _
  have : v.toNat < 2 ^ i := Nat.lt_of_lt_of_le (by omega) (Nat.pow_le_pow_right (by decide) hi)
  show v.toNat.testBit i = false
  exact Nat.testBit_lt_two_pow this
theorem fit_of_bit {v : BitVec 64} {n : Nat} (hn : n ≤ 64) (h : ∀ i, n ≤ i → i < 64 → v.getLsbD i = false) : v.toNat ≤ (mask n).toNat := by
  rw [mask_toNat n hn]
  have : v.toNat < 2 ^ n := by
    apply Nat.lt_of_not_le
    intro hle
    obtain ⟨i, hi, hb⟩ := Nat.exists_ge_and_testBit_of_ge_two_pow hle
    have h64 : i < 64 := by
      apply Nat.lt_of_not_le
      intro h6
      have : v.toNat.testBit i = false := Nat.testBit_lt_two_pow (Nat.lt_of_lt_of_le v.isLt (Nat.pow_le_pow_right (by decide) h6))
      rw [this] at hb; cases hb
    have := h i hi h64
    have e : v.getLsbD i = v.toNat.testBit i := rfl
    rw [e, hb] at this; cases this
  omega
theorem onesB_bit (hi lo j : Nat) (h1 : lo ≤ hi) (h2 : hi ≤ 63) : (onesB hi lo).getLsbD j = decide (lo ≤ j ∧ j ≤ hi) := by
  unfold onesB
  rw [BitVec.getLsbD_shiftLeft, mask_bit _ _ (by omega)]
  by_cases a : lo ≤ j
  · by_cases b : j ≤ hi
    · simp [a, b, show j < 64 by omega, show ¬ j < lo by omega, show j - lo < hi - lo + 1 by omega]
    · simp [a, b, show ¬ j - lo < hi - lo + 1 by omega]
  · simp [a, show j < lo by omega]
theorem getB_bit (x : BitVec 64) (hi lo i : Nat) (h1 : lo ≤ hi) (h2 : hi ≤ 63) : (getB x hi lo).getLsbD i = (x.getLsbD (lo + i) && decide (i ≤ hi - lo)) := by
  unfold getB
  rw [BitVec.getLsbD_and, BitVec.getLsbD_ushiftRight, mask_bit _ _ (by omega)]
  congr 1
  rw [decide_eq_decide]; omega
theorem putB_bit (x v : BitVec 64) (hi lo j : Nat) (h1 : lo ≤ hi) (h2 : hi ≤ 63) (hf : v.toNat ≤ (mask (hi - lo + 1)).toNat) (hj : j < 64) :
    (putB x v hi lo).getLsbD j = if lo ≤ j ∧ j ≤ hi then v.getLsbD (j - lo) else x.getLsbD j := by
  unfold putB
  rw [BitVec.getLsbD_or, BitVec.getLsbD_and, BitVec.getLsbD_not, onesB_bit hi lo j h1 h2, BitVec.getLsbD_shiftLeft]
  by_cases a : lo ≤ j
  · by_cases b : j ≤ hi
    · simp [a, b, hj, show ¬ j < lo by omega]
    · have := fit_bit (i := j - lo) (by omega) hf (by omega)
      simp [a, b, hj, this]
  · simp [a, hj, show j < lo by omega]
theorem get_put (x v : BitVec 64) (hi lo : Nat) (h1 : lo ≤ hi) (h2 : hi ≤ 63) (hf : v.toNat ≤ (mask (hi - lo + 1)).toNat) : getB (putB x v hi lo) hi lo = v := by
  apply BitVec.eq_of_getLsbD_eq
  intro i hi64
  rw [getB_bit _ _ _ _ h1 h2]
  by_cases a : i ≤ hi - lo
  · rw [putB_bit _ _ _ _ _ h1 h2 hf (by omega), if_pos ⟨by omega, by omega⟩, show lo + i - lo = i by omega]
    simp [a]
  · rw [fit_bit (v := v) (by omega) hf (show hi - lo + 1 ≤ i by omega)]
    simp [a]
theorem put_rest (x v : BitVec 64) (hi lo : Nat) (h1 : lo ≤ hi) (h2 : hi ≤ 63) (hf : v.toNat ≤ (mask (hi - lo + 1)).toNat) : putB x v hi lo &&& ~~~(onesB hi lo) = x &&& ~~~(onesB hi lo) := by
  apply BitVec.eq_of_getLsbD_eq
  intro i hi64
  rw [BitVec.getLsbD_and, BitVec.getLsbD_and, BitVec.getLsbD_not, onesB_bit _ _ _ h1 h2, putB_bit _ _ _ _ _ h1 h2 hf hi64]
  by_cases a : lo ≤ i ∧ i ≤ hi <;> simp [a]
theorem apart_of (hi lo top low : Nat) (h1 : lo ≤ hi) (h2 : hi ≤ 63) (h3 : low ≤ top) (h4 : top ≤ 63) (h : onesB hi lo &&& onesB top low = 0#64) : hi < low ∨ top < lo := by
  apply Classical.byContradiction
  intro hn
  have hj : ∃ j, lo ≤ j ∧ j ≤ hi ∧ low ≤ j ∧ j ≤ top := by
    by_cases c : lo ≤ low
    · exact ⟨low, by omega, by omega, by omega, by omega⟩
    · exact ⟨lo, by omega, by omega, by omega, by omega⟩
  obtain ⟨j, a, b, c, d⟩ := hj
  have e := congrArg (fun z : BitVec 64 => z.getLsbD j) h
  simp only [BitVec.getLsbD_and, onesB_bit _ _ _ h1 h2, onesB_bit _ _ _ h3 h4] at e
  simp [a, b, c, d] at e
theorem put_put (x v u : BitVec 64) (hi lo top low : Nat) (h1 : lo ≤ hi) (h2 : hi ≤ 63) (h3 : low ≤ top) (h4 : top ≤ 63) (hf : v.toNat ≤ (mask (hi - lo + 1)).toNat) (hg : u.toNat ≤ (mask (top - low + 1)).toNat)
    (hap : hi < low ∨ top < lo) : putB (putB x v hi lo) u top low = putB (putB x u top low) v hi lo := by
  apply BitVec.eq_of_getLsbD_eq
  intro i hi64
  rw [putB_bit _ _ _ _ _ h3 h4 hg hi64, putB_bit _ _ _ _ _ h1 h2 hf hi64, putB_bit _ _ _ _ _ h1 h2 hf hi64, putB_bit _ _ _ _ _ h3 h4 hg hi64]
  by_cases a : lo ≤ i ∧ i ≤ hi
  · have b : ¬ (low ≤ i ∧ i ≤ top) := by omega
    simp [a, b]
  · by_cases b : low ≤ i ∧ i ≤ top <;> simp [a, b]
theorem get_fits (x : BitVec 64) (hi lo : Nat) (h1 : lo ≤ hi) (h2 : hi ≤ 63) : (getB x hi lo).toNat ≤ (mask (hi - lo + 1)).toNat := by
  apply fit_of_bit (by omega)
  intro i hi' _
  rw [getB_bit _ _ _ _ h1 h2]
  simp; intro _; omega
theorem halves (x : BitVec 64) (k : Nat) (hk : k ≤ 62) : putB (putB 0#64 (getB x 63 (k + 1)) 63 (k + 1)) (getB x k 0) k 0 = x := by
  apply BitVec.eq_of_getLsbD_eq
  intro i hi64
  have f1 := get_fits x 63 (k + 1) (by omega) (by omega)
  have f2 := get_fits x k 0 (by omega) (by omega)
  rw [putB_bit _ _ _ _ _ (by omega) (by omega) f2 hi64, putB_bit _ _ _ _ _ (by omega) (by omega) f1 hi64, getB_bit _ _ _ _ (by omega) (by omega), getB_bit _ _ _ _ (by omega) (by omega)]
  by_cases a : i ≤ k
  · simp [a]
  · simp [a, show k + 1 ≤ i by omega, show i ≤ 63 by omega, show k + 1 + (i - (k + 1)) = i by omega]
    intro _; omega
theorem ones_halves (k : Nat) (hk : k ≤ 62) : onesB 63 (k + 1) ^^^ onesB k 0 = BitVec.allOnes 64 := by
  apply BitVec.eq_of_getLsbD_eq
  intro i hi64
  rw [BitVec.getLsbD_xor, onesB_bit _ _ _ (by omega) (by omega), onesB_bit _ _ _ (by omega) (by omega), BitVec.getLsbD_allOnes]
  by_cases a : i ≤ k
  · simp [a, hi64, show ¬ k + 1 ≤ i by omega]
  · simp [a, hi64, show k + 1 ≤ i by omega, show i ≤ 63 by omega]
end Go.Proofs.YtfbkppncaampdaaDoor
