/-
  Instructions read out of words: plain arithmetic. No condition.
-/
import Derived.Test.YtfbkppncaampdaaDoorForm07
namespace Go.Proofs.YtfbkppncaampdaaDoor
open Go Go.RowKit

def onesN (lo wd : Nat) : Nat := (2 ^ wd - 1) * 2 ^ lo
def ownTo (o : Nat) : Nat → Nat
  | 0 => 0
  | k + 1 => ownTo o k ||| onesN (pLo o k) (pWd o k)
def mkN (o : Nat) : Nat := 4294967295 - ownTo o 4
theorem full_bit (j : Nat) : Nat.testBit 4294967295 j = decide (j < 32) := Nat.testBit_two_pow_sub_one 32 j
theorem ones_bit (lo wd j : Nat) : (onesN lo wd).testBit j = decide (lo ≤ j ∧ j < lo + wd) := by
  unfold onesN
  rw [Nat.mul_comm, Nat.testBit_two_pow_mul, Nat.testBit_two_pow_sub_one]
  by_cases a : lo ≤ j
  · simp [a]; omega
  · simp [a]
theorem ones_le (lo wd : Nat) (h : lo + wd ≤ 32) : onesN lo wd ≤ 4294967295 := by
  have : onesN lo wd < 2 ^ 32 := by
    apply Nat.lt_pow_two_of_testBit
    intro i hi
    rw [ones_bit]
    simp; omega
  omega
theorem comp_bit (x j : Nat) (h : x ≤ 4294967295) : (4294967295 - x).testBit j = (decide (j < 32) && !x.testBit j) := by
  have e : 4294967295 - x = 2 ^ 32 - (x + 1) := by omega
  rw [e, Nat.testBit_two_pow_sub_succ (by omega)]
/-- A field of a word, taken off. -/
theorem clear_field (W i k : Nat) (hW : W < 4294967296) (h : i + k ≤ 32) : W &&& (4294967295 - onesN i k) = W - W / 2 ^ i % 2 ^ k * 2 ^ i := by
  have hm : W / 2 ^ i % 2 ^ k * 2 ^ i + W % 2 ^ i + 2 ^ i * (2 ^ k * (W / 2 ^ i / 2 ^ k)) = W := by
    have a := Nat.div_add_mod W (2 ^ i)
    have b := Nat.div_add_mod (W / 2 ^ i) (2 ^ k)
    have c : 2 ^ i * (2 ^ k * (W / 2 ^ i / 2 ^ k) + W / 2 ^ i % 2 ^ k) = 2 ^ i * (W / 2 ^ i) := by rw [b]
    rw [Nat.mul_add, Nat.mul_comm (2 ^ i) (W / 2 ^ i % 2 ^ k)] at c
    omega
  have e : W - W / 2 ^ i % 2 ^ k * 2 ^ i = 2 ^ i * (2 ^ k * (W / 2 ^ i / 2 ^ k) + 0) + W % 2 ^ i := by
    rw [Nat.add_zero]; omega
  rw [e]
  apply Nat.eq_of_testBit_eq
  intro j
  rw [Nat.testBit_and, comp_bit _ _ (ones_le i k h), ones_bit, Nat.testBit_two_pow_mul_add _ (Nat.mod_lt _ (Nat.two_pow_pos i)), Nat.testBit_two_pow_mul_add _ (Nat.two_pow_pos k), Nat.testBit_mod_two_pow, Nat.testBit_div_two_pow, Nat.testBit_div_two_pow, Nat.zero_testBit]
  by_cases h32 : j < 32
  · by_cases a : j < i
    · simp [a, h32]
    · by_cases b : j - i < k
      · simp [a, b, show i ≤ j by omega, show j < i + k by omega]
      · simp [a, b, show i ≤ j by omega, h32, show ¬ j < i + k by omega]
        congr 1; omega
  · have : W.testBit j = false := Nat.testBit_lt_two_pow (Nat.lt_of_lt_of_le (show W < 2 ^ 32 by omega) (Nat.pow_le_pow_right (by decide) (by omega)))
    rw [this]
    by_cases a : j < i
    · omega
    · by_cases b : j - i < k
      · omega
      · have e2 : j - i - k + k + i = j := by omega
        simp [a, b, e2, this]
def clr (W lo wd : Nat) : Nat := W - W / 2 ^ lo % 2 ^ wd * 2 ^ lo
theorem clr_lt {W lo wd : Nat} (h : W < 4294967296) : clr W lo wd < 4294967296 := Nat.lt_of_le_of_lt (Nat.sub_le _ _) h
theorem mk_parts (o : Nat) (ho : o < 19) : mkN o = (((4294967295 - onesN (pLo o 0) (pWd o 0)) &&& (4294967295 - onesN (pLo o 1) (pWd o 1))) &&& (4294967295 - onesN (pLo o 2) (pWd o 2))) &&& (4294967295 - onesN (pLo o 3) (pWd o 3)) :=
  ops19 (P := fun o => mkN o = (((4294967295 - onesN (pLo o 0) (pWd o 0)) &&& (4294967295 - onesN (pLo o 1) (pWd o 1))) &&& (4294967295 - onesN (pLo o 2) (pWd o 2))) &&& (4294967295 - onesN (pLo o 3) (pWd o 3))) (by decide +kernel) o ho
theorem and_mk (o W : Nat) (ho : o < 19) (hW : W < 4294967296) : W &&& mkN o = clr (clr (clr (clr W (pLo o 0) (pWd o 0)) (pLo o 1) (pWd o 1)) (pLo o 2) (pWd o 2)) (pLo o 3) (pWd o 3) := by
  have p := fun k hk => (prt_ok o k ho hk).1
  rw [mk_parts o ho, ← Nat.and_assoc, ← Nat.and_assoc, ← Nat.and_assoc]
  have e : ∀ V lo wd, V < 4294967296 → lo + wd ≤ 32 → V &&& (4294967295 - onesN lo wd) = clr V lo wd := fun V lo wd hV h => clear_field V lo wd hV h
  rw [e _ _ _ hW (p 0 (by decide)), e _ _ _ (clr_lt hW) (p 1 (by decide)), e _ _ _ (clr_lt (clr_lt hW)) (p 2 (by decide)), e _ _ _ (clr_lt (clr_lt (clr_lt hW))) (p 3 (by decide))]
/-- What a format reads of a word. -/
def rdD (o W : Nat) : Nat := if fD o then W % 8 else 0
def rdN (o W : Nat) : Nat := if fN o then W / 32 % 8 else 0
def rdM (o W : Nat) : Nat := if fM o then W / 65536 % 8 else 0
def rdU (o W : Nat) : Nat := W / 2 ^ fLo o % 2 ^ fWd o
def rdI (o W : Nat) : Int := getN W (fLo o) (fWd o) (fS o)
theorem split_word (o W : Nat) (ho : o < 19) (hW : W < 4294967296) : (W &&& mkN o) + rdD o W + 32 * rdN o W + 65536 * rdM o W + 2 ^ fLo o * rdU o W = W := by
  rw [and_mk o W ho hW]
  obtain rfl | rfl | rfl | rfl | rfl | rfl | rfl | rfl | rfl | rfl | rfl | rfl | rfl | rfl | rfl | rfl | rfl | rfl | rfl : o = 0 ∨ o = 1 ∨ o = 2 ∨ o = 3 ∨ o = 4 ∨ o = 5 ∨ o = 6 ∨ o = 7 ∨ o = 8 ∨ o = 9 ∨ o = 10 ∨ o = 11 ∨ o = 12 ∨ o = 13 ∨ o = 14 ∨ o = 15 ∨ o = 16 ∨ o = 17 ∨ o = 18 := by omega
  all_goals
    simp [clr, rdD, rdN, rdM, rdU, pLo, pWd, rLo, rWd, fD, fN, fM, fLo, fWd, fdL, fnL, fmL, floL, fwdL]
    omega
end Go.Proofs.YtfbkppncaampdaaDoor
