/-
  The lowest bit of a word that is 1: plain facts on bit vectors. No condition.
-/
import Derived.Test.YtehbnidcjpbabaaDoorBv
namespace Go.Proofs.YtehbnidcjpbabaaDoor
open Go Go.RowKit

theorem least (P : Nat → Bool) : ∀ n, (∃ i, i < n ∧ P i = true) → ∃ t, t < n ∧ P t = true ∧ ∀ j, j < t → P j = false
  | 0, h => by obtain ⟨i, hi, _⟩ := h; omega
  | n + 1, h => by
    by_cases c : ∃ i, i < n ∧ P i = true
    · obtain ⟨t, ht, hp, hl⟩ := least P n c
      exact ⟨t, by omega, hp, hl⟩
    · obtain ⟨i, hi, hp⟩ := h
      have hin : i = n := by
        apply Classical.byContradiction
        intro hne
        exact c ⟨i, by omega, hp⟩
      subst hin
      refine ⟨i, by omega, hp, fun j hj => ?_⟩
      cases e : P j with
      | false => rfl
      | true => exact absurd ⟨j, hj, e⟩ c
theorem low_of (x : BitVec 64) (h : x ≠ 0#64) : ∃ t, t < 64 ∧ x.getLsbD t = true ∧ ∀ j, j < t → x.getLsbD j = false := by
  refine least (fun i => x.getLsbD i) 64 ?_
  apply Classical.byContradiction
  intro hn
  apply h
  apply BitVec.eq_of_getLsbD_eq
  intro i hi
  cases e : x.getLsbD i with
  | false => simp
  | true => exact absurd ⟨i, hi, e⟩ hn
theorem neg_bit (x : BitVec 64) (t i : Nat) (hi : i < 64) (ht : x.getLsbD t = true) (hl : ∀ j, j < t → x.getLsbD j = false) :
    (-x).getLsbD i = if i ≤ t then decide (i = t) else !x.getLsbD i := by
  rw [BitVec.getLsbD_neg]
  by_cases c : i ≤ t
  · have hn : ¬ ∃ j, j < i ∧ x.getLsbD j = true := by
      rintro ⟨j, hj, hb⟩
      rw [hl j (by omega)] at hb; cases hb
    rw [if_pos c, decide_eq_false hn]
    by_cases d : i = t
    · subst d; simp [ht, hi]
    · simp [hl i (by omega), d]
  · have hy : ∃ j, j < i ∧ x.getLsbD j = true := ⟨t, by omega, ht⟩
    rw [if_neg c, decide_eq_true hy]
    simp [hi]
theorem low_word (x : BitVec 64) (t : Nat) (h64 : t < 64) (ht : x.getLsbD t = true) (hl : ∀ j, j < t → x.getLsbD j = false) : x &&& -x = BitVec.ofNat 64 (2 ^ t) := by
  apply BitVec.eq_of_getLsbD_eq
  intro i hi
  rw [BitVec.getLsbD_and, neg_bit x t i hi ht hl]
  have e : (BitVec.ofNat 64 (2 ^ t)).getLsbD i = decide (i = t) := by
    rw [BitVec.getLsbD_ofNat, Nat.testBit_two_pow]
    simp [hi]; omega
  rw [e]
  by_cases c : i ≤ t
  · rw [if_pos c]
    by_cases d : i = t
    · subst d; simp [ht]
    · simp [d]
  · rw [if_neg c]
    have : i ≠ t := by omega
    simp [this]
theorem less_word (x : BitVec 64) (t i : Nat) (hi : i < 64) (ht : x.getLsbD t = true) (hl : ∀ j, j < t → x.getLsbD j = false) : (x &&& (x - 1#64)).getLsbD i = (x.getLsbD i && decide (t < i)) := by
  have e : x - 1#64 = ~~~(-x) := by rw [BitVec.not_neg]
  rw [e, BitVec.getLsbD_and, BitVec.getLsbD_not, neg_bit x t i hi ht hl]
  by_cases c : i ≤ t
  · rw [if_pos c]
    by_cases d : i = t
    · subst d; simp
    · simp [hl i (by omega)]
  · rw [if_neg c]
    simp [hi, show t < i by omega]

/-! The places of the bits that are 1 -/
def upto (x : BitVec 64) (p : Nat) : List Nat := (List.range p).filter fun i => x.getLsbD i
def places (x : BitVec 64) : List Nat := upto x 64
theorem upto_skip (x : BitVec 64) (p : Nat) : ∀ q, p ≤ q → (∀ j, p ≤ j → j < q → x.getLsbD j = false) → upto x q = upto x p
  | 0, h, _ => by obtain rfl : p = 0 := by omega
                  rfl
  | q + 1, h, hz => by
    by_cases c : p = q + 1
    · rw [c]
    · have ih := upto_skip x p q (by omega) (fun j a b => hz j a (by omega))
      unfold upto at *
      rw [List.range_succ, List.filter_append, ih]
      simp [hz q (by omega) (by omega)]
theorem upto_next (x : BitVec 64) (p t : Nat) (h : p ≤ t) (ht : x.getLsbD t = true) (hz : ∀ j, p ≤ j → j < t → x.getLsbD j = false) : upto x (t + 1) = upto x p ++ [t] := by
  rw [← upto_skip x p t h hz]
  unfold upto
  rw [List.range_succ, List.filter_append]
  simp [ht]
theorem upto_prefix (x : BitVec 64) (p : Nat) : ∀ q, p ≤ q → upto x p <+: upto x q
  | 0, h => by obtain rfl : p = 0 := by omega
               exact List.prefix_refl _
  | q + 1, h => by
    by_cases c : p = q + 1
    · rw [c]; exact List.prefix_refl _
    · refine (upto_prefix x p q (by omega)).trans ?_
      unfold upto
      rw [List.range_succ, List.filter_append]
      exact List.prefix_append _ _
theorem upto_length (x : BitVec 64) (p : Nat) : (upto x p).length ≤ p := by
  unfold upto
  have := List.length_filter_le (fun i => x.getLsbD i) (List.range p)
  simpa using this
end Go.Proofs.YtehbnidcjpbabaaDoor
