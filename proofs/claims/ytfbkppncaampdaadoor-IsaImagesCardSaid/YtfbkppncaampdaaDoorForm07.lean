/-
  The word of an instruction as a sum: plain arithmetic. No condition.
-/
import Derived.Test.YtfbkppncaampdaaDoorGet07
namespace Go.Proofs.YtfbkppncaampdaaDoor
open Go Go.RowKit

def rLo (b : Bool) (lo : Nat) : Nat := if b then lo else 0
def rWd (b : Bool) : Nat := if b then 3 else 0
def pLo (o k : Nat) : Nat := match k with | 0 => rLo (fD o) 0 | 1 => rLo (fN o) 5 | 2 => rLo (fM o) 16 | _ => fLo o
def pWd (o k : Nat) : Nat := match k with | 0 => rWd (fD o) | 1 => rWd (fN o) | 2 => rWd (fM o) | _ => fWd o
def pS (o k : Nat) : Bool := match k with | 3 => fS o | _ => false
theorem prt_ok (o k : Nat) (ho : o < 19) (hk : k < 4) : pLo o k + pWd o k ≤ 32 ∧ pLo o k < 32 ∧ (pWd o k = 0 → pS o k = false) := by
  have := fmt_ok o ho
  obtain rfl | rfl | rfl | rfl : k = 0 ∨ k = 1 ∨ k = 2 ∨ k = 3 := by omega
  · unfold pLo pWd pS rLo rWd; cases fD o <;> simp
  · unfold pLo pWd pS rLo rWd; cases fN o <;> simp
  · unfold pLo pWd pS rLo rWd; cases fM o <;> simp
  · exact ⟨this.1, this.2.1, this.2.2.2⟩
/-- The word of an instruction, part by part. -/
def vAt (d n m imm : Int) (k : Nat) : Int := match k with | 0 => d | 1 => n | 2 => m | _ => imm
def wrTo (o : Nat) (d n m imm : Int) : Nat → Nat
  | 0 => fW o
  | k + 1 => putN (wrTo o d n m imm k) (pLo o k) (pWd o k) (vAt d n m imm k)
theorem wrTo_lt (o : Nat) (d n m imm : Int) (ho : o < 19) : ∀ k, k ≤ 4 → wrTo o d n m imm k < 4294967296
  | 0, _ => (fmt_ok o ho).2.2.1
  | k + 1, h => putN_lt _ _ _ _ (wrTo_lt o d n m imm ho k (by omega)) (prt_ok o k ho (by omega)).1
def Regs (o : Nat) (d n m : Int) : Prop := MayR (uD o) d ∧ MayR (uN o) n ∧ MayR (uM o) m
def encF (o : Nat) (d n m imm : Int) : Nat := fW o + d.toNat + 32 * n.toNat + 65536 * m.toNat + 2 ^ fLo o * (imm % 2 ^ fWd o).toNat
theorem mayR_of {u r : Int} (h : MayR u r) : ∃ R : Nat, r = R ∧ R < 8 ∧ (u = 0 → R = 0) := by
  rcases h with ⟨h, h'⟩ | ⟨h, h', h''⟩
  · exact ⟨0, by omega, by omega, fun _ => rfl⟩
  · exact ⟨r.toNat, by omega, by omega, fun g => absurd g h⟩
theorem wr_form (o : Nat) (d n m imm : Int) (ho : o < 19) (h : Regs o d n m) : wrTo o d n m imm 4 = encF o d n m imm := by
  obtain ⟨h1, h2, h3⟩ := h
  obtain ⟨D, rfl, hD, zD⟩ := mayR_of h1
  obtain ⟨N, rfl, hN, zN⟩ := mayR_of h2
  obtain ⟨M, rfl, hM, zM⟩ := mayR_of h3
  clear h1 h2 h3
  obtain rfl | rfl | rfl | rfl | rfl | rfl | rfl | rfl | rfl | rfl | rfl | rfl | rfl | rfl | rfl | rfl | rfl | rfl | rfl : o = 0 ∨ o = 1 ∨ o = 2 ∨ o = 3 ∨ o = 4 ∨ o = 5 ∨ o = 6 ∨ o = 7 ∨ o = 8 ∨ o = 9 ∨ o = 10 ∨ o = 11 ∨ o = 12 ∨ o = 13 ∨ o = 14 ∨ o = 15 ∨ o = 16 ∨ o = 17 ∨ o = 18 := by omega
  all_goals
    simp [uD, uN, uM, uDL, uNL, uML] at zD zN zM
    simp [encF, wrTo, putN, pLo, pWd, rLo, rWd, vAt, fW, fD, fN, fM, fLo, fWd, fwL, fdL, fnL, fmL, floL, fwdL]
    omega
/-! bits -/
theorem or_u32 (a b : Nat) (ha : a < 4294967296) (hb : b < 4294967296) : bits .or .u32 (a : Int) (b : Int) = ((a ||| b : Nat) : Int) := by
  have hx : a ||| b < 2 ^ 32 := Nat.or_lt_two_pow (by omega) (by omega)
  have h1 : (BitVec.ofInt 32 (a : Int)).toNat = a := by
    rw [BitVec.ofInt_natCast, BitVec.toNat_ofNat]; exact Nat.mod_eq_of_lt (by omega)
  have h2 : (BitVec.ofInt 32 (b : Int)).toNat = b := by
    rw [BitVec.ofInt_natCast, BitVec.toNat_ofNat]; exact Nat.mod_eq_of_lt (by omega)
  show IntKind.u32.wrap ((BitVec.ofInt 32 (a : Int) ||| BitVec.ofInt 32 (b : Int)).toNat : Int) = _
  rw [BitVec.toNat_or, h1, h2, wrap_u32']
  omega
theorem and_u32 (a b : Nat) (ha : a < 4294967296) (hb : b < 4294967296) : bits .and .u32 (a : Int) (b : Int) = ((a &&& b : Nat) : Int) := by
  have hx : a &&& b < 2 ^ 32 := Nat.and_lt_two_pow _ (by omega)
  have h1 : (BitVec.ofInt 32 (a : Int)).toNat = a := by
    rw [BitVec.ofInt_natCast, BitVec.toNat_ofNat]; exact Nat.mod_eq_of_lt (by omega)
  have h2 : (BitVec.ofInt 32 (b : Int)).toNat = b := by
    rw [BitVec.ofInt_natCast, BitVec.toNat_ofNat]; exact Nat.mod_eq_of_lt (by omega)
  show IntKind.u32.wrap ((BitVec.ofInt 32 (a : Int) &&& BitVec.ofInt 32 (b : Int)).toNat : Int) = _
  rw [BitVec.toNat_and, h1, h2, wrap_u32']
  omega
/-- A field that is 0 in a word, put there by or. -/
theorem or_field (X i k v : Nat) (h : X / 2 ^ i % 2 ^ k = 0) (hv : v < 2 ^ k) : X ||| v * 2 ^ i = X + v * 2 ^ i := by
  have e : X + v * 2 ^ i = 2 ^ i * (2 ^ k * (X / 2 ^ i / 2 ^ k) + v) + X % 2 ^ i := by
    have a := Nat.div_add_mod X (2 ^ i)
    have b := Nat.div_add_mod (X / 2 ^ i) (2 ^ k)
    rw [h, Nat.add_zero] at b
    rw [b, Nat.mul_add, Nat.mul_comm v]
    omega
  rw [e]
  apply Nat.eq_of_testBit_eq
  intro j
  rw [Nat.testBit_two_pow_mul_add _ (Nat.mod_lt _ (Nat.two_pow_pos i)), Nat.testBit_two_pow_mul_add _ hv, Nat.testBit_or, Nat.mul_comm v, Nat.testBit_two_pow_mul, Nat.testBit_mod_two_pow, Nat.testBit_div_two_pow, Nat.testBit_div_two_pow]
  have hz : ∀ t, t < k → X.testBit (t + i) = false := fun t ht => by
    have := congrArg (fun z => Nat.testBit z t) h
    simpa [Nat.testBit_mod_two_pow, Nat.testBit_div_two_pow, ht] using this
  by_cases a : j < i
  · simp [a, show ¬ i ≤ j by omega]
  · by_cases b : j - i < k
    · have := hz (j - i) b
      rw [show j - i + i = j by omega] at this
      simp [a, b, this, show i ≤ j by omega]
    · have := Nat.testBit_lt_two_pow (x := v) (i := j - i) (Nat.lt_of_lt_of_le hv (Nat.pow_le_pow_right (by decide) (by omega)))
      simp [a, b, this]
      congr 1; omega
end Go.Proofs.YtfbkppncaampdaaDoor
