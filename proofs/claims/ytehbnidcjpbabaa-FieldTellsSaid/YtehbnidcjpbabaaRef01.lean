/-
  The document's own answers for layer 1, bit by bit, come to what package field answers: contracts of their loops. No condition.
-/
import Derived.Test.YtehbnidcjpbabaaFieldMath
namespace Go.Proofs.Ytehbnidcjpbabaa
open Go Go.RowKit

theorem bit_num (x : BitVec 64) (k : Nat) (hk : k ≤ 63) : bits BinOp.and IntKind.u64 ((x.toNat : Int) / 2 ^ k) 1 = ((x >>> k &&& 1#64).toNat : Int) := by
  have := bv_shr x k
  rw [Nat.min_eq_left (by omega)] at this
  rw [this]; exact bv_and _ 1#64
def bitB (x : BitVec 64) (k : Nat) : BitVec 64 := x >>> k &&& 1#64
theorem one_bit (i : Nat) : (1#64).getLsbD i = decide (i = 0) := by
  cases i with
  | zero => rfl
  | succ j =>
    show (1 % 2 ^ 64 : Nat).testBit (j + 1) = decide (j + 1 = 0)
    rw [Nat.testBit_succ]; simp
theorem bitB_bit (x : BitVec 64) (k i : Nat) : (bitB x k).getLsbD i = (x.getLsbD k && decide (i = 0)) := by
  unfold bitB
  rw [BitVec.getLsbD_and, BitVec.getLsbD_ushiftRight, one_bit]
  by_cases h : i = 0
  · subst h; rfl
  · simp [h]
theorem bitB_eq (x : BitVec 64) (k : Nat) : bitB x k = if x.getLsbD k then 1#64 else 0#64 := by
  apply BitVec.eq_of_getLsbD_eq
  intro i hi
  rw [bitB_bit]
  cases x.getLsbD k
  · simp
  · simp
theorem bitB_toNat (x : BitVec 64) (k : Nat) : ((bitB x k).toNat : Int) = if x.getLsbD k then 1 else 0 := by
  rw [bitB_eq]; split <;> rfl
theorem bit_any (x : BitVec 64) (k : Nat) (w : World) (hk : k ≤ 63) :
    Calls Try.prog 18 #[.int .u64 x.toNat, .int .i64 k] w fun e w' => e = .returned (.int .u64 (bitB x k).toNat) ∧ w' = w := by
  have H := Lib.hid (bit_num x k hk)
  go_enter Try.func18, Try.ntmps18
  go_wp2
  go_ret
  exact ⟨ret_int H.out, rfl⟩
theorem is_yes (hi lo : Nat) (w : World) (h1 : lo ≤ hi) (h2 : hi ≤ 63) :
    Calls Try.prog 21 #[.int .i64 hi, .int .i64 lo] w fun e w' => e = .returned (.bool true) ∧ w' = w := by
  have c' : decide ((hi : Int) ≤ 63) = true := by simp; omega
  go_enter Try.func21, Try.ntmps21
  go_wp2
  go_ret
  exact ⟨rfl, rfl⟩
theorem is_no (hi lo : Int) (w : World) (h : lo < 0 ∨ hi < lo ∨ 63 < hi) :
    Calls Try.prog 21 #[.int .i64 hi, .int .i64 lo] w fun e w' => e = .returned (.bool false) ∧ w' = w := by
  by_cases a : 0 ≤ lo
  · by_cases b : lo ≤ hi
    · have c : 63 < hi := by omega
      have c' : decide (hi ≤ 63) = false := by simp; omega
      clear h
      go_enter Try.func21, Try.ntmps21
      go_wp2
      go_ret
      exact ⟨rfl, rfl⟩
    · clear h
      have c : hi < lo := by omega
      have c' : decide (lo ≤ hi) = false := by simp; omega
      go_enter Try.func21, Try.ntmps21
      go_wp2
      go_ret
      exact ⟨rfl, rfl⟩
  · clear h
    have c : lo < 0 := by omega
    have c' : decide (0 ≤ lo) = false := by simp; omega
    go_enter Try.func21, Try.ntmps21
    go_wp2
    go_ret
    exact ⟨rfl, rfl⟩

/-! Get -/
def gotB (x : BitVec 64) (hi j : Nat) : BitVec 64 := (x >>> j) &&& mask (hi + 1 - j)
theorem gotB_step (x : BitVec 64) (hi j : Nat) (h2 : hi ≤ 63) (hj : j ≤ hi) : (gotB x hi (j + 1) <<< 1) ||| bitB x j = gotB x hi j := by
  apply BitVec.eq_of_getLsbD_eq
  intro i hi64
  unfold gotB
  rw [BitVec.getLsbD_or, BitVec.getLsbD_shiftLeft, BitVec.getLsbD_and, BitVec.getLsbD_and, bitB_bit, BitVec.getLsbD_ushiftRight, BitVec.getLsbD_ushiftRight, mask_bit _ _ (by omega), mask_bit _ _ (by omega)]
  cases i with
  | zero => simp; omega
  | succ i =>
    simp only [show i + 1 < 64 by omega, show ¬ i + 1 < 1 by omega, show i + 1 - 1 = i by omega, show j + 1 + i = j + (i + 1) by omega, show ¬ i + 1 = 0 by omega]
    simp
    congr 1
    rw [decide_eq_decide]; omega
theorem gotB_none (x : BitVec 64) (hi : Nat) : gotB x hi (hi + 1) = 0#64 := by
  unfold gotB
  rw [Nat.sub_self]
  have : mask 0 = 0#64 := rfl
  rw [this, BitVec.and_zero]
theorem shl1_or (x y : BitVec 64) : bits BinOp.or IntKind.u64 (IntKind.u64.wrap ((x.toNat : Int) * 2)) (y.toNat : Int) = (((x <<< 1) ||| y).toNat : Int) := by
  have := shl_num x 1 (by decide)
  rw [show ((2 : Int) ^ 1) = 2 from rfl] at this
  rw [this, bv_or]
theorem rget_yes (x : BitVec 64) (hi lo : Nat) (w : World) (h1 : lo ≤ hi) (h2 : hi ≤ 63) :
    Calls Try.prog 9 #[.int .u64 x.toNat, .int .i64 hi, .int .i64 lo] w fun e w' => e = .returned (.int .u64 (getB x hi lo).toNat) ∧ w' = w := by
  have H1 := Lib.hid h1
  have hz : (0 : Int) = ((gotB x hi (hi + 1)).toNat : Int) := by rw [gotB_none]; rfl
  have HZ := Lib.hid hz; clear hz
  go_enter Try.func9, Try.ntmps9
  go_wp2_with (go_at_call 21; refine (is_yes _ _ _ h1 h2).mono ?_; rintro e w' ⟨rfl, rfl⟩)
  go_loop [7, 8] (fun v i => ∃ k : Int, (lo : Int) - 1 ≤ k ∧ k ≤ (hi : Int) ∧ i = .int .i64 k ∧ v = .int .u64 (gotB x hi (k + 1).toNat).toNat) (fun _ i => (intOf i + 1 - lo).toNat)
  case atStart => exact ⟨hi, by omega, by omega, rfl, by rw [show ((hi : Int) + 1).toNat = hi + 1 by omega, ← HZ.out]⟩
  case round =>
    obtain ⟨k, ha, hb, rfl, rfl⟩ := hrel
    by_cases hlt : (lo : Int) ≤ k
    · obtain ⟨j, rfl⟩ := Int.eq_ofNat_of_zero_le (show 0 ≤ k by omega)
      have hj : j ≤ hi := by omega
      rw [show ((j : Int) + 1).toNat = j + 1 by omega]
      have HS := Lib.hid (shl1_or (gotB x hi (j + 1)) (bitB x j))
      have HT := Lib.hid (gotB_step x hi j h2 hj)
      go_wp2_with (go_at_call 18; refine (bit_any x j _ (by omega)).mono ?_; rintro e w' ⟨rfl, rfl⟩)
      go_round
      case rel => exact ⟨(j : Int) - 1, by omega, by omega, rfl, by rw [HS.out, HT.out, show ((j : Int) - 1 + 1).toNat = j by omega]⟩
      case measure => simp [intOf]; omega
    · obtain rfl : k = (lo : Int) - 1 := by omega
      rw [show ((lo : Int) - 1 + 1).toNat = lo by omega]
      go_wp2
      go_ret
      exact ⟨ret_int (by unfold gotB getB; rw [show hi + 1 - lo = hi - lo + 1 by omega]), rfl⟩
theorem rget_no (x : Int) (hi lo : Int) (w : World) (h : lo < 0 ∨ hi < lo ∨ 63 < hi) :
    Calls Try.prog 9 #[.int .u64 x, .int .i64 hi, .int .i64 lo] w fun e w' => e = .returned (.int .u64 0) ∧ w' = w := by
  have H := Lib.hid h; clear h
  go_enter Try.func9, Try.ntmps9
  go_wp2_with (go_at_call 21; refine (is_no _ _ _ H.out).mono ?_; rintro e w' ⟨rfl, rfl⟩)
  go_ret
  exact ⟨rfl, rfl⟩

/-! Ones -/
def sumB (lo j : Nat) : BitVec 64 := mask (j - lo) <<< lo
theorem sumB_bit (lo j i : Nat) (hj : j ≤ 64) (hi : i < 64) : (sumB lo j).getLsbD i = decide (lo ≤ i ∧ i < j) := by
  unfold sumB
  rw [BitVec.getLsbD_shiftLeft, mask_bit _ _ (by omega)]
  by_cases a : lo ≤ i
  · by_cases b : i < j
    · simp [a, b, hi, show ¬ i < lo by omega, show i - lo < j - lo by omega]
    · simp [a, b, show ¬ i - lo < j - lo by omega]
  · simp [a, show i < lo by omega]
theorem sumB_step (lo j : Nat) (hj : j ≤ 63) (hl : lo ≤ j) : sumB lo j ||| (1#64 <<< j) = sumB lo (j + 1) := by
  apply BitVec.eq_of_getLsbD_eq
  intro i hi
  rw [BitVec.getLsbD_or, sumB_bit _ _ _ (by omega) hi, sumB_bit _ _ _ (by omega) hi, BitVec.getLsbD_shiftLeft, one_bit]
  by_cases a : i = j
  · subst a; simp [hl, hi]
  · by_cases b : i < j
    · by_cases c : lo ≤ i <;> simp [b, c, show i < j + 1 by omega]
    · simp [b, show ¬ i < j + 1 by omega]
      intro _ _; omega
theorem or_shl (x : BitVec 64) (j : Nat) (h : j ≤ 63) : bits BinOp.or IntKind.u64 (x.toNat : Int) (IntKind.u64.wrap (2 ^ j)) = ((x ||| (1#64 <<< j)).toNat : Int) := by
  have := shl_num 1#64 j h
  rw [show (((1#64).toNat : Nat) : Int) = 1 from rfl, Int.one_mul] at this
  rw [this, bv_or]
theorem sumB_none (lo : Nat) : sumB lo lo = 0#64 := by
  unfold sumB
  rw [Nat.sub_self]
  have : mask 0 = 0#64 := rfl
  rw [this, BitVec.zero_shiftLeft]
theorem rones_yes (hi lo : Nat) (w : World) (h1 : lo ≤ hi) (h2 : hi ≤ 63) :
    Calls Try.prog 11 #[.int .i64 hi, .int .i64 lo] w fun e w' => e = .returned (.int .u64 (onesB hi lo).toNat) ∧ w' = w := by
  have hz : (0 : Int) = ((sumB lo lo).toNat : Int) := by rw [sumB_none]; rfl
  have HZ := Lib.hid hz; clear hz
  go_enter Try.func11, Try.ntmps11
  go_wp2_with (go_at_call 21; refine (is_yes _ _ _ h1 h2).mono ?_; rintro e w' ⟨rfl, rfl⟩)
  go_loop [5, 6] (fun v i => ∃ k : Nat, lo ≤ k ∧ k ≤ hi + 1 ∧ i = .int .i64 k ∧ v = .int .u64 (sumB lo k).toNat) (fun _ i => hi + 1 - (intOf i).toNat)
  case atStart => exact ⟨lo, by omega, by omega, rfl, by rw [← HZ.out]⟩
  case round =>
    obtain ⟨k, ha, hb, rfl, rfl⟩ := hrel
    by_cases hlt : k ≤ hi
    · have hk63 : k ≤ 63 := by omega
      have HS := Lib.hid (or_shl (sumB lo k) k hk63)
      have HT := Lib.hid (sumB_step lo k hk63 ha)
      go_wp2
      go_round
      case rel => exact ⟨k + 1, by omega, by omega, by go_num, by rw [HS.out, HT.out]⟩
      case measure => simp [intOf]; omega
    · obtain rfl : k = hi + 1 := by omega
      go_wp2
      go_ret
      exact ⟨ret_int (by unfold sumB onesB; rw [show hi + 1 - lo = hi - lo + 1 by omega]), rfl⟩
theorem rones_no (hi lo : Int) (w : World) (h : lo < 0 ∨ hi < lo ∨ 63 < hi) :
    Calls Try.prog 11 #[.int .i64 hi, .int .i64 lo] w fun e w' => e = .returned (.int .u64 0) ∧ w' = w := by
  have H := Lib.hid h; clear h
  go_enter Try.func11, Try.ntmps11
  go_wp2_with (go_at_call 21; refine (is_no _ _ _ H.out).mono ?_; rintro e w' ⟨rfl, rfl⟩)
  go_ret
  exact ⟨rfl, rfl⟩

/-! Fits -/
theorem rfits_no (v hi lo : Int) (w : World) (h : lo < 0 ∨ hi < lo ∨ 63 < hi) :
    Calls Try.prog 13 #[.int .u64 v, .int .i64 hi, .int .i64 lo] w fun e w' => e = .returned (.bool false) ∧ w' = w := by
  have H := Lib.hid h; clear h
  go_enter Try.func13, Try.ntmps13
  go_wp2_with (go_at_call 21; refine (is_no _ _ _ H.out).mono ?_; rintro e w' ⟨rfl, rfl⟩)
  go_ret
  exact ⟨rfl, rfl⟩
theorem not_fit_bit {v : BitVec 64} {n : Nat} (hn : n ≤ 64) (hf : (mask n).toNat < v.toNat) (h : ∀ i, n ≤ i → i < 64 → v.getLsbD i = false) : False := by
  have := fit_of_bit hn h
  omega
def Clear (v : BitVec 64) (n k : Nat) : Prop := ∀ i, n ≤ i → i < k → v.getLsbD i = false
theorem Clear.step {v : BitVec 64} {n k : Nat} (h : Clear v n k) (hb : v.getLsbD k = false) : Clear v n (k + 1) := fun i a b => by
  by_cases c : i = k
  · rw [c]; exact hb
  · exact h i a (by omega)
theorem rfits_yes (v : BitVec 64) (hi lo : Nat) (w : World) (h1 : lo ≤ hi) (h2 : hi ≤ 63) (hf : v.toNat ≤ (mask (hi - lo + 1)).toNat) :
    Calls Try.prog 13 #[.int .u64 v.toNat, .int .i64 hi, .int .i64 lo] w fun e w' => e = .returned (.bool true) ∧ w' = w := by
  have H := Lib.hid hf; clear hf
  go_enter Try.func13, Try.ntmps13
  go_wp2_with (go_at_call 21; refine (is_yes _ _ _ h1 h2).mono ?_; rintro e w' ⟨rfl, rfl⟩)
  go_loop [7] (fun i => ∃ k : Nat, hi - lo + 1 ≤ k ∧ k ≤ 64 ∧ i = .int .i64 k) (fun i => 64 - (intOf i).toNat)
  case atStart => exact ⟨hi - lo + 1, by omega, by omega, by go_num⟩
  case round =>
    obtain ⟨k, ha, hb, rfl⟩ := hrel
    by_cases hlt : k ≤ 63
    · have hz : bitB v k = 0#64 := by rw [bitB_eq, fit_bit (by omega) H.out ha]; rfl
      go_wp2_with (go_at_call 18; refine (bit_any v k _ (by omega)).mono ?_; rintro e w' ⟨rfl, rfl⟩)
      go_round
      case rel => exact ⟨k + 1, by omega, by omega, by go_num⟩
      case measure => simp [intOf]; omega
    · obtain rfl : k = 64 := by omega
      go_wp2
      go_ret
      exact ⟨rfl, rfl⟩
theorem rfits_not (v : BitVec 64) (hi lo : Nat) (w : World) (h1 : lo ≤ hi) (h2 : hi ≤ 63) (hf : (mask (hi - lo + 1)).toNat < v.toNat) :
    Calls Try.prog 13 #[.int .u64 v.toNat, .int .i64 hi, .int .i64 lo] w fun e w' => e = .returned (.bool false) ∧ w' = w := by
  have H := Lib.hid hf; clear hf
  go_enter Try.func13, Try.ntmps13
  go_wp2_with (go_at_call 21; refine (is_yes _ _ _ h1 h2).mono ?_; rintro e w' ⟨rfl, rfl⟩)
  go_loop [7] (fun i => ∃ k : Nat, hi - lo + 1 ≤ k ∧ k ≤ 64 ∧ i = .int .i64 k ∧ Clear v (hi - lo + 1) k) (fun i => 64 - (intOf i).toNat)
  case atStart => exact ⟨hi - lo + 1, by omega, by omega, by go_num, fun i a b => by omega⟩
  case round =>
    obtain ⟨k, ha, hb, rfl, hc⟩ := hrel
    have HC := Lib.hid hc; clear hc
    by_cases hlt : k ≤ 63
    · by_cases hbit : v.getLsbD k
      · have hz : bitB v k = 1#64 := by rw [bitB_eq, if_pos hbit]
        clear hbit
        go_wp2_with (go_at_call 18; refine (bit_any v k _ (by omega)).mono ?_; rintro e w' ⟨rfl, rfl⟩)
        go_ret
        exact ⟨rfl, rfl⟩
      · have hz : bitB v k = 0#64 := by rw [bitB_eq, if_neg hbit]
        have HB := Lib.hid hbit
        clear hbit
        go_wp2_with (go_at_call 18; refine (bit_any v k _ (by omega)).mono ?_; rintro e w' ⟨rfl, rfl⟩)
        go_round
        case rel => exact ⟨k + 1, by omega, by omega, by go_num, HC.out.step (by simpa using HB.out)⟩
        case measure => simp [intOf]; omega
    · obtain rfl : k = 64 := by omega
      exact (not_fit_bit (by omega) H.out HC.out).elim

/-! Put -/
theorem push_bit (P b : BitVec 64) (j : Nat) (hb : b.getLsbD 0 = P.getLsbD j) (hz : ∀ i, 0 < i → b.getLsbD i = false) : ((P >>> (j + 1)) <<< 1) ||| b = P >>> j := by
  apply BitVec.eq_of_getLsbD_eq
  intro i hi
  rw [BitVec.getLsbD_or, BitVec.getLsbD_shiftLeft, BitVec.getLsbD_ushiftRight, BitVec.getLsbD_ushiftRight]
  cases i with
  | zero => rw [hb, Nat.add_zero]; simp
  | succ i =>
    rw [hz (i + 1) (by omega)]
    simp only [show ¬ i + 1 < 1 by omega, show i + 1 - 1 = i by omega, show j + 1 + i = j + (i + 1) by omega, hi]
    simp
theorem bitB_rest (x : BitVec 64) (k : Nat) : ∀ i, 0 < i → (bitB x k).getLsbD i = false := fun i hi => by
  rw [bitB_bit]; simp; intro _; omega
theorem bitB_0 (x : BitVec 64) (k : Nat) : (bitB x k).getLsbD 0 = x.getLsbD k := by rw [bitB_bit]; simp
theorem put_in (x v : BitVec 64) (hi lo j : Nat) (h1 : lo ≤ hi) (h2 : hi ≤ 63) (hf : v.toNat ≤ (mask (hi - lo + 1)).toNat) (ha : lo ≤ j) (hb : j ≤ hi) :
    ((putB x v hi lo >>> (j + 1)) <<< 1) ||| bitB v (j - lo) = putB x v hi lo >>> j :=
  push_bit _ _ _ (by rw [bitB_0, putB_bit _ _ _ _ _ h1 h2 hf (by omega), if_pos ⟨ha, hb⟩]) (bitB_rest _ _)
theorem put_out (x v : BitVec 64) (hi lo j : Nat) (h1 : lo ≤ hi) (h2 : hi ≤ 63) (hf : v.toNat ≤ (mask (hi - lo + 1)).toNat) (hj : j ≤ 63) (hn : ¬ (lo ≤ j ∧ j ≤ hi)) :
    ((putB x v hi lo >>> (j + 1)) <<< 1) ||| bitB x j = putB x v hi lo >>> j :=
  push_bit _ _ _ (by rw [bitB_0, putB_bit _ _ _ _ _ h1 h2 hf (by omega), if_neg hn]) (bitB_rest _ _)
def atB (P : BitVec 64) (j : Nat) : BitVec 64 := P >>> j
theorem atB_64 (P : BitVec 64) : atB P 64 = 0#64 := by
  apply BitVec.eq_of_getLsbD_eq
  intro i hi
  unfold atB
  rw [BitVec.getLsbD_ushiftRight, BitVec.getLsbD_of_ge _ _ (by omega)]
  simp
theorem rput_yes (x v : BitVec 64) (hi lo : Nat) (w : World) (h1 : lo ≤ hi) (h2 : hi ≤ 63) (hf : v.toNat ≤ (mask (hi - lo + 1)).toNat) :
    Calls Try.prog 7 #[.int .u64 x.toNat, .int .i64 hi, .int .i64 lo, .int .u64 v.toNat] w fun e w' => e = .returned (.tuple #[.int .u64 (putB x v hi lo).toNat, .int .i64 0]) ∧ w' = w := by
  have H := Lib.hid hf; clear hf
  have hz : (0 : Int) = ((atB (putB x v hi lo) 64).toNat : Int) := by rw [atB_64]; rfl
  have HZ := Lib.hid hz; clear hz
  go_enter Try.func7, Try.ntmps7
  go_wp2_with (go_at_call 13; refine (rfits_yes v hi lo _ h1 h2 H.out).mono ?_; rintro e w' ⟨rfl, rfl⟩)
  go_loop [10, 11] (fun v' i => ∃ k : Int, -1 ≤ k ∧ k ≤ 63 ∧ i = .int .i64 k ∧ v' = .int .u64 (atB (putB x v hi lo) (k + 1).toNat).toNat) (fun _ i => (intOf i + 1).toNat)
  case atStart => exact ⟨63, by omega, by omega, rfl, by rw [show ((63 : Int) + 1).toNat = 64 by omega, ← HZ.out]⟩
  case round =>
    obtain ⟨k, ha, hb, rfl, rfl⟩ := hrel
    by_cases hlt : 0 ≤ k
    · obtain ⟨j, rfl⟩ := Int.eq_ofNat_of_zero_le hlt
      have hj : j ≤ 63 := by omega
      rw [show ((j : Int) + 1).toNat = j + 1 by omega]
      by_cases c1 : lo ≤ j
      · by_cases c2 : j ≤ hi
        · have HS := Lib.hid (shl1_or (atB (putB x v hi lo) (j + 1)) (bitB v (j - lo)))
          have HT := Lib.hid (put_in x v hi lo j h1 h2 H.out c1 c2)
          have d2 : decide (j ≤ hi) = true := by simpa using c2
          go_wp2_with fail
          refine (bit_any x j _ (by omega)).mono ?_; rintro e w' ⟨rfl, rfl⟩
          go_wp2_with fail
          rw [show ((j : Int) - (lo : Int)) = ((j - lo : Nat) : Int) by omega]
          refine (bit_any v (j - lo) _ (by omega)).mono ?_; rintro e w' ⟨rfl, rfl⟩
          go_wp2_with fail
          go_round
          case rel => exact ⟨(j : Int) - 1, by omega, by omega, rfl, by rw [HS.out, show ((j : Int) - 1 + 1).toNat = j by omega]; unfold atB; rw [HT.out]⟩
          case measure => simp [intOf] <;> omega
        · have HS := Lib.hid (shl1_or (atB (putB x v hi lo) (j + 1)) (bitB x j))
          have HT := Lib.hid (put_out x v hi lo j h1 h2 H.out hj (by omega))
          have d2 : decide (j ≤ hi) = false := by simpa using c2
          go_wp2_with fail
          refine (bit_any x j _ (by omega)).mono ?_; rintro e w' ⟨rfl, rfl⟩
          go_wp2_with fail
          go_round
          case rel => exact ⟨(j : Int) - 1, by omega, by omega, rfl, by rw [HS.out, show ((j : Int) - 1 + 1).toNat = j by omega]; unfold atB; rw [HT.out]⟩
          case measure => simp [intOf] <;> omega
      · have HS := Lib.hid (shl1_or (atB (putB x v hi lo) (j + 1)) (bitB x j))
        have HT := Lib.hid (put_out x v hi lo j h1 h2 H.out hj (by omega))
        have d2 : decide (lo ≤ j) = false := by simpa using c1
        go_wp2_with fail
        refine (bit_any x j _ (by omega)).mono ?_; rintro e w' ⟨rfl, rfl⟩
        go_wp2_with fail
        go_round
        case rel => exact ⟨(j : Int) - 1, by omega, by omega, rfl, by rw [HS.out, show ((j : Int) - 1 + 1).toNat = j by omega]; unfold atB; rw [HT.out]⟩
        case measure => simp [intOf] <;> omega
    · obtain rfl : k = -1 := by omega
      have HZ2 : Hid (atB (putB x v hi lo) ((-1 : Int) + 1).toNat = putB x v hi lo) := Lib.hid (by unfold atB; rw [show ((-1 : Int) + 1).toNat = 0 from rfl, BitVec.ushiftRight_zero])
      rw [HZ2.out]
      go_wp2
      go_ret2
      exact ⟨rfl, rfl⟩
theorem rput_not (x v : BitVec 64) (hi lo : Nat) (w : World) (h1 : lo ≤ hi) (h2 : hi ≤ 63) (hf : (mask (hi - lo + 1)).toNat < v.toNat) :
    Calls Try.prog 7 #[.int .u64 x.toNat, .int .i64 hi, .int .i64 lo, .int .u64 v.toNat] w fun e w' => e = .returned (.tuple #[.int .u64 x.toNat, .int .i64 2]) ∧ w' = w := by
  have H := Lib.hid hf; clear hf
  go_enter Try.func7, Try.ntmps7
  go_wp2_with (go_at_call 13; refine (rfits_not v hi lo _ h1 h2 H.out).mono ?_; rintro e w' ⟨rfl, rfl⟩)
  go_ret2
  exact ⟨rfl, rfl⟩
theorem rput_no (x v hi lo : Int) (w : World) (h : lo < 0 ∨ hi < lo ∨ 63 < hi) :
    Calls Try.prog 7 #[.int .u64 x, .int .i64 hi, .int .i64 lo, .int .u64 v] w fun e w' => e = .returned (.tuple #[.int .u64 x, .int .i64 2]) ∧ w' = w := by
  have H := Lib.hid h; clear h
  go_enter Try.func7, Try.ntmps7
  go_wp2_with (go_at_call 13; refine (rfits_no v hi lo _ H.out).mono ?_; rintro e w' ⟨rfl, rfl⟩)
  go_ret2
  exact ⟨rfl, rfl⟩

/-! Sign -/
theorem rsign_no (x hi : Int) (w : World) (h : hi < 0 ∨ 63 < hi) :
    Calls Try.prog 15 #[.int .u64 x, .int .i64 hi] w fun e w' => e = .returned (.int .i64 0) ∧ w' = w := by
  by_cases a : hi < 0
  · clear h
    go_enter Try.func15, Try.ntmps15
    go_wp2
    go_ret
    exact ⟨rfl, rfl⟩
  · have b : 63 < hi := by omega
    have c : decide (63 < hi) = true := by simpa using b
    clear h
    go_enter Try.func15, Try.ntmps15
    go_wp2
    go_ret
    exact ⟨rfl, rfl⟩
theorem mod_step (x : BitVec 64) (k : Nat) : ((x.toNat % 2 ^ (k + 1) : Nat) : Int) = ((x.toNat % 2 ^ k : Nat) : Int) + (if x.getLsbD k then 2 ^ k else 0) := by
  have e : x.getLsbD k = decide (x.toNat / 2 ^ k % 2 = 1) := by
    show x.toNat.testBit k = _
    rw [Nat.testBit_eq_decide_div_mod_eq]
  rw [e, Nat.pow_succ, Nat.mod_mul]
  have h : x.toNat / 2 ^ k % 2 = 0 ∨ x.toNat / 2 ^ k % 2 = 1 := by omega
  rcases h with h | h <;> simp [h]
theorem pow62 (k : Nat) (hk : k ≤ 62) : (2 : Nat) ^ k ≤ 4611686018427387904 := Nat.pow_le_pow_right (by decide) hk
theorem pow63 (k : Nat) (hk : k ≤ 63) : (2 : Nat) ^ k ≤ 9223372036854775808 := Nat.pow_le_pow_right (by decide) hk
theorem wrap_add (X k : Nat) (hX : X < 2 ^ k) (hk : k ≤ 62) : wrap64 ((X : Int) + wrap64 (2 ^ k)) = (X : Int) + 2 ^ k := by
  have h := pow62 k hk
  have c : ((2 : Int) ^ k) = ((2 ^ k : Nat) : Int) := by simp
  rw [c]
  generalize 2 ^ k = p at *
  unfold wrap64
  omega
theorem wrap_sub (X k : Nat) (hX : X < 2 ^ k) (hk : k ≤ 63) : wrap64 ((X : Int) - wrap64 (2 ^ k)) = (X : Int) - 2 ^ k := by
  have h := pow63 k hk
  have c : ((2 : Int) ^ k) = ((2 ^ k : Nat) : Int) := by simp
  rw [c]
  generalize 2 ^ k = p at *
  unfold wrap64
  omega
theorem wrap_keep (X k : Nat) (hX : X < 2 ^ k) (hk : k ≤ 62) : wrap64 (X : Int) = (X : Int) := by
  have h := pow62 k hk
  unfold wrap64
  omega
theorem signB_of (x : BitVec 64) (hi : Nat) : signB x hi = ((x.toNat % 2 ^ hi : Nat) : Int) - (if x.getLsbD hi then 2 ^ hi else 0) := by
  have e : x.getLsbD hi = decide (x.toNat / 2 ^ hi % 2 = 1) := by
    show x.toNat.testBit hi = _
    rw [Nat.testBit_eq_decide_div_mod_eq]
  unfold signB
  rw [e]
  have cm : ((x.toNat : Int) % 2 ^ hi) = ((x.toNat % 2 ^ hi : Nat) : Int) := by simp
  have cd : ((x.toNat : Int) / 2 ^ hi % 2) = ((x.toNat / 2 ^ hi % 2 : Nat) : Int) := by simp
  rw [cm, cd]
  have h : x.toNat / 2 ^ hi % 2 = 0 ∨ x.toNat / 2 ^ hi % 2 = 1 := by omega
  rcases h with h | h <;> simp [h]
theorem rsign_yes (x : BitVec 64) (hi : Nat) (w : World) (h2 : hi ≤ 63) :
    Calls Try.prog 15 #[.int .u64 x.toNat, .int .i64 hi] w fun e w' => e = .returned (.int .i64 (signB x hi)) ∧ w' = w := by
  have d1 : decide (63 < (hi : Int)) = false := by simp; omega
  go_enter Try.func15, Try.ntmps15
  go_wp2
  go_loop [5, 6] (fun v i => ∃ k : Nat, k ≤ hi ∧ i = .int .i64 k ∧ v = .int .i64 (x.toNat % 2 ^ k : Nat)) (fun _ i => hi - (intOf i).toNat)
  case atStart => exact ⟨0, by omega, rfl, by rw [Nat.pow_zero, Nat.mod_one]; rfl⟩
  case round =>
    obtain ⟨k, ha, rfl, rfl⟩ := hrel
    have HX := Lib.hid (Nat.mod_lt x.toNat (Nat.two_pow_pos k))
    by_cases hlt : k < hi
    · have HT := Lib.hid (mod_step x k)
      generalize x.toNat % 2 ^ k = X at HT HX ⊢
      by_cases hbit : x.getLsbD k
      · have hz : bitB x k = 1#64 := by rw [bitB_eq, if_pos hbit]
        rw [if_pos hbit] at HT
        clear hbit
        have HW := Lib.hid (wrap_add X k HX.out (by omega))
        go_wp2_with (go_at_call 18; refine (bit_any x k _ (by omega)).mono ?_; rintro e w' ⟨rfl, rfl⟩)
        go_round
        case rel => exact ⟨k + 1, by omega, by go_num, by rw [HW.out, HT.out]⟩
        case measure => simp [intOf]; omega
      · have hz : bitB x k = 0#64 := by rw [bitB_eq, if_neg hbit]
        rw [if_neg hbit] at HT
        clear hbit
        have HW := Lib.hid (wrap_keep X k HX.out (by omega))
        go_wp2_with (go_at_call 18; refine (bit_any x k _ (by omega)).mono ?_; rintro e w' ⟨rfl, rfl⟩)
        go_round
        case rel => exact ⟨k + 1, by omega, by go_num, by rw [HW.out, HT.out, Int.add_zero]⟩
        case measure => simp [intOf]; omega
    · obtain rfl : k = hi := by omega
      have HS := Lib.hid (signB_of x k)
      generalize x.toNat % 2 ^ k = X at HX HS ⊢
      by_cases hbit : x.getLsbD k
      · have hz : bitB x k = 1#64 := by rw [bitB_eq, if_pos hbit]
        rw [if_pos hbit] at HS
        clear hbit
        have HW := Lib.hid (wrap_sub X k HX.out (by omega))
        go_wp2_with (go_at_call 18; refine (bit_any x k _ (by omega)).mono ?_; rintro e w' ⟨rfl, rfl⟩)
        go_ret
        exact ⟨ret_int (by rw [HW.out, HS.out]), rfl⟩
      · have hz : bitB x k = 0#64 := by rw [bitB_eq, if_neg hbit]
        rw [if_neg hbit] at HS
        clear hbit
        go_wp2_with (go_at_call 18; refine (bit_any x k _ (by omega)).mono ?_; rintro e w' ⟨rfl, rfl⟩)
        go_ret
        exact ⟨ret_int (by rw [HS.out]; simp), rfl⟩
end Go.Proofs.Ytehbnidcjpbabaa
