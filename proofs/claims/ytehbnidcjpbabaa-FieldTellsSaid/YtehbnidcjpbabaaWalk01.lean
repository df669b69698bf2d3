/-
  The statements of layer 1 return true: wakes, FieldHalves, FieldBack. No condition.
-/
import Derived.Test.YtehbnidcjpbabaaFieldMath
namespace Go.Proofs.Ytehbnidcjpbabaa
open Go Go.RowKit

theorem wakes_put16 (w : World) : Calls Try.prog 6 #[.int .u64 0, .int .i64 7, .int .i64 4, .int .u64 16] w fun e w' => e = .returned (.tuple #[.int .u64 0, .int .i64 2]) ∧ Grown w w' :=
  put_not 0#64 16#64 7 4 w (by decide) (by decide) (by decide)
theorem wakes_put15 (w : World) : Calls Try.prog 6 #[.int .u64 0, .int .i64 7, .int .i64 4, .int .u64 15] w fun e w' => e = .returned (.tuple #[.int .u64 240, .int .i64 0]) ∧ Grown w w' :=
  put_yes 0#64 15#64 7 4 w (by decide) (by decide) (by decide)
theorem wakes_get (w : World) : Calls Try.prog 8 #[.int .u64 43981, .int .i64 11, .int .i64 4] w fun e w' => e = .returned (.int .u64 188) ∧ Grown w w' :=
  get_yes 43981#64 11 4 w (by decide) (by decide)
theorem wakes_sign (w : World) : Calls Try.prog 14 #[.int .u64 15, .int .i64 3] w fun e w' => e = .returned (.int .i64 (-1)) ∧ Grown w w' :=
  sign_yes 15#64 3 w (by decide)
theorem wakes_any (w : World) : Calls Try.prog 16 #[] w fun e w' => e = .returned (.bool true) ∧ Grown w w' := by
  go_enter Try.func16, Try.ntmps16
  go_wp2_with fail
  refine (wakes_put16 _).mono ?_; rintro e w1 ⟨rfl, h1⟩
  have H1 := Lib.hid h1; clear h1
  go_wp2_with fail
  refine (wakes_put15 _).mono ?_; rintro e w2 ⟨rfl, h2⟩
  have H2 := Lib.hid h2; clear h2
  go_wp2_with fail
  refine (wakes_get _).mono ?_; rintro e w3 ⟨rfl, h3⟩
  have H3 := Lib.hid h3; clear h3
  go_wp2_with fail
  refine (wakes_sign _).mono ?_; rintro e w4 ⟨rfl, h4⟩
  have H4 := Lib.hid h4; clear h4
  go_wp2_with fail
  go_ret
  exact ⟨rfl, grown_trans H1.out (grown_trans H2.out (grown_trans H3.out H4.out))⟩
theorem k_of (a : Int) (h : (Lit.int .i64 a).wf = true) : ∃ k : Nat, k ≤ 62 ∧ (wrap64 (a.tmod 63 + 63)).tmod 63 = (k : Int) := by
  have h' : -9223372036854775808 ≤ a ∧ a < 9223372036854775808 := by
    simp [Lit.wf, IntKind.min, IntKind.max, IntKind.bits, IntKind.signed] at h
    omega
  have hb : -63 < a.tmod 63 ∧ a.tmod 63 < 63 := by
    rw [Int.tmod_eq_emod]
    split <;> omega
  have e : a.tmod 63 + 63 = wrap64 (a.tmod 63 + 63) := by unfold wrap64; omega
  rw [← e, Int.tmod_eq_emod_of_nonneg (by omega)]
  exact ⟨((a.tmod 63 + 63) % 63).toNat, by omega, by omega⟩
theorem ones_halves_num (k : Nat) (hk : k ≤ 62) : bits BinOp.xor IntKind.u64 ((onesB 63 (k + 1)).toNat : Int) ((onesB k 0).toNat : Int) = 18446744073709551615 := by
  rw [bv_xor, ones_halves k hk]; rfl
theorem walkHalves (a0 : Int) (a1 : Int) (w0 : (Lit.int .u64 a0).wf = true) (w1 : (Lit.int .i64 a1).wf = true) (w : World) :
    Calls Try.prog 5 #[.int .u64 a0, .int .i64 a1] w fun e w' => e = .returned (.bool true) ∧ Grown w w' := by
  obtain ⟨x, rfl⟩ := word_of a0 w0
  obtain ⟨k, hk, ek⟩ := k_of a1 w1
  have f1 := Lib.hid (get_fits x 63 (k + 1) (by omega) (by omega))
  have f2 := Lib.hid (get_fits x k 0 (by omega) (by omega))
  have e1 := halves x k hk
  have e2 := ones_halves_num k hk
  clear w0 w1
  go_enter Try.func5, Try.ntmps5
  go_wp2_with fail
  refine (get_yes x 63 (k + 1) _ (by omega) (by omega)).mono ?_; rintro e w1 ⟨rfl, h1⟩
  have H1 := Lib.hid h1; clear h1
  go_wp2_with fail
  refine (put_yes 0#64 (getB x 63 (k + 1)) 63 (k + 1) _ (by omega) (by omega) f1.out).mono ?_; rintro e w2 ⟨rfl, h2⟩
  have H2 := Lib.hid h2; clear h2
  go_wp2_with fail
  refine (get_yes x k 0 _ (by omega) (by omega)).mono ?_; rintro e w3 ⟨rfl, h3⟩
  have H3 := Lib.hid h3; clear h3
  go_wp2_with fail
  refine (put_yes (putB 0#64 (getB x 63 (k + 1)) 63 (k + 1)) (getB x k 0) k 0 _ (by omega) (by omega) f2.out).mono ?_; rintro e w4 ⟨rfl, h4⟩
  have H4 := Lib.hid h4; clear h4
  go_wp2_with fail
  refine (ones_yes 63 (k + 1) _ (by omega) (by omega)).mono ?_; rintro e w5 ⟨rfl, h5⟩
  have H5 := Lib.hid h5; clear h5
  go_wp2_with fail
  refine (ones_yes k 0 _ (by omega) (by omega)).mono ?_; rintro e w6 ⟨rfl, h6⟩
  have H6 := Lib.hid h6; clear h6
  go_wp2_with fail
  refine (wakes_any _).mono ?_; rintro e w7 ⟨rfl, h7⟩
  have H7 := Lib.hid h7; clear h7
  go_wp2_with fail
  go_ret
  exact ⟨rfl, grown_trans H1.out (grown_trans H2.out (grown_trans H3.out (grown_trans H4.out (grown_trans H5.out (grown_trans H6.out H7.out)))))⟩
/-- A field that is there, of two natural numbers. -/
theorem fld_nat (hi lo : Int) : (lo < 0 ∨ hi < lo ∨ 63 < hi) ∨ ∃ h l : Nat, hi = (h : Int) ∧ lo = (l : Int) ∧ l ≤ h ∧ h ≤ 63 := by
  by_cases c : lo < 0 ∨ hi < lo ∨ 63 < hi
  · exact .inl c
  · exact .inr ⟨hi.toNat, lo.toNat, by omega, by omega, by omega, by omega⟩

theorem walkBackNo (x v u hi lo top low : Int) (w : World) (h : lo < 0 ∨ hi < lo ∨ 63 < hi) :
    Calls Try.prog 4 #[.int .u64 x, .int .u64 v, .int .u64 u, .int .i64 hi, .int .i64 lo, .int .i64 top, .int .i64 low] w fun e w' => e = .returned (.bool true) ∧ Grown w w' := by
  have H := Lib.hid h; clear h
  go_enter Try.func4, Try.ntmps4
  go_wp2_with fail
  refine (put_no x v hi lo _ H.out).mono ?_; rintro e w1 ⟨rfl, h1⟩
  have H1 := Lib.hid h1; clear h1
  go_wp2_with fail
  refine (wakes_any _).mono ?_; rintro e w2 ⟨rfl, h2⟩
  have H2 := Lib.hid h2; clear h2
  go_wp2_with fail
  go_ret
  exact ⟨rfl, grown_trans H1.out H2.out⟩
theorem walkBackNot (x v : BitVec 64) (u : Int) (hi lo : Nat) (top low : Int) (w : World) (h1 : lo ≤ hi) (h2 : hi ≤ 63) (hf : (mask (hi - lo + 1)).toNat < v.toNat) :
    Calls Try.prog 4 #[.int .u64 x.toNat, .int .u64 v.toNat, .int .u64 u, .int .i64 hi, .int .i64 lo, .int .i64 top, .int .i64 low] w fun e w' => e = .returned (.bool true) ∧ Grown w w' := by
  have H := Lib.hid hf; clear hf
  go_enter Try.func4, Try.ntmps4
  go_wp2_with fail
  refine (put_not x v hi lo _ h1 h2 H.out).mono ?_; rintro e w1 ⟨rfl, h1⟩
  have H1 := Lib.hid h1; clear h1
  go_wp2_with fail
  refine (wakes_any _).mono ?_; rintro e w2 ⟨rfl, h2⟩
  have H2 := Lib.hid h2; clear h2
  go_wp2_with fail
  go_ret
  exact ⟨rfl, grown_trans H1.out H2.out⟩
theorem rest_num (x v : BitVec 64) (hi lo : Nat) (h1 : lo ≤ hi) (h2 : hi ≤ 63) (hf : v.toNat ≤ (mask (hi - lo + 1)).toNat) :
    bits BinOp.andNot IntKind.u64 ((putB x v hi lo).toNat : Int) ((onesB hi lo).toNat : Int) = bits BinOp.andNot IntKind.u64 (x.toNat : Int) ((onesB hi lo).toNat : Int) := by
  rw [bv_andNot, bv_andNot, put_rest x v hi lo h1 h2 hf]
theorem walkBackYesNo (x v : BitVec 64) (u : Int) (hi lo : Nat) (top low : Int) (w : World) (h1 : lo ≤ hi) (h2 : hi ≤ 63) (hf : v.toNat ≤ (mask (hi - lo + 1)).toNat) (h : low < 0 ∨ top < low ∨ 63 < top) :
    Calls Try.prog 4 #[.int .u64 x.toNat, .int .u64 v.toNat, .int .u64 u, .int .i64 hi, .int .i64 lo, .int .i64 top, .int .i64 low] w fun e w' => e = .returned (.bool true) ∧ Grown w w' := by
  have e1 := get_put x v hi lo h1 h2 hf
  have e2 := rest_num x v hi lo h1 h2 hf
  have e3 : bits BinOp.and IntKind.u64 ((onesB hi lo).toNat : Int) 0 = 0 := by
    have := bv_and (onesB hi lo) 0#64
    rw [BitVec.and_zero] at this
    exact this
  have H := Lib.hid hf; clear hf
  have HH := Lib.hid h; clear h
  go_enter Try.func4, Try.ntmps4
  go_wp2_with fail
  refine (put_yes x v hi lo _ h1 h2 H.out).mono ?_; rintro e w1 ⟨rfl, hg⟩
  have H1 := Lib.hid hg; clear hg
  go_wp2_with fail
  refine (get_yes (putB x v hi lo) hi lo _ h1 h2).mono ?_; rintro e w2 ⟨rfl, hg⟩
  have H2 := Lib.hid hg; clear hg
  go_wp2_with fail
  refine (ones_yes hi lo _ h1 h2).mono ?_; rintro e w3 ⟨rfl, hg⟩
  have H3 := Lib.hid hg; clear hg
  go_wp2_with fail
  refine (ones_yes hi lo _ h1 h2).mono ?_; rintro e w4 ⟨rfl, hg⟩
  have H4 := Lib.hid hg; clear hg
  go_wp2_with fail
  refine (ones_yes hi lo _ h1 h2).mono ?_; rintro e w5 ⟨rfl, hg⟩
  have H5 := Lib.hid hg; clear hg
  go_wp2_with fail
  refine (ones_no top low _ HH.out).mono ?_; rintro e w6 ⟨rfl, hg⟩
  have H6 := Lib.hid hg; clear hg
  go_wp2_with fail
  refine (put_no _ u top low _ HH.out).mono ?_; rintro e w7 ⟨rfl, hg⟩
  have H7 := Lib.hid hg; clear hg
  go_wp2_with fail
  refine (put_no _ u top low _ HH.out).mono ?_; rintro e w8 ⟨rfl, hg⟩
  have H8 := Lib.hid hg; clear hg
  go_wp2_with fail
  refine (put_yes x v hi lo _ h1 h2 H.out).mono ?_; rintro e w9 ⟨rfl, hg⟩
  have H9 := Lib.hid hg; clear hg
  go_wp2_with fail
  refine (wakes_any _).mono ?_; rintro e wa ⟨rfl, hg⟩
  have Ha := Lib.hid hg; clear hg
  go_wp2_with fail
  go_ret
  exact ⟨rfl, grown_trans H1.out (grown_trans H2.out (grown_trans H3.out (grown_trans H4.out (grown_trans H5.out (grown_trans H6.out (grown_trans H7.out (grown_trans H8.out (grown_trans H9.out Ha.out))))))))⟩
theorem touch_num (hi lo top low : Nat) (hn : onesB hi lo &&& onesB top low ≠ 0#64) : (bits BinOp.and IntKind.u64 ((onesB hi lo).toNat : Int) ((onesB top low).toNat : Int) == 0) = false := by
  rw [bv_and, beq_eq_false_iff_ne]
  intro h
  exact hn (BitVec.eq_of_toNat_eq (by exact_mod_cast h))
theorem apart_num (hi lo top low : Nat) (hn : onesB hi lo &&& onesB top low = 0#64) : bits BinOp.and IntKind.u64 ((onesB hi lo).toNat : Int) ((onesB top low).toNat : Int) = 0 := by
  rw [bv_and, hn]; rfl
theorem walkBackTouch (x v u : BitVec 64) (hi lo top low : Nat) (w : World) (h1 : lo ≤ hi) (h2 : hi ≤ 63) (h3 : low ≤ top) (h4 : top ≤ 63) (hf : v.toNat ≤ (mask (hi - lo + 1)).toNat) (hn : onesB hi lo &&& onesB top low ≠ 0#64) :
    Calls Try.prog 4 #[.int .u64 x.toNat, .int .u64 v.toNat, .int .u64 u.toNat, .int .i64 hi, .int .i64 lo, .int .i64 top, .int .i64 low] w fun e w' => e = .returned (.bool true) ∧ Grown w w' := by
  have e1 := get_put x v hi lo h1 h2 hf
  have e2 := rest_num x v hi lo h1 h2 hf
  have e3 := touch_num hi lo top low hn
  clear hn
  have H := Lib.hid hf; clear hf
  go_enter Try.func4, Try.ntmps4
  go_wp2_with fail
  refine (put_yes x v hi lo _ h1 h2 H.out).mono ?_; rintro e w1 ⟨rfl, hg⟩
  have H1 := Lib.hid hg; clear hg
  go_wp2_with fail
  refine (get_yes (putB x v hi lo) hi lo _ h1 h2).mono ?_; rintro e w2 ⟨rfl, hg⟩
  have H2 := Lib.hid hg; clear hg
  go_wp2_with fail
  refine (ones_yes hi lo _ h1 h2).mono ?_; rintro e w3 ⟨rfl, hg⟩
  have H3 := Lib.hid hg; clear hg
  go_wp2_with fail
  refine (ones_yes hi lo _ h1 h2).mono ?_; rintro e w4 ⟨rfl, hg⟩
  have H4 := Lib.hid hg; clear hg
  go_wp2_with fail
  refine (ones_yes hi lo _ h1 h2).mono ?_; rintro e w5 ⟨rfl, hg⟩
  have H5 := Lib.hid hg; clear hg
  go_wp2_with fail
  refine (ones_yes top low _ h3 h4).mono ?_; rintro e w6 ⟨rfl, hg⟩
  have H6 := Lib.hid hg; clear hg
  go_wp2_with fail
  refine (wakes_any _).mono ?_; rintro e w7 ⟨rfl, hg⟩
  have H7 := Lib.hid hg; clear hg
  go_wp2_with fail
  go_ret
  exact ⟨rfl, grown_trans H1.out (grown_trans H2.out (grown_trans H3.out (grown_trans H4.out (grown_trans H5.out (grown_trans H6.out H7.out)))))⟩
theorem walkBackYesNot (x v u : BitVec 64) (hi lo top low : Nat) (w : World) (h1 : lo ≤ hi) (h2 : hi ≤ 63) (h3 : low ≤ top) (h4 : top ≤ 63) (hf : v.toNat ≤ (mask (hi - lo + 1)).toNat) (hn : onesB hi lo &&& onesB top low = 0#64) (hu : (mask (top - low + 1)).toNat < u.toNat) :
    Calls Try.prog 4 #[.int .u64 x.toNat, .int .u64 v.toNat, .int .u64 u.toNat, .int .i64 hi, .int .i64 lo, .int .i64 top, .int .i64 low] w fun e w' => e = .returned (.bool true) ∧ Grown w w' := by
  have e1 := get_put x v hi lo h1 h2 hf
  have e2 := rest_num x v hi lo h1 h2 hf
  have e3 := apart_num hi lo top low hn
  clear hn
  have HU := Lib.hid hu; clear hu
  have H := Lib.hid hf; clear hf
  go_enter Try.func4, Try.ntmps4
  go_wp2_with fail
  refine (put_yes x v hi lo _ h1 h2 H.out).mono ?_; rintro e w1 ⟨rfl, hg⟩
  have H1 := Lib.hid hg; clear hg
  go_wp2_with fail
  refine (get_yes (putB x v hi lo) hi lo _ h1 h2).mono ?_; rintro e w2 ⟨rfl, hg⟩
  have H2 := Lib.hid hg; clear hg
  go_wp2_with fail
  refine (ones_yes hi lo _ h1 h2).mono ?_; rintro e w3 ⟨rfl, hg⟩
  have H3 := Lib.hid hg; clear hg
  go_wp2_with fail
  refine (ones_yes hi lo _ h1 h2).mono ?_; rintro e w4 ⟨rfl, hg⟩
  have H4 := Lib.hid hg; clear hg
  go_wp2_with fail
  refine (ones_yes hi lo _ h1 h2).mono ?_; rintro e w5 ⟨rfl, hg⟩
  have H5 := Lib.hid hg; clear hg
  go_wp2_with fail
  refine (ones_yes top low _ h3 h4).mono ?_; rintro e w6 ⟨rfl, hg⟩
  have H6 := Lib.hid hg; clear hg
  go_wp2_with fail
  refine (put_not (putB x v hi lo) u top low _ h3 h4 HU.out).mono ?_; rintro e w7 ⟨rfl, hg⟩
  have H7 := Lib.hid hg; clear hg
  go_wp2_with fail
  refine (put_not x u top low _ h3 h4 HU.out).mono ?_; rintro e w8 ⟨rfl, hg⟩
  have H8 := Lib.hid hg; clear hg
  go_wp2_with fail
  refine (put_yes x v hi lo _ h1 h2 H.out).mono ?_; rintro e w9 ⟨rfl, hg⟩
  have H9 := Lib.hid hg; clear hg
  go_wp2_with fail
  refine (wakes_any _).mono ?_; rintro e w10 ⟨rfl, hg⟩
  have H10 := Lib.hid hg; clear hg
  go_wp2_with fail
  go_ret
  exact ⟨rfl, grown_trans H1.out (grown_trans H2.out (grown_trans H3.out (grown_trans H4.out (grown_trans H5.out (grown_trans H6.out (grown_trans H7.out (grown_trans H8.out (grown_trans H9.out H10.out))))))))⟩
theorem walkBackYesYes (x v u : BitVec 64) (hi lo top low : Nat) (w : World) (h1 : lo ≤ hi) (h2 : hi ≤ 63) (h3 : low ≤ top) (h4 : top ≤ 63) (hf : v.toNat ≤ (mask (hi - lo + 1)).toNat) (hn : onesB hi lo &&& onesB top low = 0#64) (hu : u.toNat ≤ (mask (top - low + 1)).toNat) :
    Calls Try.prog 4 #[.int .u64 x.toNat, .int .u64 v.toNat, .int .u64 u.toNat, .int .i64 hi, .int .i64 lo, .int .i64 top, .int .i64 low] w fun e w' => e = .returned (.bool true) ∧ Grown w w' := by
  have e1 := get_put x v hi lo h1 h2 hf
  have e2 := rest_num x v hi lo h1 h2 hf
  have e3 := apart_num hi lo top low hn
  have e4 := put_put x v u hi lo top low h1 h2 h3 h4 hf hu (apart_of hi lo top low h1 h2 h3 h4 hn)
  have e5 := get_put (putB x u top low) v hi lo h1 h2 hf
  clear hn
  have HU := Lib.hid hu; clear hu
  have H := Lib.hid hf; clear hf
  go_enter Try.func4, Try.ntmps4
  go_wp2_with fail
  refine (put_yes x v hi lo _ h1 h2 H.out).mono ?_; rintro e w1 ⟨rfl, hg⟩
  have H1 := Lib.hid hg; clear hg
  go_wp2_with fail
  refine (get_yes (putB x v hi lo) hi lo _ h1 h2).mono ?_; rintro e w2 ⟨rfl, hg⟩
  have H2 := Lib.hid hg; clear hg
  go_wp2_with fail
  refine (ones_yes hi lo _ h1 h2).mono ?_; rintro e w3 ⟨rfl, hg⟩
  have H3 := Lib.hid hg; clear hg
  go_wp2_with fail
  refine (ones_yes hi lo _ h1 h2).mono ?_; rintro e w4 ⟨rfl, hg⟩
  have H4 := Lib.hid hg; clear hg
  go_wp2_with fail
  refine (ones_yes hi lo _ h1 h2).mono ?_; rintro e w5 ⟨rfl, hg⟩
  have H5 := Lib.hid hg; clear hg
  go_wp2_with fail
  refine (ones_yes top low _ h3 h4).mono ?_; rintro e w6 ⟨rfl, hg⟩
  have H6 := Lib.hid hg; clear hg
  go_wp2_with fail
  refine (put_yes (putB x v hi lo) u top low _ h3 h4 HU.out).mono ?_; rintro e w7 ⟨rfl, hg⟩
  have H7 := Lib.hid hg; clear hg
  go_wp2_with fail
  refine (put_yes x u top low _ h3 h4 HU.out).mono ?_; rintro e w8 ⟨rfl, hg⟩
  have H8 := Lib.hid hg; clear hg
  go_wp2_with fail
  refine (put_yes (putB x u top low) v hi lo _ h1 h2 H.out).mono ?_; rintro e w9 ⟨rfl, hg⟩
  have H9 := Lib.hid hg; clear hg
  go_wp2_with fail
  refine (get_yes (putB (putB x u top low) v hi lo) hi lo _ h1 h2).mono ?_; rintro e w10 ⟨rfl, hg⟩
  have H10 := Lib.hid hg; clear hg
  go_wp2_with fail
  refine (wakes_any _).mono ?_; rintro e w11 ⟨rfl, hg⟩
  have H11 := Lib.hid hg; clear hg
  go_wp2_with fail
  go_ret
  exact ⟨rfl, grown_trans H1.out (grown_trans H2.out (grown_trans H3.out (grown_trans H4.out (grown_trans H5.out (grown_trans H6.out (grown_trans H7.out (grown_trans H8.out (grown_trans H9.out (grown_trans H10.out H11.out)))))))))⟩
theorem walkBack (a0 a1 a2 a3 a4 a5 a6 : Int) (w0 : (Lit.int .u64 a0).wf = true) (w1 : (Lit.int .u64 a1).wf = true) (w2 : (Lit.int .u64 a2).wf = true) (w : World) :
    Calls Try.prog 4 #[.int .u64 a0, .int .u64 a1, .int .u64 a2, .int .i64 a3, .int .i64 a4, .int .i64 a5, .int .i64 a6] w fun e w' => e = .returned (.bool true) ∧ Grown w w' := by
  rcases fld_nat a3 a4 with h | ⟨hi, lo, rfl, rfl, h1, h2⟩
  · exact walkBackNo a0 a1 a2 a3 a4 a5 a6 w h
  obtain ⟨x, rfl⟩ := word_of a0 w0
  obtain ⟨v, rfl⟩ := word_of a1 w1
  by_cases hf : ¬ v.toNat ≤ (mask (hi - lo + 1)).toNat
  · exact walkBackNot x v a2 hi lo a5 a6 w h1 h2 (by omega)
  replace hf := Classical.not_not.1 hf
  rcases fld_nat a5 a6 with h | ⟨top, low, rfl, rfl, h3, h4⟩
  · exact walkBackYesNo x v a2 hi lo a5 a6 w h1 h2 hf h
  obtain ⟨u, rfl⟩ := word_of a2 w2
  by_cases hn : ¬ (onesB hi lo &&& onesB top low = 0#64)
  · exact walkBackTouch x v u hi lo top low w h1 h2 h3 h4 hf hn
  replace hn := Classical.not_not.1 hn
  by_cases hu : u.toNat ≤ (mask (top - low + 1)).toNat
  · exact walkBackYesYes x v u hi lo top low w h1 h2 h3 h4 hf hn hu
  · exact walkBackYesNot x v u hi lo top low w h1 h2 h3 h4 hf hn (by omega)
end Go.Proofs.Ytehbnidcjpbabaa
