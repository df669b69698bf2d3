/-
  FieldTells returns true. No condition.
-/
import Derived.Test.YtehbnidcjpbabaaWalk01
import Derived.Test.YtehbnidcjpbabaaRef01
namespace Go.Proofs.Ytehbnidcjpbabaa
open Go Go.RowKit

theorem tellsNoNo (x v hi lo : Int) (w : World) (h : lo < 0 ∨ hi < lo ∨ 63 < hi) (hs : hi < 0 ∨ 63 < hi) :
    Calls Try.prog 3 #[.int .u64 x, .int .u64 v, .int .i64 hi, .int .i64 lo] w fun e w' => e = .returned (.bool true) ∧ Grown w w' := by
  have H := Lib.hid h; clear h
  have HS := Lib.hid hs; clear hs
  go_enter Try.func3, Try.ntmps3
  go_wp2_with fail
  refine (put_no x v hi lo _ H.out).mono ?_; rintro e w1 ⟨rfl, hg⟩
  have H1 := Lib.hid hg; clear hg
  go_wp2_with fail
  refine (rput_no x v hi lo _ H.out).mono ?_; rintro e w2 ⟨rfl, rfl⟩
  go_wp2_with fail
  refine (get_no x hi lo _ H.out).mono ?_; rintro e w3 ⟨rfl, hg⟩
  have H3 := Lib.hid hg; clear hg
  go_wp2_with fail
  refine (rget_no x hi lo _ H.out).mono ?_; rintro e w4 ⟨rfl, rfl⟩
  go_wp2_with fail
  refine (ones_no hi lo _ H.out).mono ?_; rintro e w5 ⟨rfl, hg⟩
  have H5 := Lib.hid hg; clear hg
  go_wp2_with fail
  refine (rones_no hi lo _ H.out).mono ?_; rintro e w6 ⟨rfl, rfl⟩
  go_wp2_with fail
  refine (fits_no v hi lo _ H.out).mono ?_; rintro e w7 ⟨rfl, hg⟩
  have H7 := Lib.hid hg; clear hg
  go_wp2_with fail
  refine (rfits_no v hi lo _ H.out).mono ?_; rintro e w8 ⟨rfl, rfl⟩
  go_wp2_with fail
  refine (sign_no x hi _ HS.out).mono ?_; rintro e w9 ⟨rfl, hg⟩
  have H9 := Lib.hid hg; clear hg
  go_wp2_with fail
  refine (rsign_no x hi _ HS.out).mono ?_; rintro e w10 ⟨rfl, rfl⟩
  go_wp2_with fail
  refine (wakes_any _).mono ?_; rintro e w11 ⟨rfl, hg⟩
  have H11 := Lib.hid hg; clear hg
  go_wp2_with fail
  go_ret
  exact ⟨rfl, grown_trans H1.out (grown_trans H3.out (grown_trans H5.out (grown_trans H7.out (grown_trans H9.out H11.out))))⟩
theorem tellsNo (x : BitVec 64) (v : Int) (hi : Nat) (lo : Int) (w : World) (h : lo < 0 ∨ (hi : Int) < lo ∨ 63 < (hi : Int)) (h2 : hi ≤ 63) :
    Calls Try.prog 3 #[.int .u64 x.toNat, .int .u64 v, .int .i64 hi, .int .i64 lo] w fun e w' => e = .returned (.bool true) ∧ Grown w w' := by
  have H := Lib.hid h; clear h
  go_enter Try.func3, Try.ntmps3
  go_wp2_with fail
  refine (put_no _ v hi lo _ H.out).mono ?_; rintro e w1 ⟨rfl, hg⟩
  have H1 := Lib.hid hg; clear hg
  go_wp2_with fail
  refine (rput_no _ v hi lo _ H.out).mono ?_; rintro e w2 ⟨rfl, rfl⟩
  go_wp2_with fail
  refine (get_no _ hi lo _ H.out).mono ?_; rintro e w3 ⟨rfl, hg⟩
  have H3 := Lib.hid hg; clear hg
  go_wp2_with fail
  refine (rget_no _ hi lo _ H.out).mono ?_; rintro e w4 ⟨rfl, rfl⟩
  go_wp2_with fail
  refine (ones_no hi lo _ H.out).mono ?_; rintro e w5 ⟨rfl, hg⟩
  have H5 := Lib.hid hg; clear hg
  go_wp2_with fail
  refine (rones_no hi lo _ H.out).mono ?_; rintro e w6 ⟨rfl, rfl⟩
  go_wp2_with fail
  refine (fits_no v hi lo _ H.out).mono ?_; rintro e w7 ⟨rfl, hg⟩
  have H7 := Lib.hid hg; clear hg
  go_wp2_with fail
  refine (rfits_no v hi lo _ H.out).mono ?_; rintro e w8 ⟨rfl, rfl⟩
  go_wp2_with fail
  refine (sign_yes x hi _ h2).mono ?_; rintro e w9 ⟨rfl, hg⟩
  have H9 := Lib.hid hg; clear hg
  go_wp2_with fail
  refine (rsign_yes x hi _ h2).mono ?_; rintro e w10 ⟨rfl, rfl⟩
  go_wp2_with fail
  refine (wakes_any _).mono ?_; rintro e w11 ⟨rfl, hg⟩
  have H11 := Lib.hid hg; clear hg
  go_wp2_with fail
  go_ret
  exact ⟨rfl, grown_trans H1.out (grown_trans H3.out (grown_trans H5.out (grown_trans H7.out (grown_trans H9.out H11.out))))⟩
theorem tellsNot (x v : BitVec 64) (hi lo : Nat) (w : World) (h1 : lo ≤ hi) (h2 : hi ≤ 63) (hf : (mask (hi - lo + 1)).toNat < v.toNat) :
    Calls Try.prog 3 #[.int .u64 x.toNat, .int .u64 v.toNat, .int .i64 hi, .int .i64 lo] w fun e w' => e = .returned (.bool true) ∧ Grown w w' := by
  have HF := Lib.hid hf; clear hf
  go_enter Try.func3, Try.ntmps3
  go_wp2_with fail
  refine (put_not x v hi lo _ h1 h2 HF.out).mono ?_; rintro e w1 ⟨rfl, hg⟩
  have H1 := Lib.hid hg; clear hg
  go_wp2_with fail
  refine (rput_not x v hi lo _ h1 h2 HF.out).mono ?_; rintro e w2 ⟨rfl, rfl⟩
  go_wp2_with fail
  refine (get_yes x hi lo _ h1 h2).mono ?_; rintro e w3 ⟨rfl, hg⟩
  have H3 := Lib.hid hg; clear hg
  go_wp2_with fail
  refine (rget_yes x hi lo _ h1 h2).mono ?_; rintro e w4 ⟨rfl, rfl⟩
  go_wp2_with fail
  refine (ones_yes hi lo _ h1 h2).mono ?_; rintro e w5 ⟨rfl, hg⟩
  have H5 := Lib.hid hg; clear hg
  go_wp2_with fail
  refine (rones_yes hi lo _ h1 h2).mono ?_; rintro e w6 ⟨rfl, rfl⟩
  go_wp2_with fail
  refine (fits_not v hi lo _ h1 h2 HF.out).mono ?_; rintro e w7 ⟨rfl, hg⟩
  have H7 := Lib.hid hg; clear hg
  go_wp2_with fail
  refine (rfits_not v hi lo _ h1 h2 HF.out).mono ?_; rintro e w8 ⟨rfl, rfl⟩
  go_wp2_with fail
  refine (sign_yes x hi _ h2).mono ?_; rintro e w9 ⟨rfl, hg⟩
  have H9 := Lib.hid hg; clear hg
  go_wp2_with fail
  refine (rsign_yes x hi _ h2).mono ?_; rintro e w10 ⟨rfl, rfl⟩
  go_wp2_with fail
  refine (wakes_any _).mono ?_; rintro e w11 ⟨rfl, hg⟩
  have H11 := Lib.hid hg; clear hg
  go_wp2_with fail
  go_ret
  exact ⟨rfl, grown_trans H1.out (grown_trans H3.out (grown_trans H5.out (grown_trans H7.out (grown_trans H9.out H11.out))))⟩
theorem tellsYes (x v : BitVec 64) (hi lo : Nat) (w : World) (h1 : lo ≤ hi) (h2 : hi ≤ 63) (hf : v.toNat ≤ (mask (hi - lo + 1)).toNat) :
    Calls Try.prog 3 #[.int .u64 x.toNat, .int .u64 v.toNat, .int .i64 hi, .int .i64 lo] w fun e w' => e = .returned (.bool true) ∧ Grown w w' := by
  have HF := Lib.hid hf; clear hf
  go_enter Try.func3, Try.ntmps3
  go_wp2_with fail
  refine (put_yes x v hi lo _ h1 h2 HF.out).mono ?_; rintro e w1 ⟨rfl, hg⟩
  have H1 := Lib.hid hg; clear hg
  go_wp2_with fail
  refine (rput_yes x v hi lo _ h1 h2 HF.out).mono ?_; rintro e w2 ⟨rfl, rfl⟩
  go_wp2_with fail
  refine (get_yes x hi lo _ h1 h2).mono ?_; rintro e w3 ⟨rfl, hg⟩
  have H3 := Lib.hid hg; clear hg
  go_wp2_with fail
  refine (rget_yes x hi lo _ h1 h2).mono ?_; rintro e w4 ⟨rfl, rfl⟩
  go_wp2_with fail
  refine (ones_yes hi lo _ h1 h2).mono ?_; rintro e w5 ⟨rfl, hg⟩
  have H5 := Lib.hid hg; clear hg
  go_wp2_with fail
  refine (rones_yes hi lo _ h1 h2).mono ?_; rintro e w6 ⟨rfl, rfl⟩
  go_wp2_with fail
  refine (fits_yes v hi lo _ h1 h2 HF.out).mono ?_; rintro e w7 ⟨rfl, hg⟩
  have H7 := Lib.hid hg; clear hg
  go_wp2_with fail
  refine (rfits_yes v hi lo _ h1 h2 HF.out).mono ?_; rintro e w8 ⟨rfl, rfl⟩
  go_wp2_with fail
  refine (sign_yes x hi _ h2).mono ?_; rintro e w9 ⟨rfl, hg⟩
  have H9 := Lib.hid hg; clear hg
  go_wp2_with fail
  refine (rsign_yes x hi _ h2).mono ?_; rintro e w10 ⟨rfl, rfl⟩
  go_wp2_with fail
  refine (wakes_any _).mono ?_; rintro e w11 ⟨rfl, hg⟩
  have H11 := Lib.hid hg; clear hg
  go_wp2_with fail
  go_ret
  exact ⟨rfl, grown_trans H1.out (grown_trans H3.out (grown_trans H5.out (grown_trans H7.out (grown_trans H9.out H11.out))))⟩
theorem walkTells (a0 a1 a2 a3 : Int) (w0 : (Lit.int .u64 a0).wf = true) (w1 : (Lit.int .u64 a1).wf = true) (w : World) :
    Calls Try.prog 3 #[.int .u64 a0, .int .u64 a1, .int .i64 a2, .int .i64 a3] w fun e w' => e = .returned (.bool true) ∧ Grown w w' := by
  rcases fld_nat a2 a3 with h | ⟨hi, lo, rfl, rfl, h1, h2⟩
  · by_cases hs : a2 < 0 ∨ 63 < a2
    · exact tellsNoNo a0 a1 a2 a3 w h hs
    · obtain ⟨hi, rfl⟩ := Int.eq_ofNat_of_zero_le (show 0 ≤ a2 by omega)
      obtain ⟨x, rfl⟩ := word_of a0 w0
      exact tellsNo x a1 hi a3 w h (by omega)
  · obtain ⟨x, rfl⟩ := word_of a0 w0
    obtain ⟨v, rfl⟩ := word_of a1 w1
    by_cases hf : v.toNat ≤ (mask (hi - lo + 1)).toNat
    · exact tellsYes x v hi lo w h1 h2 hf
    · exact tellsNot x v hi lo w h1 h2 (by omega)
end Go.Proofs.Ytehbnidcjpbabaa
