/-
  The contracts of package field: Get, Put, Fits, Ones, Sign and what they call, for every word and every place. No condition.
-/
import Derived.Test.YtfbkppncaampdaaDoorRows
import Derived.Test.YtfbkppncaampdaaDoorBv
import Derived.Deep.RegionWith
import Derived.Deep.RegionHeld3
namespace Go.Proofs.YtfbkppncaampdaaDoor
open Go Go.RowKit

/-! What the package's functions come to, on bit vectors. -/
def getB (x : BitVec 64) (hi lo : Nat) : BitVec 64 := (x >>> lo) &&& mask (hi - lo + 1)
def onesB (hi lo : Nat) : BitVec 64 := mask (hi - lo + 1) <<< lo
def putB (x v : BitVec 64) (hi lo : Nat) : BitVec 64 := (x &&& ~~~(onesB hi lo)) ||| (v <<< lo)
def signB (x : BitVec 64) (hi : Nat) : Int := (x.toNat : Int) % 2 ^ hi - (x.toNat : Int) / 2 ^ hi % 2 * 2 ^ hi

theorem there_yes (hi lo : Nat) (w : World) (h1 : lo ≤ hi) (h2 : hi ≤ 63) :
    Calls Tryd.prog 65 #[.agg #[.int .i64 hi, .int .i64 lo]] w fun e w' => e = .returned (.bool true) ∧ w' = w.alloc (.cells #[.int .i64 hi, .int .i64 lo] 122) := by
  go_enter Tryd.func65, Tryd.ntmps65
  go_wp2
  all_goals go_ret
  exact ⟨rfl, rfl⟩
theorem there_no (hi lo : Int) (w : World) (h : lo < 0 ∨ hi < lo ∨ 63 < hi) :
    Calls Tryd.prog 65 #[.agg #[.int .i64 hi, .int .i64 lo]] w fun e w' => e = .returned (.bool false) ∧ w' = w.alloc (.cells #[.int .i64 hi, .int .i64 lo] 122) := by
  by_cases a : lo < 0
  · clear h
    go_enter Tryd.func65, Tryd.ntmps65
    go_wp2
    all_goals go_ret
    all_goals exact ⟨rfl, rfl⟩
  · by_cases b : hi < lo
    · clear h
      go_enter Tryd.func65, Tryd.ntmps65
      go_wp2
      all_goals go_ret
      all_goals exact ⟨rfl, rfl⟩
    · have c : 63 < hi := by omega
      clear h
      go_enter Tryd.func65, Tryd.ntmps65
      go_wp2
      all_goals go_ret
      all_goals exact ⟨rfl, rfl⟩
theorem most_eq (hi lo : Nat) (h1 : lo ≤ hi) (h2 : hi ≤ 63) : (18446744073709551615 : Int) / 2 ^ (63 - (hi - lo)) = ((mask (hi - lo + 1)).toNat : Int) := by
  have := bv_shr (BitVec.allOnes 64) (64 - (hi - lo + 1))
  rw [Nat.min_eq_left (by omega)] at this
  unfold mask
  rw [← this, show 64 - (hi - lo + 1) = 63 - (hi - lo) by omega]
  rfl
theorem most_any (hi lo : Nat) (w : World) (h1 : lo ≤ hi) (h2 : hi ≤ 63) :
    Calls Tryd.prog 66 #[.agg #[.int .i64 hi, .int .i64 lo]] w fun e w' => e = .returned (.int .u64 (mask (hi - lo + 1)).toNat) ∧ w' = w.alloc (.cells #[.int .i64 hi, .int .i64 lo] 122) := by
  go_enter Tryd.func66, Tryd.ntmps66
  go_wp2
  go_ret
  exact ⟨ret_int (most_eq hi lo h1 h2), rfl⟩

theorem get_num (x : BitVec 64) (hi lo : Nat) (h1 : lo ≤ hi) (h2 : hi ≤ 63) : bits BinOp.and IntKind.u64 ((x.toNat : Int) / 2 ^ lo) (mask (hi - lo + 1)).toNat = ((getB x hi lo).toNat : Int) := by
  have := bv_shr x lo
  rw [Nat.min_eq_left (by omega)] at this
  rw [this, bv_and]; rfl
theorem get_yes (x : BitVec 64) (hi lo : Nat) (w : World) (h1 : lo ≤ hi) (h2 : hi ≤ 63) :
    Calls Tryd.prog 49 #[.int .u64 x.toNat, .int .i64 hi, .int .i64 lo] w fun e w' => e = .returned (.int .u64 (getB x hi lo).toNat) ∧ Kp w w' := by
  go_enter Tryd.func49, Tryd.ntmps49
  go_wp2_with (go_at_call 65; refine (there_yes _ _ _ h1 h2).mono ?_; rintro e w' ⟨rfl, rfl⟩)
  go_region_with (go_at_call 66; refine (most_any _ _ _ h1 h2).mono ?_; rintro e w' ⟨rfl, rfl⟩)
  go_wp2
  go_ret
  exact ⟨ret_int (get_num x hi lo h1 h2), by repeat (first | exact Kp.refl _ | apply Kp.drew | apply Kp.alloc)⟩
theorem get_no (x : Int) (hi lo : Int) (w : World) (h : lo < 0 ∨ hi < lo ∨ 63 < hi) :
    Calls Tryd.prog 49 #[.int .u64 x, .int .i64 hi, .int .i64 lo] w fun e w' => e = .returned (.int .u64 0) ∧ Kp w w' := by
  have H := Lib.hid h; clear h
  go_enter Tryd.func49, Tryd.ntmps49
  go_wp2_with (go_at_call 65; refine (there_no _ _ _ H.out).mono ?_; rintro e w' ⟨rfl, rfl⟩)
  go_ret
  exact ⟨rfl, by repeat (first | exact Kp.refl _ | apply Kp.drew | apply Kp.alloc)⟩

theorem ones_yes (hi lo : Nat) (w : World) (h1 : lo ≤ hi) (h2 : hi ≤ 63) :
    Calls Tryd.prog 80 #[.int .i64 hi, .int .i64 lo] w fun e w' => e = .returned (.int .u64 (onesB hi lo).toNat) ∧ Kp w w' := by
  go_enter Tryd.func80, Tryd.ntmps80
  go_wp2_with (first | (go_at_call 65; refine (there_yes _ _ _ h1 h2).mono ?_; rintro e w' ⟨rfl, rfl⟩) | (go_at_call 66; refine (most_any _ _ _ h1 h2).mono ?_; rintro e w' ⟨rfl, rfl⟩))
  go_ret
  exact ⟨ret_int (shl_num _ _ (by omega)), by repeat (first | exact Kp.refl _ | apply Kp.drew | apply Kp.alloc)⟩
theorem ones_no (hi lo : Int) (w : World) (h : lo < 0 ∨ hi < lo ∨ 63 < hi) :
    Calls Tryd.prog 80 #[.int .i64 hi, .int .i64 lo] w fun e w' => e = .returned (.int .u64 0) ∧ Kp w w' := by
  have H := Lib.hid h; clear h
  go_enter Tryd.func80, Tryd.ntmps80
  go_wp2_with (go_at_call 65; refine (there_no _ _ _ H.out).mono ?_; rintro e w' ⟨rfl, rfl⟩)
  go_ret
  exact ⟨rfl, by repeat (first | exact Kp.refl _ | apply Kp.drew | apply Kp.alloc)⟩

theorem fits_yes (v : BitVec 64) (hi lo : Nat) (w : World) (h1 : lo ≤ hi) (h2 : hi ≤ 63) (hf : v.toNat ≤ (mask (hi - lo + 1)).toNat) :
    Calls Tryd.prog 67 #[.int .u64 v.toNat, .int .i64 hi, .int .i64 lo] w fun e w' => e = .returned (.bool true) ∧ Kp w w' := by
  have hf' : decide (v.toNat ≤ (mask (hi - lo + 1)).toNat) = true := by simpa using hf
  clear hf
  go_enter Tryd.func67, Tryd.ntmps67
  go_wp2_with (first | (go_at_call 65; refine (there_yes _ _ _ h1 h2).mono ?_; rintro e w' ⟨rfl, rfl⟩) | (go_at_call 66; refine (most_any _ _ _ h1 h2).mono ?_; rintro e w' ⟨rfl, rfl⟩))
  go_ret
  exact ⟨rfl, by repeat (first | exact Kp.refl _ | apply Kp.drew | apply Kp.alloc)⟩
theorem fits_not (v : BitVec 64) (hi lo : Nat) (w : World) (h1 : lo ≤ hi) (h2 : hi ≤ 63) (hf : (mask (hi - lo + 1)).toNat < v.toNat) :
    Calls Tryd.prog 67 #[.int .u64 v.toNat, .int .i64 hi, .int .i64 lo] w fun e w' => e = .returned (.bool false) ∧ Kp w w' := by
  have hf' : decide (v.toNat ≤ (mask (hi - lo + 1)).toNat) = false := by simpa using hf
  clear hf
  go_enter Tryd.func67, Tryd.ntmps67
  go_wp2_with (first | (go_at_call 65; refine (there_yes _ _ _ h1 h2).mono ?_; rintro e w' ⟨rfl, rfl⟩) | (go_at_call 66; refine (most_any _ _ _ h1 h2).mono ?_; rintro e w' ⟨rfl, rfl⟩))
  go_ret
  exact ⟨rfl, by repeat (first | exact Kp.refl _ | apply Kp.drew | apply Kp.alloc)⟩
theorem fits_no (v : Int) (hi lo : Int) (w : World) (h : lo < 0 ∨ hi < lo ∨ 63 < hi) :
    Calls Tryd.prog 67 #[.int .u64 v, .int .i64 hi, .int .i64 lo] w fun e w' => e = .returned (.bool false) ∧ Kp w w' := by
  have H := Lib.hid h; clear h
  go_enter Tryd.func67, Tryd.ntmps67
  go_wp2_with (go_at_call 65; refine (there_no _ _ _ H.out).mono ?_; rintro e w' ⟨rfl, rfl⟩)
  go_ret
  exact ⟨rfl, by repeat (first | exact Kp.refl _ | apply Kp.drew | apply Kp.alloc)⟩

theorem sput_num (x v : BitVec 64) (hi lo : Nat) (h1 : lo ≤ hi) (h2 : hi ≤ 63) :
    bits BinOp.or IntKind.u64 (bits BinOp.andNot IntKind.u64 (x.toNat) (IntKind.u64.wrap ((mask (hi - lo + 1)).toNat * 2 ^ lo))) (IntKind.u64.wrap (v.toNat * 2 ^ lo)) = ((putB x v hi lo).toNat : Int) := by
  rw [shl_num _ _ (by omega), shl_num _ _ (by omega), bv_andNot, bv_or]; rfl
set_option maxHeartbeats 1000000 in
theorem sput_any (x v : BitVec 64) (hi lo : Nat) (w : World) (h1 : lo ≤ hi) (h2 : hi ≤ 63) :
    Calls Tryd.prog 68 #[.agg #[.int .i64 hi, .int .i64 lo], .int .u64 x.toNat, .int .u64 v.toNat] w fun e w' => e = .returned (.int .u64 (putB x v hi lo).toNat) ∧ Kp w w' := by
  go_enter Tryd.func68, Tryd.ntmps68
  go_wp2
  go_region_held3 (fun w' => w'.cell? ⟨w.heap.size, 0, none⟩ = some (.int .i64 hi) ∧ w'.cell? ⟨w.heap.size, 1, none⟩ = some (.int .i64 lo) ∧ w.heap.size < w'.heap.size ∧ Kp w w') (first | (refine ⟨by simp, by simp, by simp <;> omega, ?_⟩; repeat (first | exact Kp.refl _ | assumption | apply Kp.drew | apply Kp.alloc)))
    (first | (go_at_call 66; refine (most_any _ _ _ h1 h2).mono ?_; rintro e w' ⟨rfl, rfl⟩))
  go_wp2
  go_ret
  exact ⟨ret_int (sput_num x v hi lo h1 h2), by repeat (first | exact Kp.refl _ | assumption | apply Kp.drew | apply Kp.alloc)⟩
theorem put_yes (x v : BitVec 64) (hi lo : Nat) (w : World) (h1 : lo ≤ hi) (h2 : hi ≤ 63) (hf : v.toNat ≤ (mask (hi - lo + 1)).toNat) :
    Calls Tryd.prog 50 #[.int .u64 x.toNat, .int .i64 hi, .int .i64 lo, .int .u64 v.toNat] w fun e w' => e = .returned (.tuple #[.int .u64 (putB x v hi lo).toNat, .int .i64 0]) ∧ Kp w w' := by
  have H := Lib.hid hf; clear hf
  go_enter Tryd.func50, Tryd.ntmps50
  go_wp2_with fail
  refine (fits_yes v hi lo _ h1 h2 H.out).mono ?_; rintro e w1 ⟨rfl, hg1⟩
  have H1 := Lib.hid hg1; clear hg1
  go_wp2_with fail
  refine (sput_any x v hi lo _ h1 h2).mono ?_; rintro e w2 ⟨rfl, hg2⟩
  have H2 := Lib.hid hg2; clear hg2
  go_wp2_with fail
  go_ret2
  exact ⟨rfl, Kp.trans H1.out H2.out⟩
theorem put_not (x v : BitVec 64) (hi lo : Nat) (w : World) (h1 : lo ≤ hi) (h2 : hi ≤ 63) (hf : (mask (hi - lo + 1)).toNat < v.toNat) :
    Calls Tryd.prog 50 #[.int .u64 x.toNat, .int .i64 hi, .int .i64 lo, .int .u64 v.toNat] w fun e w' => e = .returned (.tuple #[.int .u64 x.toNat, .int .i64 2]) ∧ Kp w w' := by
  have H := Lib.hid hf; clear hf
  go_enter Tryd.func50, Tryd.ntmps50
  go_wp2_with fail
  refine (fits_not v hi lo _ h1 h2 H.out).mono ?_; rintro e w1 ⟨rfl, hg1⟩
  have H1 := Lib.hid hg1; clear hg1
  go_wp2_with fail
  go_ret2
  exact ⟨rfl, H1.out⟩
theorem put_no (x v : Int) (hi lo : Int) (w : World) (h : lo < 0 ∨ hi < lo ∨ 63 < hi) :
    Calls Tryd.prog 50 #[.int .u64 x, .int .i64 hi, .int .i64 lo, .int .u64 v] w fun e w' => e = .returned (.tuple #[.int .u64 x, .int .i64 2]) ∧ Kp w w' := by
  have H := Lib.hid h; clear h
  go_enter Tryd.func50, Tryd.ntmps50
  go_wp2_with fail
  refine (fits_no v hi lo _ H.out).mono ?_; rintro e w1 ⟨rfl, hg1⟩
  have H1 := Lib.hid hg1; clear hg1
  go_wp2_with fail
  go_ret2
  exact ⟨rfl, H1.out⟩

theorem sign_num (x : BitVec 64) (hi : Nat) (h2 : hi ≤ 63) : wrap64 (IntKind.u64.wrap ((x.toNat : Int) * 2 ^ (63 - hi))) / 2 ^ (63 - hi) = signB x hi := by
  have hx := x.isLt
  unfold signB
  generalize x.toNat = X at hx ⊢
  obtain ⟨u, hu⟩ : ∃ u, 63 - hi = u := ⟨_, rfl⟩
  rw [hu]
  have hp : (0 : Nat) < 2 ^ u := Nat.two_pow_pos _
  have hq : (0 : Nat) < 2 ^ hi := Nat.two_pow_pos _
  have e63 : 2 ^ hi * 2 ^ u = 2 ^ 63 := by rw [← Nat.pow_add]; congr 1; omega
  have e64 : (2 ^ hi * 2) * 2 ^ u = 2 ^ 64 := by rw [Nat.mul_right_comm, e63]
  have m : X * 2 ^ u % 2 ^ 64 = (X % 2 ^ hi + 2 ^ hi * (X / 2 ^ hi % 2)) * 2 ^ u := by
    rw [← e64, Nat.mul_mod_mul_right, Nat.mod_mul]
  have c : IntKind.u64.wrap ((X : Int) * 2 ^ u) = (((X % 2 ^ hi + 2 ^ hi * (X / 2 ^ hi % 2)) * 2 ^ u : Nat) : Int) := by
    rw [IntKind.wrap_u64, ← m]; simp
  rw [c]
  unfold wrap64
  have ha : X % 2 ^ hi < 2 ^ hi := Nat.mod_lt _ hq
  have hb : X / 2 ^ hi % 2 = 0 ∨ X / 2 ^ hi % 2 = 1 := by omega
  have cm : ((X : Int) % 2 ^ hi) = ((X % 2 ^ hi : Nat) : Int) := by simp
  have cd : ((X : Int) / 2 ^ hi % 2) = ((X / 2 ^ hi % 2 : Nat) : Int) := by simp
  have cp : ((2 : Int) ^ hi) = ((2 ^ hi : Nat) : Int) := by simp
  have cu : ((2 : Int) ^ u) = ((2 ^ u : Nat) : Int) := by simp
  rw [cm, cd, cp, cu]
  clear cm cd cp cu c m hx
  generalize X % 2 ^ hi = a at *
  generalize X / 2 ^ hi % 2 = b at *
  generalize 2 ^ hi = q at *
  generalize 2 ^ u = p at *
  have hlt : a * p + p ≤ q * p := by
    have := Nat.mul_le_mul_right p (show a + 1 ≤ q from ha)
    rwa [Nat.add_mul, Nat.one_mul] at this
  rcases hb with rfl | rfl
  · rw [Nat.mul_zero, Nat.add_zero]
    rw [show ((a * p : Nat) : Int) + 9223372036854775808 = ((a * p + 9223372036854775808 : Nat) : Int) by omega]
    rw [Int.emod_eq_of_lt (by omega) (by omega)]
    rw [show ((a * p + 9223372036854775808 : Nat) : Int) - 9223372036854775808 = (a : Int) * (p : Int) by rw [← Int.natCast_mul]; omega]
    rw [Int.mul_ediv_cancel _ (by omega)]
    omega
  · rw [Nat.mul_one, Nat.add_mul, e63]
    have : (((a * p + 2 ^ 63 : Nat) : Int) + 9223372036854775808) % 18446744073709551616 = ((a * p : Nat) : Int) := by omega
    rw [this]
    have e : ((a * p : Nat) : Int) - 9223372036854775808 = ((a : Int) - q) * p := by
      rw [Int.sub_mul, ← Int.natCast_mul, ← Int.natCast_mul, e63]; rfl
    rw [e, Int.mul_ediv_cancel _ (by omega)]
    omega
theorem sign_yes (x : BitVec 64) (hi : Nat) (w : World) (h2 : hi ≤ 63) :
    Calls Tryd.prog 88 #[.int .u64 x.toNat, .int .i64 hi] w fun e w' => e = .returned (.int .i64 (signB x hi)) ∧ Kp w w' := by
  go_enter Tryd.func88, Tryd.ntmps88
  go_wp2_with fail
  refine (there_yes hi 0 _ (Nat.zero_le _) h2).mono ?_; rintro e w' ⟨rfl, rfl⟩
  go_wp2
  go_ret
  exact ⟨ret_int (sign_num x hi h2), by repeat (first | exact Kp.refl _ | apply Kp.drew | apply Kp.alloc)⟩
theorem sign_no (x : Int) (hi : Int) (w : World) (h : hi < 0 ∨ 63 < hi) :
    Calls Tryd.prog 88 #[.int .u64 x, .int .i64 hi] w fun e w' => e = .returned (.int .i64 0) ∧ Kp w w' := by
  have H : Hid ((0 : Int) < 0 ∨ hi < 0 ∨ 63 < hi) := Lib.hid (by omega)
  clear h
  go_enter Tryd.func88, Tryd.ntmps88
  go_wp2_with fail
  refine (there_no hi 0 _ H.out).mono ?_; rintro e w' ⟨rfl, rfl⟩
  go_wp2
  go_ret
  exact ⟨rfl, by repeat (first | exact Kp.refl _ | apply Kp.drew | apply Kp.alloc)⟩
end Go.Proofs.YtfbkppncaampdaaDoor
