/-
  The document's own answers for layer 2 come to what package addr answers. No condition.
-/
import Derived.Test.YtnibapincdjaaaaAddrFrom
import Derived.Test.YtnibapincdjaaaaRefGet
namespace Go.Proofs.Ytnibapincdjaaaa
open Go Go.RowKit

theorem ruser_num (x : BitVec 64) : (((x.toNat : Int) / 2 ^ 47) == 0) = userB x.toNat := by
  unfold userB; rw [Bool.eq_iff_iff]; simp
  have := x.isLt
  omega
theorem ruser_any (x : BitVec 64) (w : World) :
    Calls Try.prog 12 #[.int .u64 x.toNat] w fun e w' => e = .returned (.bool (userB x.toNat)) ∧ w = w' := by
  have H := Lib.hid (ruser_num x)
  go_enter Try.func12, Try.ntmps12
  go_wp2_with fail
  go_ret
  exact ⟨ret_bool H.out, rfl⟩
theorem ralign_num (x : BitVec 64) : (((x.toNat : Int) % 8) == 0) = alignB x.toNat := by
  unfold alignB; rw [Bool.eq_iff_iff]; simp
  omega
theorem ralign_any (x : BitVec 64) (w : World) :
    Calls Try.prog 14 #[.int .u64 x.toNat] w fun e w' => e = .returned (.bool (alignB x.toNat)) ∧ w = w' := by
  have H := Lib.hid (ralign_num x)
  go_enter Try.func14, Try.ntmps14
  go_wp2_with fail
  go_ret
  exact ⟨ret_bool H.out, rfl⟩
theorem rpage_num (x : BitVec 64) : ((x.toNat : Int) / 2 ^ 12) = (pageN x.toNat : Int) := by
  unfold pageN; omega
theorem rpage_any (x : BitVec 64) (w : World) :
    Calls Try.prog 16 #[.int .u64 x.toNat] w fun e w' => e = .returned (.int .u64 (pageN x.toNat)) ∧ w = w' := by
  have H := Lib.hid (rpage_num x)
  go_enter Try.func16, Try.ntmps16
  go_wp2_with fail
  go_ret
  exact ⟨ret_int H.out, rfl⟩
theorem rplace_any (x : BitVec 64) (w : World) :
    Calls Try.prog 18 #[.int .u64 x.toNat] w fun e w' => e = .returned (.int .i64 (placeN x.toNat)) ∧ w = w' := by
  have H := Lib.hid (place_num x)
  have hl := place_lt x.toNat
  go_enter Try.func18, Try.ntmps18
  go_wp2_with fail
  refine (rget_yes x 11 3 _ (by decide) (by decide)).mono ?_; rintro e w1 ⟨rfl, rfl⟩
  rw [H.out]
  go_wp2_with fail
  go_ret
  exact ⟨rfl, rfl⟩
theorem rva_any (p : BitVec 64) (q : Int) (w : World) :
    Calls Try.prog 10 #[.int .u64 p.toNat, .int .i64 q] w fun e w' => e = .returned (.tuple #[.int .u64 (vaW p q).toNat, .int .i64 (vaE p q)]) ∧ w = w' := by
  by_cases h : VaOk p q
  · have e1 : vaE p q = 0 := if_pos h
    rw [e1]; clear e1
    have g := h
    unfold VaOk at g
    have a2 := dec_le g.1
    obtain ⟨g1, g2, g3⟩ := g
    have G := Lib.hid (va_num p q h); clear h
    clear g1
    go_enter Try.func10, Try.ntmps10
    go_wp2_with fail
    go_ret2
    exact ⟨ret_pair G.out rfl, rfl⟩
  · have e1 : vaE p q = 2 := if_neg h
    have e2 : vaW p q = 0#64 := if_neg h
    rw [e1, e2]; clear e1 e2
    unfold VaOk at h
    by_cases a : p.toNat < 34359738368
    · have a2 := dec_le a
      by_cases b : q < 0
      · clear h a
        go_enter Try.func10, Try.ntmps10
        go_wp2_with fail
        go_ret2
        exact ⟨rfl, rfl⟩
      · have b1 : 0 ≤ q := by omega
        have b2 : 512 ≤ q := by omega
        clear h a
        go_enter Try.func10, Try.ntmps10
        go_wp2_with fail
        go_ret2
        exact ⟨rfl, rfl⟩
    · have a2 := dec_nle a
      clear h a
      go_enter Try.func10, Try.ntmps10
      go_wp2_with fail
      go_ret2
      exact ⟨rfl, rfl⟩
theorem rget_at (x : BitVec 64) (hi lo : Int) (H L : Nat) (w : World) (eh : hi = H) (el : lo = L) (h1 : L ≤ H) (h2 : H ≤ 63) :
    Calls Try.prog 32 #[.int .u64 x.toNat, .int .i64 hi, .int .i64 lo] w fun e w' => e = .returned (.int .u64 (getB x H L).toNat) ∧ w' = w := by
  subst eh; subst el; exact rget_yes x H L w h1 h2
theorem rindex_any (p : BitVec 64) (l : Int) (w : World) :
    Calls Try.prog 21 #[.int .u64 p.toNat, .int .i64 l] w fun e w' => e = .returned (.tuple #[.int .i64 (idxV p l), .int .i64 (levE p l)]) ∧ w = w' := by
  by_cases h : LevOk p l
  · have e1 : levE p l = 0 := if_pos h
    have e2 : idxV p l = ((preN p.toNat l.toNat % 512 : Nat) : Int) := if_pos h
    rw [e1, e2]; clear e1 e2
    have g := h
    unfold LevOk at g
    have a2 := dec_le g.1
    obtain ⟨k, rfl⟩ := Int.eq_ofNat_of_zero_le g.2.1
    have hk : k < 4 := by omega
    have hm : preN p.toNat k % 512 < 512 := by omega
    have hd : decide (3 < (k : Int)) = false := by simp only [decide_eq_false_iff_not]; omega
    rw [show ((k : Nat) : Int).toNat = k from rfl]
    have I := Lib.hid (idx_num p k _ hk rfl)
    clear h g
    generalize preN p.toNat k % 512 = m at I hm ⊢
    go_enter Try.func21, Try.ntmps21
    go_wp2_with fail
    refine (rget_at p _ _ (9 * (3 - k) + 8) (9 * (3 - k)) _ (by omega) (by omega) (by omega) (by omega)).mono ?_; rintro e w3 ⟨rfl, rfl⟩
    rw [I.out]
    go_wp2_with fail
    go_ret2
    exact ⟨rfl, rfl⟩
  · have e1 : levE p l = 2 := if_neg h
    have e2 : idxV p l = 0 := if_neg h
    rw [e1, e2]; clear e1 e2
    unfold LevOk at h
    by_cases a : p.toNat < 34359738368
    · have a2 := dec_le a
      by_cases b : l < 0
      · clear h a
        go_enter Try.func21, Try.ntmps21
        go_wp2_with fail
        go_ret2
        exact ⟨rfl, rfl⟩
      · have b1 : 0 ≤ l := by omega
        have b2 : 4 ≤ l := by omega
        clear h a
        go_enter Try.func21, Try.ntmps21
        go_wp2_with fail
        go_ret2
        exact ⟨rfl, rfl⟩
    · have a2 := dec_nle a
      clear h a
      go_enter Try.func21, Try.ntmps21
      go_wp2_with fail
      go_ret2
      exact ⟨rfl, rfl⟩
theorem rpre_num (p : BitVec 64) (k : Nat) : (p.toNat : Int) / 2 ^ (9 * (3 - k)) = (preN p.toNat k : Int) := by
  unfold preN; simp
theorem rprefix_any (p : BitVec 64) (l : Int) (w : World) :
    Calls Try.prog 23 #[.int .u64 p.toNat, .int .i64 l] w fun e w' => e = .returned (.tuple #[.int .u64 (preW p l).toNat, .int .i64 (levE p l)]) ∧ w = w' := by
  by_cases h : LevOk p l
  · have e1 : levE p l = 0 := if_pos h
    rw [e1, pre_nat p l h]; clear e1
    have g := h
    unfold LevOk at g
    have a2 := dec_le g.1
    obtain ⟨k, rfl⟩ := Int.eq_ofNat_of_zero_le g.2.1
    have hk : k < 4 := by omega
    have hd : decide (3 < (k : Int)) = false := by simp only [decide_eq_false_iff_not]; omega
    rw [show ((k : Nat) : Int).toNat = k from rfl]
    have I := Lib.hid (rpre_num p k)
    clear h g
    go_enter Try.func23, Try.ntmps23
    go_wp2_with fail
    go_ret2
    exact ⟨ret_pair I.out rfl, rfl⟩
  · have e1 : levE p l = 2 := if_neg h
    have e2 : preW p l = 0#64 := if_neg h
    rw [e1, e2]; clear e1 e2
    unfold LevOk at h
    by_cases a : p.toNat < 34359738368
    · have a2 := dec_le a
      by_cases b : l < 0
      · clear h a
        go_enter Try.func23, Try.ntmps23
        go_wp2_with fail
        go_ret2
        exact ⟨rfl, rfl⟩
      · have b1 : 0 ≤ l := by omega
        have b2 : 4 ≤ l := by omega
        clear h a
        go_enter Try.func23, Try.ntmps23
        go_wp2_with fail
        go_ret2
        exact ⟨rfl, rfl⟩
    · have a2 := dec_nle a
      clear h a
      go_enter Try.func23, Try.ntmps23
      go_wp2_with fail
      go_ret2
      exact ⟨rfl, rfl⟩
theorem rword_any (f q : Int) (w : World) :
    Calls Try.prog 27 #[.int .i64 f, .int .i64 q] w fun e w' => e = .returned (.tuple #[.int .u64 (wordW f q).toNat, .int .i64 (wordE f q)]) ∧ w = w' := by
  by_cases h : WordOk f q
  · have e1 : wordE f q = 0 := if_pos h
    rw [e1]; clear e1
    have g := h
    unfold WordOk at g
    obtain ⟨⟨g0, g1⟩, g2, g3⟩ := g
    have G := Lib.hid (word_num f q h); clear h
    go_enter Try.func27, Try.ntmps27
    go_wp2_with fail
    go_ret2
    exact ⟨ret_pair G.out rfl, rfl⟩
  · have e1 : wordE f q = 2 := if_neg h
    have e2 : wordW f q = 0#64 := if_neg h
    rw [e1, e2]; clear e1 e2
    unfold WordOk at h
    by_cases a : f < 0
    · clear h
      go_enter Try.func27, Try.ntmps27
      go_wp2_with fail
      go_ret2
      exact ⟨rfl, rfl⟩
    · by_cases b : f ≤ 1048576
      · have a' : 0 ≤ f := by omega
        by_cases c : q < 0
        · clear h
          go_enter Try.func27, Try.ntmps27
          go_wp2_with fail
          go_ret2
          exact ⟨rfl, rfl⟩
        · have c1 : 0 ≤ q := by omega
          have c2 : 512 ≤ q := by omega
          clear h
          go_enter Try.func27, Try.ntmps27
          go_wp2_with fail
          go_ret2
          exact ⟨rfl, rfl⟩
      · have a' : 0 ≤ f := by omega
        have b' : 1048576 < f := by omega
        clear h
        go_enter Try.func27, Try.ntmps27
        go_wp2_with fail
        go_ret2
        exact ⟨rfl, rfl⟩
theorem rsplitF_num (x : BitVec 64) (h : x.toNat ≤ 1099511627776) : ((x.toNat : Int) / 512) = splitF x.toNat := by
  have e : splitF x.toNat = ((x.toNat / 512 : Nat) : Int) := if_pos h
  rw [e]
  omega
theorem rsplitP_num (x : BitVec 64) (h : x.toNat ≤ 1099511627776) : (x.toNat : Int) % 512 = splitP x.toNat := by
  have e : splitP x.toNat = ((x.toNat % 512 : Nat) : Int) := if_pos h
  rw [e]
  omega
theorem rsplit_any (x : BitVec 64) (w : World) :
    Calls Try.prog 29 #[.int .u64 x.toNat] w fun e w' => e = .returned (.tuple #[.int .i64 (splitF x.toNat), .int .i64 (splitP x.toNat)]) ∧ w = w' := by
  by_cases h : x.toNat ≤ 1099511627776
  · have G1 := Lib.hid (rsplitF_num x h)
    have G2 := Lib.hid (rsplitP_num x h)
    have d : decide (1099511627776 < (x.toNat : Int)) = false := by simp only [decide_eq_false_iff_not]; omega
    clear h
    go_enter Try.func29, Try.ntmps29
    go_wp2_with fail
    go_ret2
    exact ⟨ret_pair G1.out G2.out, rfl⟩
  · have e1 : splitF x.toNat = 0 := if_neg h
    have e2 : splitP x.toNat = 0 := if_neg h
    rw [e1, e2]; clear e1 e2
    have d : decide (1099511627776 < (x.toNat : Int)) = true := by simp only [decide_eq_true_eq]; omega
    clear h
    go_enter Try.func29, Try.ntmps29
    go_wp2_with fail
    go_ret2
    exact ⟨rfl, rfl⟩
end Go.Proofs.Ytnibapincdjaaaa
