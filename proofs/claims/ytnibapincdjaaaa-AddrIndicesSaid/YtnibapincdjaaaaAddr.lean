/-
  The contracts of package addr: User, Aligned, Page, Place, Va, Index, Prefix, From, Word, Split, for every word and every number. No condition.
-/
import Derived.Test.YtnibapincdjaaaaWordsN
namespace Go.Proofs.Ytnibapincdjaaaa
open Go Go.RowKit

/-! What they come to, on numbers. -/
def userB (X : Nat) : Bool := decide (X < 140737488355328)
def alignB (X : Nat) : Bool := decide (X % 8 = 0)
def pageN (X : Nat) : Nat := X / 4096
def placeN (X : Nat) : Nat := X % 4096 / 8
def VaOk (p : BitVec 64) (q : Int) : Prop := p.toNat < 34359738368 ∧ 0 ≤ q ∧ q < 512
instance (p : BitVec 64) (q : Int) : Decidable (VaOk p q) := by unfold VaOk; infer_instance
def vaW (p : BitVec 64) (q : Int) : BitVec 64 := if VaOk p q then BitVec.ofNat 64 (p.toNat * 4096 + q.toNat * 8) else 0#64
def vaE (p : BitVec 64) (q : Int) : Int := if VaOk p q then 0 else 2
def LevOk (p : BitVec 64) (l : Int) : Prop := p.toNat < 34359738368 ∧ 0 ≤ l ∧ l < 4
instance (p : BitVec 64) (q : Int) : Decidable (LevOk p q) := by unfold LevOk; infer_instance
def levE (p : BitVec 64) (l : Int) : Int := if LevOk p l then 0 else 2
def preN (P k : Nat) : Nat := P / 2 ^ (9 * (3 - k))
def preW (p : BitVec 64) (l : Int) : BitVec 64 := if LevOk p l then BitVec.ofNat 64 (preN p.toNat l.toNat) else 0#64
def idxV (p : BitVec 64) (l : Int) : Int := if LevOk p l then ((preN p.toNat l.toNat % 512 : Nat) : Int) else 0

theorem inPage_yes (q : Int) (w : World) (h1 : 0 ≤ q) (h2 : q < 512) :
    Calls Try.prog 30 #[.int .i64 q] w fun e w' => e = .returned (.bool true) ∧ w' = w := by
  go_enter Try.func30, Try.ntmps30
  go_wp2
  go_ret
  exact ⟨rfl, rfl⟩
theorem inPage_no (q : Int) (w : World) (h : q < 0 ∨ 512 ≤ q) :
    Calls Try.prog 30 #[.int .i64 q] w fun e w' => e = .returned (.bool false) ∧ w' = w := by
  by_cases a : 0 ≤ q
  · have b : 512 ≤ q := by omega
    have b' : decide (q < 512) = false := by simp; omega
    clear h
    go_enter Try.func30, Try.ntmps30
    go_wp2
    go_ret
    exact ⟨rfl, rfl⟩
  · have a' : decide (0 ≤ q) = false := by simp; omega
    clear h
    go_enter Try.func30, Try.ntmps30
    go_wp2
    go_ret
    exact ⟨rfl, rfl⟩
theorem athere_yes (p : BitVec 64) (l : Int) (w : World) (h : LevOk p l) :
    Calls Try.prog 33 #[.int .u64 p.toNat, .int .i64 l] w fun e w' => e = .returned (.bool true) ∧ w' = w := by
  unfold LevOk at h
  have c : decide (l < 4) = true := by simp; omega
  have a : decide ((p.toNat : Int) < 34359738368) = true := by simp only [decide_eq_true_eq]; omega
  have b : 0 ≤ l := h.2.1
  clear h
  go_enter Try.func33, Try.ntmps33
  go_wp2
  go_ret
  exact ⟨rfl, rfl⟩
theorem athere_no (p : BitVec 64) (l : Int) (w : World) (h : ¬ LevOk p l) :
    Calls Try.prog 33 #[.int .u64 p.toNat, .int .i64 l] w fun e w' => e = .returned (.bool false) ∧ w' = w := by
  unfold LevOk at h
  by_cases a : p.toNat < 34359738368
  · have a' : decide ((p.toNat : Int) < 34359738368) = true := by simp only [decide_eq_true_eq]; omega
    by_cases b : 0 ≤ l
    · have c' : decide (l < 4) = false := by simp; omega
      clear h a
      go_enter Try.func33, Try.ntmps33
      go_wp2
      go_ret
      exact ⟨rfl, rfl⟩
    · have b' : decide (0 ≤ l) = false := by simp; omega
      clear h a
      go_enter Try.func33, Try.ntmps33
      go_wp2
      go_ret
      exact ⟨rfl, rfl⟩
  · have a' : decide ((p.toNat : Int) < 34359738368) = false := by simp only [decide_eq_false_iff_not]; omega
    clear h a
    go_enter Try.func33, Try.ntmps33
    go_wp2
    go_ret
    exact ⟨rfl, rfl⟩
theorem low_any (k lo : Nat) (w : World) (h : k < 4) (hl : lo = 9 * (3 - k)) :
    Calls Try.prog 34 #[.int .i64 k] w fun e w' => e = .returned (.int .i64 lo) ∧ w' = w := by
  have H : Hid ((9 : Int) * (3 - k) = (lo : Int)) := Lib.hid (by omega)
  clear hl
  go_enter Try.func34, Try.ntmps34
  go_wp2
  go_ret
  exact ⟨ret_int H.out, rfl⟩
theorem get_at (x : BitVec 64) (hi lo : Int) (H L : Nat) (w : World) (eh : hi = H) (el : lo = L) (h1 : L ≤ H) (h2 : H ≤ 63) :
    Calls Try.prog 31 #[.int .u64 x.toNat, .int .i64 hi, .int .i64 lo] w fun e w' => e = .returned (.int .u64 (getB x H L).toNat) ∧ Kp w w' := by
  subst eh; subst el; exact get_yes x H L w h1 h2

theorem page_num (x : BitVec 64) : (getB x 63 12).toNat = pageN x.toNat := by
  rw [getB_nat x 63 12 (by decide) (by decide)]
  have := x.isLt
  unfold pageN
  omega
theorem page_any (x : BitVec 64) (w : World) :
    Calls Try.prog 15 #[.int .u64 x.toNat] w fun e w' => e = .returned (.int .u64 (pageN x.toNat)) ∧ Kp w w' := by
  have H := Lib.hid (page_num x)
  go_enter Try.func15, Try.ntmps15
  go_wp2_with fail
  refine (get_yes x 63 12 _ (by decide) (by decide)).mono ?_; rintro e w1 ⟨rfl, hg⟩
  have H1 := Lib.hid hg; clear hg
  go_wp2_with fail
  go_ret
  exact ⟨ret_int (congrArg Int.ofNat H.out), H1.out⟩
theorem place_num (x : BitVec 64) : (getB x 11 3).toNat = placeN x.toNat := by
  rw [getB_nat x 11 3 (by decide) (by decide)]
  unfold placeN
  omega
theorem place_lt (X : Nat) : placeN X < 512 := by unfold placeN; omega
theorem wrap_small (n : Int) (h0 : 0 ≤ n) (h1 : n < 9223372036854775808) : wrap64 n = n := by unfold wrap64; omega
theorem place_any (x : BitVec 64) (w : World) :
    Calls Try.prog 17 #[.int .u64 x.toNat] w fun e w' => e = .returned (.int .i64 (placeN x.toNat)) ∧ Kp w w' := by
  have H := Lib.hid (place_num x)
  have hl := place_lt x.toNat
  go_enter Try.func17, Try.ntmps17
  go_wp2_with fail
  refine (get_yes x 11 3 _ (by decide) (by decide)).mono ?_; rintro e w1 ⟨rfl, hg⟩
  rw [H.out]
  have H1 := Lib.hid hg; clear hg
  go_wp2_with fail
  go_ret
  exact ⟨rfl, H1.out⟩
theorem user_num (X : Nat) : decide ((pageN X : Int) < 34359738368) = userB X := by
  unfold pageN userB; rw [decide_eq_decide]; omega
theorem user_any (x : BitVec 64) (w : World) :
    Calls Try.prog 11 #[.int .u64 x.toNat] w fun e w' => e = .returned (.bool (userB x.toNat)) ∧ Kp w w' := by
  have H := user_num x.toNat
  go_enter Try.func11, Try.ntmps11
  go_wp2_with fail
  refine (page_any x _).mono ?_; rintro e w1 ⟨rfl, hg⟩
  have H1 := Lib.hid hg; clear hg
  go_wp2_with fail
  go_ret
  exact ⟨rfl, H1.out⟩
theorem align_num (x : BitVec 64) : (((getB x 2 0).toNat : Int) == 0) = alignB x.toNat := by
  rw [getB_nat x 2 0 (by decide) (by decide)]
  unfold alignB; rw [Bool.eq_iff_iff]; simp
  omega
theorem align_any (x : BitVec 64) (w : World) :
    Calls Try.prog 13 #[.int .u64 x.toNat] w fun e w' => e = .returned (.bool (alignB x.toNat)) ∧ Kp w w' := by
  have H := align_num x
  go_enter Try.func13, Try.ntmps13
  go_wp2_with fail
  refine (get_yes x 2 0 _ (by decide) (by decide)).mono ?_; rintro e w1 ⟨rfl, hg⟩
  have H1 := Lib.hid hg; clear hg
  go_wp2_with fail
  go_ret
  exact ⟨rfl, H1.out⟩
theorem va_yes_nat (p : BitVec 64) (q : Int) (h : VaOk p q) : (vaW p q).toNat = p.toNat * 4096 + q.toNat * 8 := by
  have e : vaW p q = BitVec.ofNat 64 (p.toNat * 4096 + q.toNat * 8) := if_pos h
  unfold VaOk at h
  rw [e, ofN _ (by omega)]
theorem va_num (p : BitVec 64) (q : Int) (h : VaOk p q) : IntKind.u64.wrap (IntKind.u64.wrap ((p.toNat : Int) * 4096) + q * 8) = ((vaW p q).toNat : Int) := by
  rw [va_yes_nat p q h, IntKind.wrap_u64, IntKind.wrap_u64]
  unfold VaOk at h
  omega
theorem dec_lt {n : Nat} (h : n < 34359738368) : decide ((n : Int) < 34359738368) = true := by simp only [decide_eq_true_eq]; omega
theorem dec_le {n : Nat} (h : n < 34359738368) : decide (34359738368 ≤ (n : Int)) = false := by simp only [decide_eq_false_iff_not]; omega
theorem dec_nlt {n : Nat} (h : ¬ n < 34359738368) : decide ((n : Int) < 34359738368) = false := by simp only [decide_eq_false_iff_not]; omega
theorem dec_nle {n : Nat} (h : ¬ n < 34359738368) : decide (34359738368 ≤ (n : Int)) = true := by simp only [decide_eq_true_eq]; omega
theorem va_any (p : BitVec 64) (q : Int) (w : World) :
    Calls Try.prog 9 #[.int .u64 p.toNat, .int .i64 q] w fun e w' => e = .returned (.tuple #[.int .u64 (vaW p q).toNat, .int .i64 (vaE p q)]) ∧ w = w' := by
  by_cases h : VaOk p q
  · have e1 : vaE p q = 0 := if_pos h
    rw [e1]; clear e1
    have g := h
    unfold VaOk at g
    have a' := dec_lt g.1
    have a2 := dec_le g.1
    obtain ⟨g1, g2, g3⟩ := g
    have G := Lib.hid (va_num p q h); clear h
    clear g1
    go_enter Try.func9, Try.ntmps9
    go_wp2_with fail
    refine (inPage_yes q _ g2 g3).mono ?_; rintro e w1 ⟨rfl, rfl⟩
    go_wp2_with fail
    go_ret2
    exact ⟨ret_pair G.out rfl, rfl⟩
  · have e1 : vaE p q = 2 := if_neg h
    have e2 : vaW p q = 0#64 := if_neg h
    rw [e1, e2]; clear e1 e2
    unfold VaOk at h
    by_cases a : p.toNat < 34359738368
    · have a2 := dec_le a
      have G : Hid (q < 0 ∨ 512 ≤ q) := Lib.hid (by omega)
      clear h a
      go_enter Try.func9, Try.ntmps9
      go_wp2_with fail
      refine (inPage_no q _ G.out).mono ?_; rintro e w2 ⟨rfl, rfl⟩
      go_wp2_with fail
      go_ret2
      exact ⟨rfl, rfl⟩
    · have a2 := dec_nle a
      clear h a
      go_enter Try.func9, Try.ntmps9
      go_wp2_with fail
      go_ret2
      exact ⟨rfl, rfl⟩

theorem pre_nat (p : BitVec 64) (l : Int) (h : LevOk p l) : (preW p l).toNat = preN p.toNat l.toNat := by
  have e : preW p l = BitVec.ofNat 64 (preN p.toNat l.toNat) := if_pos h
  have hl : preN p.toNat l.toNat ≤ p.toNat := Nat.div_le_self _ _
  have := p.isLt
  rw [e, ofN _ (by omega)]
theorem idx_num (p : BitVec 64) (k lo : Nat) (hk : k < 4) (hl : lo = 9 * (3 - k)) : (getB p (lo + 8) lo).toNat = preN p.toNat k % 512 := by
  subst hl
  rw [getB_nat _ _ _ (by omega) (by omega), show 9 * (3 - k) + 8 - 9 * (3 - k) + 1 = 9 by omega]
  rfl
theorem pre_num (p : BitVec 64) (k lo : Nat) (hk : k < 4) (hl : lo = 9 * (3 - k)) : (getB p 63 lo).toNat = preN p.toNat k := by
  subst hl
  rw [getB_nat _ _ _ (by omega) (by omega), show 63 - 9 * (3 - k) + 1 = 64 - 9 * (3 - k) by omega]
  unfold preN
  apply Nat.mod_eq_of_lt
  rw [Nat.div_lt_iff_lt_mul (Nat.two_pow_pos _), ← Nat.pow_add, show 64 - 9 * (3 - k) + 9 * (3 - k) = 64 by omega]
  exact p.isLt
theorem index_any (p : BitVec 64) (l : Int) (w : World) :
    Calls Try.prog 20 #[.int .u64 p.toNat, .int .i64 l] w fun e w' => e = .returned (.tuple #[.int .i64 (idxV p l), .int .i64 (levE p l)]) ∧ Kp w w' := by
  by_cases h : LevOk p l
  · have e1 : levE p l = 0 := if_pos h
    have e2 : idxV p l = ((preN p.toNat l.toNat % 512 : Nat) : Int) := if_pos h
    rw [e1, e2]; clear e1 e2
    have g := h
    unfold LevOk at g
    obtain ⟨k, rfl⟩ := Int.eq_ofNat_of_zero_le g.2.1
    have hk : k < 4 := by omega
    have hm : preN p.toNat k % 512 < 512 := by omega
    rw [show ((k : Nat) : Int).toNat = k from rfl]
    obtain ⟨lo, hl⟩ : ∃ lo, lo = 9 * (3 - k) := ⟨_, rfl⟩
    have hlo : lo ≤ 27 := by omega
    have I := Lib.hid (idx_num p k lo hk hl)
    have L := Lib.hid hl; clear hl
    have G := Lib.hid h; clear h g
    generalize preN p.toNat k % 512 = m at I hm ⊢
    go_enter Try.func20, Try.ntmps20
    go_wp2_with fail
    refine (athere_yes p k _ G.out).mono ?_; rintro e w1 ⟨rfl, rfl⟩
    go_wp2_with fail
    refine (low_any k lo _ hk L.out).mono ?_; rintro e w2 ⟨rfl, rfl⟩
    go_wp2_with fail
    refine (get_at p _ _ (lo + 8) lo _ (by omega) rfl (by omega) (by omega)).mono ?_; rintro e w3 ⟨rfl, hg⟩
    rw [I.out]
    have H3 := Lib.hid hg; clear hg
    go_wp2_with fail
    go_ret2
    exact ⟨rfl, H3.out⟩
  · have e1 : levE p l = 2 := if_neg h
    have e2 : idxV p l = 0 := if_neg h
    rw [e1, e2]; clear e1 e2
    have G := Lib.hid h; clear h
    go_enter Try.func20, Try.ntmps20
    go_wp2_with fail
    refine (athere_no p l _ G.out).mono ?_; rintro e w3 ⟨rfl, rfl⟩
    go_wp2_with fail
    go_ret2
    exact ⟨rfl, Kp.refl _⟩
theorem prefix_any (p : BitVec 64) (l : Int) (w : World) :
    Calls Try.prog 22 #[.int .u64 p.toNat, .int .i64 l] w fun e w' => e = .returned (.tuple #[.int .u64 (preW p l).toNat, .int .i64 (levE p l)]) ∧ Kp w w' := by
  by_cases h : LevOk p l
  · have e1 : levE p l = 0 := if_pos h
    rw [e1, pre_nat p l h]; clear e1
    have g := h
    unfold LevOk at g
    obtain ⟨k, rfl⟩ := Int.eq_ofNat_of_zero_le g.2.1
    have hk : k < 4 := by omega
    rw [show ((k : Nat) : Int).toNat = k from rfl]
    obtain ⟨lo, hl⟩ : ∃ lo, lo = 9 * (3 - k) := ⟨_, rfl⟩
    have hlo : lo ≤ 27 := by omega
    have I := Lib.hid (pre_num p k lo hk hl)
    have L := Lib.hid hl; clear hl
    have G := Lib.hid h; clear h g
    go_enter Try.func22, Try.ntmps22
    go_wp2_with fail
    refine (athere_yes p k _ G.out).mono ?_; rintro e w1 ⟨rfl, rfl⟩
    go_wp2_with fail
    refine (low_any k lo _ hk L.out).mono ?_; rintro e w2 ⟨rfl, rfl⟩
    go_wp2_with fail
    refine (get_at p _ _ 63 lo _ rfl rfl (by omega) (by omega)).mono ?_; rintro e w3 ⟨rfl, hg⟩
    rw [I.out]
    have H3 := Lib.hid hg; clear hg
    go_wp2_with fail
    go_ret2
    exact ⟨rfl, H3.out⟩
  · have e1 : levE p l = 2 := if_neg h
    have e2 : preW p l = 0#64 := if_neg h
    rw [e1, e2]; clear e1 e2
    have G := Lib.hid h; clear h
    go_enter Try.func22, Try.ntmps22
    go_wp2_with fail
    refine (athere_no p l _ G.out).mono ?_; rintro e w3 ⟨rfl, rfl⟩
    go_wp2_with fail
    go_ret2
    exact ⟨rfl, Kp.refl _⟩

/-! Words of memory. -/
def WordOk (f q : Int) : Prop := (0 ≤ f ∧ f ≤ 1048576) ∧ 0 ≤ q ∧ q < 512
instance (f q : Int) : Decidable (WordOk f q) := by unfold WordOk; infer_instance
def wordW (f q : Int) : BitVec 64 := if WordOk f q then BitVec.ofNat 64 (f.toNat * 512 + q.toNat) else 0#64
def wordE (f q : Int) : Int := if WordOk f q then 0 else 2
def splitF (X : Nat) : Int := if X ≤ 1099511627776 then ((X / 512 : Nat) : Int) else 0
def splitP (X : Nat) : Int := if X ≤ 1099511627776 then ((X % 512 : Nat) : Int) else 0
theorem word_nat (f q : Int) (h : WordOk f q) : (wordW f q).toNat = f.toNat * 512 + q.toNat := by
  have e : wordW f q = BitVec.ofNat 64 (f.toNat * 512 + q.toNat) := if_pos h
  unfold WordOk at h
  rw [e, ofN _ (by omega)]
theorem word_num (f q : Int) (h : WordOk f q) : f * 512 + q = ((wordW f q).toNat : Int) := by
  rw [word_nat f q h]
  unfold WordOk at h
  omega
theorem word_any (f q : Int) (w : World) :
    Calls Try.prog 26 #[.int .i64 f, .int .i64 q] w fun e w' => e = .returned (.tuple #[.int .u64 (wordW f q).toNat, .int .i64 (wordE f q)]) ∧ w = w' := by
  by_cases h : WordOk f q
  · have e1 : wordE f q = 0 := if_pos h
    rw [e1]; clear e1
    have g := h
    unfold WordOk at g
    obtain ⟨⟨g0, g1⟩, g2, g3⟩ := g
    have G := Lib.hid (word_num f q h); clear h
    go_enter Try.func26, Try.ntmps26
    go_wp2_with fail
    refine (inPage_yes q _ g2 g3).mono ?_; rintro e w1 ⟨rfl, rfl⟩
    go_wp2_with fail
    go_ret2
    exact ⟨ret_pair G.out rfl, rfl⟩
  · have e1 : wordE f q = 2 := if_neg h
    have e2 : wordW f q = 0#64 := if_neg h
    rw [e1, e2]; clear e1 e2
    unfold WordOk at h
    by_cases a : f < 0
    · clear h
      go_enter Try.func26, Try.ntmps26
      go_wp2_with fail
      go_ret2
      exact ⟨rfl, rfl⟩
    · by_cases b : f ≤ 1048576
      · have G : Hid (q < 0 ∨ 512 ≤ q) := Lib.hid (by omega)
        clear h
        have a' : 0 ≤ f := by omega
        go_enter Try.func26, Try.ntmps26
        go_wp2_with fail
        refine (inPage_no q _ G.out).mono ?_; rintro e w2 ⟨rfl, rfl⟩
        go_wp2_with fail
        go_ret2
        exact ⟨rfl, rfl⟩
      · have a' : 0 ≤ f := by omega
        have b' : 1048576 < f := by omega
        clear h
        go_enter Try.func26, Try.ntmps26
        go_wp2_with fail
        go_ret2
        exact ⟨rfl, rfl⟩
theorem splitF_num (x : BitVec 64) (h : x.toNat ≤ 1099511627776) : wrap64 ((getB x 63 9).toNat : Int) = splitF x.toNat := by
  have e : splitF x.toNat = ((x.toNat / 512 : Nat) : Int) := if_pos h
  rw [e, getB_nat x 63 9 (by decide) (by decide)]
  unfold wrap64
  omega
theorem splitP_num (x : BitVec 64) (h : x.toNat ≤ 1099511627776) : wrap64 ((getB x 8 0).toNat : Int) = splitP x.toNat := by
  have e : splitP x.toNat = ((x.toNat % 512 : Nat) : Int) := if_pos h
  rw [e, getB_nat x 8 0 (by decide) (by decide)]
  unfold wrap64
  omega
theorem split_any (x : BitVec 64) (w : World) :
    Calls Try.prog 28 #[.int .u64 x.toNat] w fun e w' => e = .returned (.tuple #[.int .i64 (splitF x.toNat), .int .i64 (splitP x.toNat)]) ∧ Kp w w' := by
  by_cases h : x.toNat ≤ 1099511627776
  · have G1 := Lib.hid (splitF_num x h)
    have G2 := Lib.hid (splitP_num x h)
    have d : decide (1099511627776 < (x.toNat : Int)) = false := by simp only [decide_eq_false_iff_not]; omega
    clear h
    go_enter Try.func28, Try.ntmps28
    go_wp2_with fail
    refine (get_yes x 63 9 _ (by decide) (by decide)).mono ?_; rintro e w1 ⟨rfl, hg⟩
    have H1 := Lib.hid hg; clear hg
    go_wp2_with fail
    refine (get_yes x 8 0 _ (by decide) (by decide)).mono ?_; rintro e w2 ⟨rfl, hg⟩
    have H2 := Lib.hid hg; clear hg
    go_wp2_with fail
    go_ret2
    exact ⟨ret_pair G1.out G2.out, (by (repeat (first | apply Kp.drew | apply Kp.alloc)); refine Kp.trans ?_ H2.out; (repeat (first | apply Kp.drew | apply Kp.alloc)); refine Kp.trans ?_ H1.out; (repeat (first | apply Kp.drew | apply Kp.alloc)); exact Kp.refl _)⟩
  · have e1 : splitF x.toNat = 0 := if_neg h
    have e2 : splitP x.toNat = 0 := if_neg h
    rw [e1, e2]; clear e1 e2
    have d : decide (1099511627776 < (x.toNat : Int)) = true := by simp only [decide_eq_true_eq]; omega
    clear h
    go_enter Try.func28, Try.ntmps28
    go_wp2_with fail
    go_ret2
    exact ⟨rfl, Kp.refl _⟩
end Go.Proofs.Ytnibapincdjaaaa
