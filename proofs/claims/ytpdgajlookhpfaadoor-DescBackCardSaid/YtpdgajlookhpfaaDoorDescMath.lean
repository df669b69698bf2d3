/-
  What descriptors' words and words' descriptors are to each other: plain facts on numbers. No condition.
-/
import Derived.Test.YtpdgajlookhpfaaDoorRefTop
namespace Go.Proofs.YtpdgajlookhpfaaDoor
open Go Go.RowKit

theorem bit_is {N : Nat} {b : Bool} (h : N % 2 = bN b) : decide (N % 2 = 1) = b := by rw [h]; cases b <;> rfl
theorem enc_fields (k f : Int) (af ro us ng : Bool) (h : DOk k f af ro us ng) (hk : k ≠ 0) :
    (encW k f af ro us ng).toNat % 2 = 1 ∧ (frN (encW k f af ro us ng) : Int) = f ∧ flg (encW k f af ro us ng) 10 = af ∧ flg (encW k f af ro us ng) 7 = ro ∧ flg (encW k f af ro us ng) 6 = us ∧ flg (encW k f af ro us ng) 11 = ng := by
  have hf : 0 ≤ f ∧ f < 64 := by
    rcases h with g | g | g
    · exact absurd g.1 hk
    · exact ⟨g.2.1, g.2.2.1⟩
    · exact g.2
  have e : encW k f af ro us ng = BitVec.ofNat 64 (encN k f af ro us ng) := if_pos h
  have e2 : encN k f af ro us ng = 3 + 64 * bN us + 128 * bN ro + 1024 * bN af + 2048 * bN ng + 4096 * f.toNat := if_neg hk
  obtain ⟨n, rfl⟩ := Int.eq_ofNat_of_zero_le hf.1
  have hn : n < 64 := by omega
  have e3 : (encW k (n : Int) af ro us ng).toNat = 3 + 64 * bN us + 128 * bN ro + 1024 * bN af + 2048 * bN ng + 4096 * n := by
    rw [e, e2, ofN _ (by cases af <;> cases ro <;> cases us <;> cases ng <;> simp [bN] <;> omega)]
    rfl
  clear e e2 h hk hf
  unfold frN flg
  rw [e3]
  clear e3
  have u : ∀ b : Bool, bN b ≤ 1 := by intro b; cases b <;> decide
  have h1 := u af
  have h2 := u ro
  have h3 := u us
  have h4 := u ng
  exact ⟨by omega, by omega, bit_is (by omega), bit_is (by omega), bit_is (by omega), bit_is (by omega)⟩
theorem enc_back (k f : Int) (af ro us ng : Bool) (l : Int) (h : DOk k f af ro us ng) (hk : k ≠ 0) (hl : 0 ≤ l ∧ l < 4) (hkl : kindOf l = k) : DecOk (encW k f af ro us ng) l := by
  have g := enc_fields k f af ro us ng h hk
  refine ⟨hl, g.1, ?_⟩
  unfold WOk
  rw [hkl, g.2.1, g.2.2.1, g.2.2.2.1, g.2.2.2.2.1, g.2.2.2.2.2]
  exact ⟨if_pos h, rfl⟩
theorem enc_zero (f : Int) (af ro us ng : Bool) (h : DOk 0 f af ro us ng) : f = 0 ∧ af = false ∧ ro = false ∧ us = false ∧ ng = false := by
  rcases h with g | g | g
  · exact ⟨g.2.1, g.2.2⟩
  · have := g.1; omega
  · have := g.1; omega
theorem kind_cases {k f : Int} {af ro us ng : Bool} (h : DOk k f af ro us ng) : k = 0 ∨ k = 1 ∨ k = 2 := by
  rcases h with g | g | g
  · exact .inl g.1
  · exact .inr (.inl g.1)
  · exact .inr (.inr g.1)
theorem back_any (k f : Int) (af ro us ng : Bool) (l : Int) (h : DOk k f af ro us ng) (h1 : k = 1 → 0 ≤ l ∧ l < 3) (h2 : k ≠ 1 → l = 3) :
    dV (encW k f af ro us ng) l = .agg #[.int .i8 k, .int .i64 f, .bool af, .bool ro, .bool us, .bool ng] ∧ dE (encW k f af ro us ng) l = 0 := by
  by_cases hk : k = 0
  · subst hk
    obtain ⟨rfl, rfl, rfl, rfl, rfl⟩ := enc_zero f af ro us ng h
    obtain rfl := h2 (by decide)
    exact dec_none _ 3 ⟨by decide, by decide⟩ (by decide)
  · have hl : (0 ≤ l ∧ l < 4) ∧ kindOf l = k := by
      rcases kind_cases h with c | c | c
      · exact absurd c hk
      · have := h1 c
        exact ⟨by omega, by rw [c]; exact if_neg (by omega)⟩
      · have := h2 (by omega)
        subst this
        exact ⟨by omega, by rw [c]; rfl⟩
    have d := enc_back k f af ro us ng l h hk hl.1 hl.2
    have g := dec_good _ l d.1 d.2.1 d.2.2
    have e := enc_fields k f af ro us ng h hk
    rw [hl.2, e.2.1, e.2.2.1, e.2.2.2.1, e.2.2.2.2.1, e.2.2.2.2.2] at g
    exact g
theorem pg_enc (x : BitVec 64) (h : pg x = true) : DOk 2 (frN x) (flg x 10) (flg x 7) (flg x 6) (flg x 11) ∧ encW 2 (frN x) (flg x 10) (flg x 7) (flg x 6) (flg x 11) = x := by
  have g : DecOk x 3 := of_decide_eq_true h
  have w := g.2.2
  refine ⟨?_, w.2⟩
  have e := w.1
  unfold encE at e
  split at e
  · rename_i d; exact d
  · cases e
theorem enc_pg (f : Int) (af ro us ng : Bool) (h : DOk 2 f af ro us ng) : pg (encW 2 f af ro us ng) = true := decide_eq_true (enc_back 2 f af ro us ng 3 h (by decide) ⟨by decide, by decide⟩ rfl)
theorem touched (x : BitVec 64) (h : tB x = true) : tW x = encW 2 (frN x) true (flg x 7) (flg x 6) (flg x 11) ∧ DOk 2 (frN x) true (flg x 7) (flg x 6) (flg x 11) ∧ flg x 10 = false ∧ pg x = true := by
  have hp : pg x = true ∧ flg x 10 = false := by
    unfold tB at h
    rw [Bool.and_eq_true] at h
    exact ⟨h.1, by simpa using h.2⟩
  obtain ⟨d, e⟩ := pg_enc x hp.1
  rw [hp.2] at d e
  have g : DOk 2 (frN x) true (flg x 7) (flg x 6) (flg x 11) := by
    rcases d with d | d | d
    · exact absurd d.1 (by decide)
    · exact absurd d.1 (by decide)
    · exact .inr (.inr d)
  have hf : (frN x : Int) < 64 := by
    rcases g with g | g | g
    · exact absurd g.1 (by decide)
    · exact absurd g.1 (by decide)
    · exact g.2.2
  refine ⟨?_, g, hp.2, hp.1⟩
  have n := touch_num x hp.2
  rw [tops_yes x h]
  apply BitVec.eq_of_toNat_eq
  have u : ∀ b : Bool, bN b ≤ 1 := by intro b; cases b <;> decide
  have h1 := u (flg x 7)
  have h2 := u (flg x 6)
  have h3 := u (flg x 11)
  have ex : x.toNat = 3 + 64 * bN (flg x 6) + 128 * bN (flg x 7) + 1024 * 0 + 2048 * bN (flg x 11) + 4096 * frN x := by
    have := congrArg BitVec.toNat e
    rw [show encW 2 (frN x) false (flg x 7) (flg x 6) (flg x 11) = BitVec.ofNat 64 (encN 2 (frN x) false (flg x 7) (flg x 6) (flg x 11)) from if_pos d] at this
    rw [show encN 2 (frN x) false (flg x 7) (flg x 6) (flg x 11) = 3 + 64 * bN (flg x 6) + 128 * bN (flg x 7) + 1024 * 0 + 2048 * bN (flg x 11) + 4096 * frN x from rfl, ofN _ (by omega)] at this
    omega
  have ey : (encW 2 (frN x) true (flg x 7) (flg x 6) (flg x 11)).toNat = 3 + 64 * bN (flg x 6) + 128 * bN (flg x 7) + 1024 * 1 + 2048 * bN (flg x 11) + 4096 * frN x := by
    rw [show encW 2 (frN x) true (flg x 7) (flg x 6) (flg x 11) = BitVec.ofNat 64 (encN 2 (frN x) true (flg x 7) (flg x 6) (flg x 11)) from if_pos g]
    rw [show encN 2 (frN x) true (flg x 7) (flg x 6) (flg x 11) = 3 + 64 * bN (flg x 6) + 128 * bN (flg x 7) + 1024 * 1 + 2048 * bN (flg x 11) + 4096 * frN x from rfl, ofN _ (by omega)]
  rw [IntKind.wrap_u64] at n
  rw [ey]
  clear e ey
  generalize frN x = F at *
  omega
theorem touched_fields (x : BitVec 64) (h : tB x = true) : pg (tW x) = true ∧ frN (tW x) = frN x ∧ flg (tW x) 10 = true ∧ flg (tW x) 7 = flg x 7 ∧ flg (tW x) 6 = flg x 6 ∧ flg (tW x) 11 = flg x 11 := by
  obtain ⟨e, d, -, -⟩ := touched x h
  have g := enc_fields 2 _ _ _ _ _ d (by decide)
  have p := enc_pg _ _ _ _ _ d
  rw [← e] at g p
  exact ⟨p, by have := g.2.1; omega, g.2.2⟩
theorem touch_xor (x : BitVec 64) (h : tB x = true) : tW x ^^^ x = 1024#64 := by
  have f := (touched x h).2.2.1
  rw [tops_yes x h]
  apply BitVec.eq_of_getLsbD_eq
  intro i hi
  rw [BitVec.getLsbD_xor, BitVec.getLsbD_or, k1024_bit]
  by_cases c : i = 10
  · subst c; rw [← flg_bit, f]; rfl
  · simp [c]
theorem again_no (x : BitVec 64) : tB (tW x) = false := by
  cases h : tB x with
  | true =>
    have := (touched_fields x h).2.2.1
    simp [tB, this]
  | false => rw [tops_no x h, h]
theorem dif_self (a : BitVec 64) : dif a a = false := by simp [dif]
theorem dif_swap (a b : BitVec 64) : dif a b = dif b a := by
  unfold dif
  rw [Bool.and_comm (pg a)]
  congr 2
  rw [decide_eq_decide]
  exact eq_comm
theorem dif_touch (x : BitVec 64) : dif x (tW x) = false := by
  cases h : tB x with
  | true =>
    have := (touched_fields x h).2.1
    simp [dif, this]
  | false => rw [tops_no x h, dif_self]
theorem one_word (k f f' : Int) (af ro us ng af' ro' us' ng' : Bool) (h : DOk k f af ro us ng) (h' : DOk k f' af' ro' us' ng') (e : encW k f af ro us ng = encW k f' af' ro' us' ng') :
    f = f' ∧ af = af' ∧ ro = ro' ∧ us = us' ∧ ng = ng' := by
  by_cases hk : k = 0
  · subst hk
    obtain ⟨rfl, rfl, rfl, rfl, rfl⟩ := enc_zero f af ro us ng h
    obtain ⟨rfl, rfl, rfl, rfl, rfl⟩ := enc_zero f' af' ro' us' ng' h'
    exact ⟨rfl, rfl, rfl, rfl, rfl⟩
  · have g := enc_fields k f af ro us ng h hk
    have g' := enc_fields k f' af' ro' us' ng' h' hk
    rw [e] at g
    exact ⟨g.2.1.symm.trans g'.2.1, g.2.2.1.symm.trans g'.2.2.1, g.2.2.2.1.symm.trans g'.2.2.2.1, g.2.2.2.2.1.symm.trans g'.2.2.2.2.1, g.2.2.2.2.2.symm.trans g'.2.2.2.2.2⟩
theorem dif_enc (f f' : Int) (af ro us ng af' ro' us' ng' : Bool) (h : DOk 2 f af ro us ng) (h' : DOk 2 f' af' ro' us' ng') :
    dif (encW 2 f af ro us ng) (encW 2 f' af' ro' us' ng') = !decide (f = f') := by
  have g := (enc_fields 2 f af ro us ng h (by decide)).2.1
  have g' := (enc_fields 2 f' af' ro' us' ng' h' (by decide)).2.1
  unfold dif
  rw [enc_pg _ _ _ _ _ h, enc_pg _ _ _ _ _ h', Bool.true_and, Bool.true_and]
  congr 1
  rw [decide_eq_decide]
  omega
end Go.Proofs.YtpdgajlookhpfaaDoor
