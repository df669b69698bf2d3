/-
  AddrPrefixes returns true. No condition.
-/
import Derived.Test.YtnibapincdjaaaaOrder02
namespace Go.Proofs.Ytnibapincdjaaaa
open Go Go.RowKit

theorem i64_and3 (n : Int) : bits .and .i64 n 3 = n % 4 := by
  have h3 : (BitVec.ofInt 64 3).toNat = 2 ^ 2 - 1 := by decide
  have key : (BitVec.ofInt 64 n &&& BitVec.ofInt 64 3).toNat = (n % ((2 ^ 64 : Nat) : Int)).toNat % 2 ^ 2 := by
    rw [BitVec.toNat_and, BitVec.toNat_ofInt, h3, Nat.and_two_pow_sub_one_eq_mod]
  show IntKind.i64.wrap ((BitVec.ofInt 64 n &&& BitVec.ofInt 64 3).toNat : Nat) = n % 4
  rw [key, IntKind.wrap_i64]
  omega
theorem level_of (n : Int) : ∃ l : Nat, l < 4 ∧ bits .and .i64 n 3 = (l : Int) := ⟨(n % 4).toNat, by omega, by rw [i64_and3]; omega⟩
theorem lev_ok (A k : Nat) (hA : A < 34359738368) (hk : k < 4) : LevOk (BitVec.ofNat 64 A) k := by unfold LevOk; rw [ofN _ (by omega)]; omega
theorem index_ok (A k I : Nat) (w : World) (hA : A < 34359738368) (hk : k < 4) (hI : I = preN A k % 512) :
    Calls Try.prog 20 #[.int .u64 A, .int .i64 k] w fun e w' => e = .returned (.tuple #[.int .i64 I, .int .i64 0]) ∧ Kp w w' := by
  have g := lev_ok A k hA hk
  have h := index_any (BitVec.ofNat 64 A) k w
  have e1 : levE (BitVec.ofNat 64 A) k = 0 := if_pos g
  have e2 : idxV (BitVec.ofNat 64 A) k = ((preN (BitVec.ofNat 64 A).toNat k % 512 : Nat) : Int) := if_pos g
  rw [e1, e2, ofN _ (by omega)] at h
  subst hI; exact h
theorem prefix_ok (A k I : Nat) (w : World) (hA : A < 34359738368) (hk : k < 4) (hI : I = preN A k) :
    Calls Try.prog 22 #[.int .u64 A, .int .i64 k] w fun e w' => e = .returned (.tuple #[.int .u64 I, .int .i64 0]) ∧ Kp w w' := by
  have g := lev_ok A k hA hk
  have h := prefix_any (BitVec.ofNat 64 A) k w
  have e1 : levE (BitVec.ofNat 64 A) k = 0 := if_pos g
  rw [e1, pre_nat _ _ g, ofN _ (by omega)] at h
  subst hI; exact h
/-- The indices of two pages are the same below the level k. -/
def sameB (A B k : Nat) : Bool := decide (∀ j, j < k → preN A j % 512 = preN B j % 512)
theorem sameB_none (A B : Nat) : sameB A B 0 = true := by unfold sameB; simp
theorem sameB_yes (A B k : Nat) (h : sameB A B k = true) (e : preN A k % 512 = preN B k % 512) : sameB A B (k + 1) = true := by
  unfold sameB at *
  rw [decide_eq_true_eq] at *
  intro j hj
  by_cases c : j = k
  · rw [c]; exact e
  · exact h j (by omega)
theorem sameB_no (A B k : Nat) (e : ¬ preN A k % 512 = preN B k % 512) : sameB A B (k + 1) = false := by
  unfold sameB
  rw [decide_eq_false_iff_not]
  exact fun h => e (h k (by omega))
theorem sameB_not (A B k : Nat) (h : sameB A B k = false) : sameB A B (k + 1) = false := by
  unfold sameB at *
  rw [decide_eq_false_iff_not] at *
  exact fun g => h fun j hj => g j (by omega)
theorem same_end (A B l : Nat) (hA : A < 34359738368) (hB : B < 34359738368) (hl : l < 4) : sameB A B (l + 1) = decide (preN A l = preN B l) := by
  unfold sameB
  rw [decide_eq_decide]
  constructor
  · intro h
    have h0 := h 0 (by omega)
    unfold preN at *
    obtain rfl | rfl | rfl | rfl : l = 0 ∨ l = 1 ∨ l = 2 ∨ l = 3 := by omega
    · omega
    · have h1 := h 1 (by omega); omega
    · have h1 := h 1 (by omega); have h2 := h 2 (by omega); omega
    · have h1 := h 1 (by omega); have h2 := h 2 (by omega); have h3 := h 3 (by omega); omega
  · intro h j hj
    unfold preN at *
    have e : ∀ X : Nat, X / 2 ^ (9 * (3 - j)) = X / 2 ^ (9 * (3 - l)) / 2 ^ (9 * (l - j)) := by
      intro X
      rw [Nat.div_div_eq_div_mul, ← Nat.pow_add]
      congr 2; omega
    rw [e A, e B, h]
theorem walkPrefixes (a0 a1 a2 : Int) (w0 : (Lit.int .u64 a0).wf = true) (w1 : (Lit.int .u64 a1).wf = true) (w : World) :
    Calls Try.prog 7 #[.int .u64 a0, .int .u64 a1, .int .i64 a2] w fun e w' => e = .returned (.bool true) ∧ Kp w w' := by
  obtain ⟨A, lA, hA⟩ := page_of a0 w0
  obtain ⟨B, lB, hB⟩ := page_of a1 w1
  obtain ⟨l, hl, hL⟩ := level_of a2
  have s0 : 0 ≤ a0 := by obtain ⟨z, rfl⟩ := word_of a0 w0; omega
  have s1 : 0 ≤ a1 := by obtain ⟨z, rfl⟩ := word_of a1 w1; omega
  obtain ⟨X, hX⟩ : ∃ X, X = preN A l := ⟨_, rfl⟩
  obtain ⟨Y, hY⟩ : ∃ Y, Y = preN B l := ⟨_, rfl⟩
  have HE := Lib.hid (same_end A B l lA lB hl)
  have LA := Lib.hid lA
  have LB := Lib.hid lB
  have HX := Lib.hid hX
  have HY := Lib.hid hY
  have HN := Lib.hid (sameB_none A B)
  clear lA lB hX hY w0 w1
  go_enter Try.func7, Try.ntmps7
  go_wp2_with fail
  refine (prefix_ok A l X _ LA.out hl HX.out).mono ?_; rintro e w1 ⟨rfl, hg⟩
  have H1 := Lib.hid hg; clear hg
  go_wp2_with fail
  refine (prefix_ok B l Y _ LB.out hl HY.out).mono ?_; rintro e w2 ⟨rfl, hg⟩
  have H2 := Lib.hid hg; clear hg
  go_wp2_with fail
  go_loopw [11, 12] (fun s i wr => ∃ k : Nat, k ≤ l + 1 ∧ i = .int .i64 k ∧ s = .bool (sameB A B k) ∧ Kp w wr) (fun _ i _ => l + 1 - (intOf i).toNat)
  case atStart => exact ⟨0, by omega, rfl, by rw [HN.out], Kp.trans H1.out H2.out⟩
  case round =>
    obtain ⟨k, hk, rfl, rfl, hg⟩ := hrel
    have HG := Lib.hid hg; clear hg
    by_cases hlt : k ≤ l
    · have hk4 : k < 4 := by omega
      obtain ⟨I, hI⟩ : ∃ I, I = preN A k % 512 := ⟨_, rfl⟩
      obtain ⟨J, hJ⟩ : ∃ J, J = preN B k % 512 := ⟨_, rfl⟩
      have RI := Lib.hid hI
      have RJ := Lib.hid hJ
      by_cases hs : sameB A B k = true
      · by_cases hij : I = J
        · have E := Lib.hid (sameB_yes A B k hs (by rw [← hI, ← hJ, hij]))
          clear hI hJ
          subst hij
          go_wp2_with fail
          refine (index_ok A k I _ LA.out hk4 RI.out).mono ?_; rintro e w3 ⟨rfl, hg⟩
          have H3 := Lib.hid hg; clear hg
          go_wp2_with fail
          refine (index_ok B k I _ LB.out hk4 RJ.out).mono ?_; rintro e w4 ⟨rfl, hg⟩
          have H4 := Lib.hid hg; clear hg
          go_wp2_with fail
          go_roundw
          case rel => exact ⟨k + 1, by omega, by go_num, by rw [E.out], Kp.trans HG.out (by (repeat (first | apply Kp.drew | apply Kp.alloc)); refine Kp.trans ?_ H4.out; (repeat (first | apply Kp.drew | apply Kp.alloc)); refine Kp.trans ?_ H3.out; (repeat (first | apply Kp.drew | apply Kp.alloc)); exact Kp.refl _)⟩
          case measure => simp [intOf]; omega
        · have E := Lib.hid (sameB_no A B k (by rw [← hI, ← hJ]; exact hij))
          clear hI hJ
          have nij : ((I : Int) == (J : Int)) = false := by rw [beq_eq_false_iff_ne]; omega
          go_wp2_with fail
          refine (index_ok A k I _ LA.out hk4 RI.out).mono ?_; rintro e w5 ⟨rfl, hg⟩
          have H5 := Lib.hid hg; clear hg
          go_wp2_with fail
          refine (index_ok B k J _ LB.out hk4 RJ.out).mono ?_; rintro e w6 ⟨rfl, hg⟩
          have H6 := Lib.hid hg; clear hg
          go_wp2_with fail
          go_roundw
          case rel => exact ⟨k + 1, by omega, by go_num, by rw [E.out], Kp.trans HG.out (by (repeat (first | apply Kp.drew | apply Kp.alloc)); refine Kp.trans ?_ H6.out; (repeat (first | apply Kp.drew | apply Kp.alloc)); refine Kp.trans ?_ H5.out; (repeat (first | apply Kp.drew | apply Kp.alloc)); exact Kp.refl _)⟩
          case measure => simp [intOf]; omega
      · have hs' : sameB A B k = false := by simpa using hs
        have E := Lib.hid (sameB_not A B k hs')
        clear hI hJ hs
        go_wp2_with fail
        refine (index_ok A k I _ LA.out hk4 RI.out).mono ?_; rintro e w7 ⟨rfl, hg⟩
        have H7 := Lib.hid hg; clear hg
        go_wp2_with fail
        refine (index_ok B k J _ LB.out hk4 RJ.out).mono ?_; rintro e w8 ⟨rfl, hg⟩
        have H8 := Lib.hid hg; clear hg
        go_wp2_with fail
        go_roundw
        case rel => exact ⟨k + 1, by omega, by go_num, by rw [E.out], Kp.trans HG.out (by (repeat (first | apply Kp.drew | apply Kp.alloc)); refine Kp.trans ?_ H8.out; (repeat (first | apply Kp.drew | apply Kp.alloc)); refine Kp.trans ?_ H7.out; (repeat (first | apply Kp.drew | apply Kp.alloc)); exact Kp.refl _)⟩
        case measure => simp [intOf]; omega
    · obtain rfl : k = l + 1 := by omega
      rw [HE.out, ← HX.out, ← HY.out]
      by_cases hxy : X = Y
      · subst hxy
        rw [decide_eq_true rfl]
        go_wp2_with fail
        refine (wakes_any _).mono ?_; rintro e w9 ⟨rfl, hg⟩
        have H9 := Lib.hid hg; clear hg
        go_wp2_with fail
        go_ret
        exact ⟨rfl, Kp.trans HG.out (by (repeat (first | apply Kp.drew | apply Kp.alloc)); refine Kp.trans ?_ H9.out; (repeat (first | apply Kp.drew | apply Kp.alloc)); exact Kp.refl _)⟩
      · have nxy : ((X : Int) == (Y : Int)) = false := by rw [beq_eq_false_iff_ne]; omega
        rw [decide_eq_false hxy]
        go_wp2_with fail
        refine (wakes_any _).mono ?_; rintro e w10 ⟨rfl, hg⟩
        have H10 := Lib.hid hg; clear hg
        go_wp2_with fail
        go_ret
        exact ⟨rfl, Kp.trans HG.out (by (repeat (first | apply Kp.drew | apply Kp.alloc)); refine Kp.trans ?_ H10.out; (repeat (first | apply Kp.drew | apply Kp.alloc)); exact Kp.refl _)⟩
end Go.Proofs.Ytnibapincdjaaaa
