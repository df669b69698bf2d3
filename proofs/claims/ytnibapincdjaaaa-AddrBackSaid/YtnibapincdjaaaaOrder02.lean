/-
  AddrOrder returns true. No condition.
-/
import Derived.Test.YtnibapincdjaaaaWakes02
namespace Go.Proofs.Ytnibapincdjaaaa
open Go Go.RowKit

theorem page_of (a : Int) (h : (Lit.int .u64 a).wf = true) : ∃ A : Nat, A < 34359738368 ∧ a % 34359738368 = (A : Int) := by
  have h' : 0 ≤ a ∧ a < 18446744073709551616 := by
    simp [Lit.wf, IntKind.min, IntKind.max, IntKind.bits, IntKind.signed] at h
    omega
  exact ⟨(a % 34359738368).toNat, by omega, by omega⟩
theorem place_of (a : Int) (n : Int) (h1 : 0 < n) (h2 : n < 4097) (h : (Lit.int .i64 a).wf = true) : ∃ k : Nat, (k : Int) < n ∧ (wrap64 (a.tmod n + n)).tmod n = (k : Int) := by
  have h' := i64_of a h
  have hb : -n < a.tmod n ∧ a.tmod n < n := by
    rw [Int.tmod_eq_emod]
    have l1 := Int.emod_lt_of_pos a h1
    have l2 := Int.emod_nonneg a (show n ≠ 0 by omega)
    split <;> omega
  have e : a.tmod n + n = wrap64 (a.tmod n + n) := by unfold wrap64; omega
  rw [← e, Int.tmod_eq_emod_of_nonneg (by omega)]
  have l1 := Int.emod_lt_of_pos (a.tmod n + n) h1
  have l2 := Int.emod_nonneg (a.tmod n + n) (show n ≠ 0 by omega)
  exact ⟨((a.tmod n + n) % n).toNat, by omega, by omega⟩
theorem va_ok (A q V : Nat) (w : World) (hA : A < 34359738368) (hq : q < 512) (hV : V = A * 4096 + q * 8) :
    Calls Try.prog 9 #[.int .u64 A, .int .i64 q] w fun e w' => e = .returned (.tuple #[.int .u64 V, .int .i64 0]) ∧ w = w' := by
  have g : VaOk (BitVec.ofNat 64 A) q := by unfold VaOk; rw [ofN _ (by omega)]; omega
  have h := va_any (BitVec.ofNat 64 A) q w
  have e1 : vaE (BitVec.ofNat 64 A) q = 0 := if_pos g
  rw [va_yes_nat _ _ g, e1, ofN _ (by omega)] at h
  subst hV; exact h
theorem orderLt (a0 a1 a2 a3 : Int) (A B x y P Q : Nat) (hA : a0 % 34359738368 = (A : Int)) (hB : a1 % 34359738368 = (B : Int)) (hx : (wrap64 (a2.tmod 512 + 512)).tmod 512 = (x : Int)) (hy : (wrap64 (a3.tmod 512 + 512)).tmod 512 = (y : Int))
    (lA : Hid (A < 34359738368)) (lB : Hid (B < 34359738368)) (lx : Hid (x < 512)) (ly : Hid (y < 512)) (hP : Hid (P = A * 4096 + x * 8)) (hQ : Hid (Q = B * 4096 + y * 8)) (s0 : 0 ≤ a0) (s1 : 0 ≤ a1) (c1 : A < B) (c2 : P < Q) (w : World) :
    Calls Try.prog 8 #[.int .u64 a0, .int .u64 a1, .int .i64 a2, .int .i64 a3] w fun e w' => e = .returned (.bool true) ∧ Kp w w' := by
  have nA : ((A : Int) == (B : Int)) = false := by rw [beq_eq_false_iff_ne]; omega
  have nP : ((P : Int) == (Q : Int)) = false := by rw [beq_eq_false_iff_ne]; omega
  go_enter Try.func8, Try.ntmps8
  go_wp2_with fail
  refine (va_ok A x P _ lA.out lx.out hP.out).mono ?_; rintro e w1 ⟨rfl, rfl⟩
  go_wp2_with fail
  refine (va_ok B y Q _ lB.out ly.out hQ.out).mono ?_; rintro e w2 ⟨rfl, rfl⟩
  go_wp2_with fail
  refine (wakes_any _).mono ?_; rintro e w3 ⟨rfl, hg⟩
  have H3 := Lib.hid hg; clear hg
  go_wp2_with fail
  go_ret
  exact ⟨rfl, (by (repeat (first | apply Kp.drew | apply Kp.alloc)); refine Kp.trans ?_ H3.out; (repeat (first | apply Kp.drew | apply Kp.alloc)); exact Kp.refl _)⟩
theorem orderGt (a0 a1 a2 a3 : Int) (A B x y P Q : Nat) (hA : a0 % 34359738368 = (A : Int)) (hB : a1 % 34359738368 = (B : Int)) (hx : (wrap64 (a2.tmod 512 + 512)).tmod 512 = (x : Int)) (hy : (wrap64 (a3.tmod 512 + 512)).tmod 512 = (y : Int))
    (lA : Hid (A < 34359738368)) (lB : Hid (B < 34359738368)) (lx : Hid (x < 512)) (ly : Hid (y < 512)) (hP : Hid (P = A * 4096 + x * 8)) (hQ : Hid (Q = B * 4096 + y * 8)) (s0 : 0 ≤ a0) (s1 : 0 ≤ a1) (c1 : B < A) (c2 : Q < P) (w : World) :
    Calls Try.prog 8 #[.int .u64 a0, .int .u64 a1, .int .i64 a2, .int .i64 a3] w fun e w' => e = .returned (.bool true) ∧ Kp w w' := by
  have nA : ((A : Int) == (B : Int)) = false := by rw [beq_eq_false_iff_ne]; omega
  have nP : ((P : Int) == (Q : Int)) = false := by rw [beq_eq_false_iff_ne]; omega
  go_enter Try.func8, Try.ntmps8
  go_wp2_with fail
  refine (va_ok A x P _ lA.out lx.out hP.out).mono ?_; rintro e w1 ⟨rfl, rfl⟩
  go_wp2_with fail
  refine (va_ok B y Q _ lB.out ly.out hQ.out).mono ?_; rintro e w2 ⟨rfl, rfl⟩
  go_wp2_with fail
  refine (wakes_any _).mono ?_; rintro e w3 ⟨rfl, hg⟩
  have H3 := Lib.hid hg; clear hg
  go_wp2_with fail
  go_ret
  exact ⟨rfl, (by (repeat (first | apply Kp.drew | apply Kp.alloc)); refine Kp.trans ?_ H3.out; (repeat (first | apply Kp.drew | apply Kp.alloc)); exact Kp.refl _)⟩
theorem orderLtP (a0 a1 a2 a3 : Int) (A x y P Q : Nat) (hA : a0 % 34359738368 = (A : Int)) (hB : a1 % 34359738368 = (A : Int)) (hx : (wrap64 (a2.tmod 512 + 512)).tmod 512 = (x : Int)) (hy : (wrap64 (a3.tmod 512 + 512)).tmod 512 = (y : Int))
    (lA : Hid (A < 34359738368)) (lB : Hid (A < 34359738368)) (lx : Hid (x < 512)) (ly : Hid (y < 512)) (hP : Hid (P = A * 4096 + x * 8)) (hQ : Hid (Q = A * 4096 + y * 8)) (s0 : 0 ≤ a0) (s1 : 0 ≤ a1) (c1 : x < y) (c2 : P < Q) (w : World) :
    Calls Try.prog 8 #[.int .u64 a0, .int .u64 a1, .int .i64 a2, .int .i64 a3] w fun e w' => e = .returned (.bool true) ∧ Kp w w' := by
  have nx : ((x : Int) == (y : Int)) = false := by rw [beq_eq_false_iff_ne]; omega
  have nP : ((P : Int) == (Q : Int)) = false := by rw [beq_eq_false_iff_ne]; omega
  go_enter Try.func8, Try.ntmps8
  go_wp2_with fail
  refine (va_ok A x P _ lA.out lx.out hP.out).mono ?_; rintro e w1 ⟨rfl, rfl⟩
  go_wp2_with fail
  refine (va_ok A y Q _ lB.out ly.out hQ.out).mono ?_; rintro e w2 ⟨rfl, rfl⟩
  go_wp2_with fail
  refine (wakes_any _).mono ?_; rintro e w3 ⟨rfl, hg⟩
  have H3 := Lib.hid hg; clear hg
  go_wp2_with fail
  go_ret
  exact ⟨rfl, (by (repeat (first | apply Kp.drew | apply Kp.alloc)); refine Kp.trans ?_ H3.out; (repeat (first | apply Kp.drew | apply Kp.alloc)); exact Kp.refl _)⟩
theorem orderGtP (a0 a1 a2 a3 : Int) (A x y P Q : Nat) (hA : a0 % 34359738368 = (A : Int)) (hB : a1 % 34359738368 = (A : Int)) (hx : (wrap64 (a2.tmod 512 + 512)).tmod 512 = (x : Int)) (hy : (wrap64 (a3.tmod 512 + 512)).tmod 512 = (y : Int))
    (lA : Hid (A < 34359738368)) (lB : Hid (A < 34359738368)) (lx : Hid (x < 512)) (ly : Hid (y < 512)) (hP : Hid (P = A * 4096 + x * 8)) (hQ : Hid (Q = A * 4096 + y * 8)) (s0 : 0 ≤ a0) (s1 : 0 ≤ a1) (c1 : y < x) (c2 : Q < P) (w : World) :
    Calls Try.prog 8 #[.int .u64 a0, .int .u64 a1, .int .i64 a2, .int .i64 a3] w fun e w' => e = .returned (.bool true) ∧ Kp w w' := by
  have nx : ((x : Int) == (y : Int)) = false := by rw [beq_eq_false_iff_ne]; omega
  have nP : ((P : Int) == (Q : Int)) = false := by rw [beq_eq_false_iff_ne]; omega
  go_enter Try.func8, Try.ntmps8
  go_wp2_with fail
  refine (va_ok A x P _ lA.out lx.out hP.out).mono ?_; rintro e w1 ⟨rfl, rfl⟩
  go_wp2_with fail
  refine (va_ok A y Q _ lB.out ly.out hQ.out).mono ?_; rintro e w2 ⟨rfl, rfl⟩
  go_wp2_with fail
  refine (wakes_any _).mono ?_; rintro e w3 ⟨rfl, hg⟩
  have H3 := Lib.hid hg; clear hg
  go_wp2_with fail
  go_ret
  exact ⟨rfl, (by (repeat (first | apply Kp.drew | apply Kp.alloc)); refine Kp.trans ?_ H3.out; (repeat (first | apply Kp.drew | apply Kp.alloc)); exact Kp.refl _)⟩
theorem orderEq (a0 a1 a2 a3 : Int) (A x P : Nat) (hA : a0 % 34359738368 = (A : Int)) (hB : a1 % 34359738368 = (A : Int)) (hx : (wrap64 (a2.tmod 512 + 512)).tmod 512 = (x : Int)) (hy : (wrap64 (a3.tmod 512 + 512)).tmod 512 = (x : Int))
    (lA : Hid (A < 34359738368)) (lB : Hid (A < 34359738368)) (lx : Hid (x < 512)) (ly : Hid (x < 512)) (hP : Hid (P = A * 4096 + x * 8)) (hQ : Hid (P = A * 4096 + x * 8)) (s0 : 0 ≤ a0) (s1 : 0 ≤ a1)  (w : World) :
    Calls Try.prog 8 #[.int .u64 a0, .int .u64 a1, .int .i64 a2, .int .i64 a3] w fun e w' => e = .returned (.bool true) ∧ Kp w w' := by
  go_enter Try.func8, Try.ntmps8
  go_wp2_with fail
  refine (va_ok A x P _ lA.out lx.out hP.out).mono ?_; rintro e w1 ⟨rfl, rfl⟩
  go_wp2_with fail
  refine (va_ok A x P _ lB.out ly.out hQ.out).mono ?_; rintro e w2 ⟨rfl, rfl⟩
  go_wp2_with fail
  refine (wakes_any _).mono ?_; rintro e w3 ⟨rfl, hg⟩
  have H3 := Lib.hid hg; clear hg
  go_wp2_with fail
  go_ret
  exact ⟨rfl, (by (repeat (first | apply Kp.drew | apply Kp.alloc)); refine Kp.trans ?_ H3.out; (repeat (first | apply Kp.drew | apply Kp.alloc)); exact Kp.refl _)⟩
theorem walkOrder (a0 a1 a2 a3 : Int) (w0 : (Lit.int .u64 a0).wf = true) (w1 : (Lit.int .u64 a1).wf = true) (w2 : (Lit.int .i64 a2).wf = true) (w3 : (Lit.int .i64 a3).wf = true) (w : World) :
    Calls Try.prog 8 #[.int .u64 a0, .int .u64 a1, .int .i64 a2, .int .i64 a3] w fun e w' => e = .returned (.bool true) ∧ Kp w w' := by
  obtain ⟨A, lA, hA⟩ := page_of a0 w0
  obtain ⟨B, lB, hB⟩ := page_of a1 w1
  obtain ⟨x, lx, hx⟩ := place_of a2 512 (by decide) (by decide) w2
  obtain ⟨y, ly, hy⟩ := place_of a3 512 (by decide) (by decide) w3
  have s0 : 0 ≤ a0 := by obtain ⟨z, rfl⟩ := word_of a0 w0; omega
  have s1 : 0 ≤ a1 := by obtain ⟨z, rfl⟩ := word_of a1 w1; omega
  obtain ⟨P, hP⟩ : ∃ P, P = A * 4096 + x * 8 := ⟨_, rfl⟩
  obtain ⟨Q, hQ⟩ : ∃ Q, Q = B * 4096 + y * 8 := ⟨_, rfl⟩
  have lx' : x < 512 := by omega
  have ly' : y < 512 := by omega
  by_cases c : A < B
  · exact orderLt a0 a1 a2 a3 A B x y P Q hA hB hx hy (Lib.hid lA) (Lib.hid lB) (Lib.hid lx') (Lib.hid ly') (Lib.hid hP) (Lib.hid hQ) s0 s1 c (by omega) w
  by_cases c2 : B < A
  · exact orderGt a0 a1 a2 a3 A B x y P Q hA hB hx hy (Lib.hid lA) (Lib.hid lB) (Lib.hid lx') (Lib.hid ly') (Lib.hid hP) (Lib.hid hQ) s0 s1 c2 (by omega) w
  obtain rfl : A = B := by omega
  by_cases d : x < y
  · exact orderLtP a0 a1 a2 a3 A x y P Q hA hB hx hy (Lib.hid lA) (Lib.hid lB) (Lib.hid lx') (Lib.hid ly') (Lib.hid hP) (Lib.hid hQ) s0 s1 d (by omega) w
  by_cases d2 : y < x
  · exact orderGtP a0 a1 a2 a3 A x y P Q hA hB hx hy (Lib.hid lA) (Lib.hid lB) (Lib.hid lx') (Lib.hid ly') (Lib.hid hP) (Lib.hid hQ) s0 s1 d2 (by omega) w
  obtain rfl : x = y := by omega
  obtain rfl : P = Q := by omega
  exact orderEq a0 a1 a2 a3 A x P hA hB hx hy (Lib.hid lA) (Lib.hid lB) (Lib.hid lx') (Lib.hid ly') (Lib.hid hP) (Lib.hid hQ) s0 s1 w
end Go.Proofs.Ytnibapincdjaaaa
