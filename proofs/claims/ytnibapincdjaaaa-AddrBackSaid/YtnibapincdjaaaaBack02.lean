/-
  AddrBack returns true. No condition.
-/
import Derived.Test.YtnibapincdjaaaaPrefix02
import Derived.Test.YtnibapincdjaaaaBlk
namespace Go.Proofs.Ytnibapincdjaaaa
open Go Go.RowKit

theorem page_ok (V A : Nat) (w : World) (hV : V < 281474976710656) (hA : A = V / 4096) :
    Calls Try.prog 15 #[.int .u64 V] w fun e w' => e = .returned (.int .u64 A) ∧ Kp w w' := by
  have h := page_any (BitVec.ofNat 64 V) w
  rw [ofN _ (by omega)] at h
  subst hA; exact h
theorem place_ok (V A : Nat) (w : World) (hV : V < 281474976710656) (hA : A = V % 4096 / 8) :
    Calls Try.prog 17 #[.int .u64 V] w fun e w' => e = .returned (.int .i64 A) ∧ Kp w w' := by
  have h := place_any (BitVec.ofNat 64 V) w
  rw [ofN _ (by omega)] at h
  subst hA; exact h
theorem user_ok (V : Nat) (w : World) (hV : V < 140737488355328) :
    Calls Try.prog 11 #[.int .u64 V] w fun e w' => e = .returned (.bool true) ∧ Kp w w' := by
  have h := user_any (BitVec.ofNat 64 V) w
  have e : userB V = true := by unfold userB; rw [decide_eq_true_eq]; exact hV
  rw [ofN _ (by omega), e] at h
  exact h
theorem align_ok (V : Nat) (w : World) (hV : V < 281474976710656) (h8 : V % 8 = 0) :
    Calls Try.prog 13 #[.int .u64 V] w fun e w' => e = .returned (.bool true) ∧ Kp w w' := by
  have h := align_any (BitVec.ofNat 64 V) w
  have e : alignB V = true := by unfold alignB; rw [decide_eq_true_eq]; exact h8
  rw [ofN _ (by omega), e] at h
  exact h
theorem word_ok (f q V : Nat) (w : World) (hf : f ≤ 1048576) (hq : q < 512) (hV : V = f * 512 + q) :
    Calls Try.prog 26 #[.int .i64 f, .int .i64 q] w fun e w' => e = .returned (.tuple #[.int .u64 V, .int .i64 0]) ∧ w = w' := by
  have g : WordOk (f : Int) q := by unfold WordOk; omega
  have h := word_any f q w
  have e1 : wordE f q = 0 := if_pos g
  rw [word_nat _ _ g, e1] at h
  subst hV; exact h
theorem split_ok (f q V : Nat) (w : World) (hf : f ≤ 1048576) (hq : q < 512) (hV : V = f * 512 + q) :
    Calls Try.prog 28 #[.int .u64 V] w fun e w' => e = .returned (.tuple #[.int .i64 f, .int .i64 q]) ∧ Kp w w' := by
  have h := split_any (BitVec.ofNat 64 V) w
  have e1 : splitF V = (f : Int) := by unfold splitF; rw [if_pos (by omega)]; omega
  have e2 : splitP V = (q : Int) := by unfold splitP; rw [if_pos (by omega)]; omega
  rw [ofN _ (by omega), e1, e2] at h
  exact h
theorem from_back (A : Nat) (hA : A < 34359738368) (w : World) (a b c d : Nat) (ha : a = preN A 0 % 512) (hb : b = preN A 1 % 512) (hc : c = preN A 2 % 512) (hd : d = preN A 3 % 512) :
    Calls Try.prog 24 #[.agg #[.int .i64 a, .int .i64 b, .int .i64 c, .int .i64 d]] w fun e w' => e = .returned (.tuple #[.int .u64 A, .int .i64 0]) ∧ Kp w w' := by
  have wf : ∀ z : Nat, z < 512 → (Lit.int .i64 (z : Int)).wf = true := fun z hz => WalkArith.wf_i64 (by omega)
  have h := from_any a b c d w (wf a (by omega)) (wf b (by omega)) (wf c (by omega)) (wf d (by omega))
  unfold preN at *
  have g : FromOk (a : Int) b c d := by unfold FromOk idxOk; omega
  have e1 : fromE (a : Int) b c d = 0 := if_pos g
  have e2 : fromW (a : Int) b c d = partB a b c d 4 := if_pos g
  have e3 : (partB (a : Int) b c d 4).toNat = A := by
    simp only [partB, part]
    rw [ofN _ (by omega)]
    omega
  rw [e1, e2, e3] at h
  exact h
/-- The first k of four numbers, 0 from there on. -/
def upTo (I : Nat) (n k : Nat) : Int := if n < k then I else 0
def four (I0 I1 I2 I3 k : Nat) : Array Value := #[.int .i64 (upTo I0 0 k), .int .i64 (upTo I1 1 k), .int .i64 (upTo I2 2 k), .int .i64 (upTo I3 3 k)]
theorem walkBackA (a0 a1 a2 : Int) (A q f V W I0 I1 I2 I3 : Nat) (hA : a0 % 34359738368 = (A : Int)) (hq : (wrap64 (a1.tmod 512 + 512)).tmod 512 = (q : Int)) (hf : (wrap64 (a2.tmod 4096 + 4096)).tmod 4096 = (f : Int))
    (lA : Hid (A < 34359738368)) (lq : Hid (q < 512)) (lf : Hid (f < 4096)) (hV : Hid (V = A * 4096 + q * 8)) (hW : Hid (W = f * 512 + q)) (s0 : 0 ≤ a0)
    (i0 : Hid (I0 = preN A 0 % 512)) (i1 : Hid (I1 = preN A 1 % 512)) (i2 : Hid (I2 = preN A 2 % 512)) (i3 : Hid (I3 = preN A 3 % 512)) (w : World) :
    Calls Try.prog 6 #[.int .u64 a0, .int .i64 a1, .int .i64 a2] w fun e w' => e = .returned (.bool true) ∧ Kp w w' := by
  go_enter Try.func6, Try.ntmps6
  go_wp2_with fail
  refine (va_ok A q V _ lA.out lq.out hV.out).mono ?_; rintro e w1 ⟨rfl, rfl⟩
  go_wp2_with fail
  refine (word_ok f q W _ (by have := lf.out; omega) lq.out hW.out).mono ?_; rintro e w2 ⟨rfl, rfl⟩
  go_wp2_with fail
  refine (user_ok V _ (by have := lA.out; have := lq.out; have := hV.out; omega)).mono ?_; rintro e w3 ⟨rfl, hg⟩
  have H3 := Lib.hid hg; clear hg
  go_wp2_with fail
  refine (align_ok V _ (by have := lA.out; have := lq.out; have := hV.out; omega) (by have := lA.out; have := lq.out; have := hV.out; omega)).mono ?_; rintro e w4 ⟨rfl, hg⟩
  have H4 := Lib.hid hg; clear hg
  go_wp2_with fail
  refine (page_ok V A _ (by have := lA.out; have := lq.out; have := hV.out; omega) (by have := lA.out; have := lq.out; have := hV.out; omega)).mono ?_; rintro e w5 ⟨rfl, hg⟩
  have H5 := Lib.hid hg; clear hg
  go_wp2_with fail
  refine (place_ok V q _ (by have := lA.out; have := lq.out; have := hV.out; omega) (by have := lA.out; have := lq.out; have := hV.out; omega)).mono ?_; rintro e w6 ⟨rfl, hg⟩
  have H6 := Lib.hid hg; clear hg
  go_wp2_with fail
  go_loopw [12] (fun i wr => ∃ k : Nat, k ≤ 4 ∧ i = .int .i64 k ∧ Kp w wr ∧ Blk wr w6.heap.size (four I0 I1 I2 I3 k) 31) (fun i _ => 4 - (intOf i).toNat)
  case atStart => exact ⟨0, by omega, rfl, Kp.trans (by (repeat (first | apply Kp.drew | apply Kp.alloc)); refine Kp.trans ?_ H6.out; (repeat (first | apply Kp.drew | apply Kp.alloc)); refine Kp.trans ?_ H5.out; (repeat (first | apply Kp.drew | apply Kp.alloc)); refine Kp.trans ?_ H4.out; (repeat (first | apply Kp.drew | apply Kp.alloc)); refine Kp.trans ?_ H3.out; (repeat (first | apply Kp.drew | apply Kp.alloc)); exact Kp.refl _) ((Kp.refl _).alloc _ _), Blk.new _ _ _⟩
  case round =>
    obtain ⟨k, hk, rfl, hg, hb⟩ := hrel
    have hz : w.heap.size ≤ w6.heap.size := Kp.size (by (repeat (first | apply Kp.drew | apply Kp.alloc)); refine Kp.trans ?_ H6.out; (repeat (first | apply Kp.drew | apply Kp.alloc)); refine Kp.trans ?_ H5.out; (repeat (first | apply Kp.drew | apply Kp.alloc)); refine Kp.trans ?_ H4.out; (repeat (first | apply Kp.drew | apply Kp.alloc)); refine Kp.trans ?_ H3.out; (repeat (first | apply Kp.drew | apply Kp.alloc)); exact Kp.refl _)
    have HG := Lib.hid hg
    have HB := Lib.hid hb
    have HZ := Lib.hid hz
    clear hg hb hz
    by_cases h4 : k = 4
    · subst h4
      have c0 : wr.cell? ⟨w6.heap.size, 0, none⟩ = some (.int .i64 I0) := HB.out.cell 0
      have c1 : wr.cell? ⟨w6.heap.size, 1, none⟩ = some (.int .i64 I1) := HB.out.cell 1
      have c2 : wr.cell? ⟨w6.heap.size, 2, none⟩ = some (.int .i64 I2) := HB.out.cell 2
      have c3 : wr.cell? ⟨w6.heap.size, 3, none⟩ = some (.int .i64 I3) := HB.out.cell 3
      go_wp2_with fail
      refine (from_back A lA.out _ I0 I1 I2 I3 i0.out i1.out i2.out i3.out).mono ?_; rintro e w7 ⟨rfl, hg⟩
      have H7 := Lib.hid hg; clear hg
      clear c0 c1 c2 c3
      go_wp2_with fail
      refine (split_ok f q W _ (by have := lf.out; omega) lq.out hW.out).mono ?_; rintro e w8 ⟨rfl, hg⟩
      have H8 := Lib.hid hg; clear hg
      go_wp2_with fail
      refine (wakes_any _).mono ?_; rintro e w9 ⟨rfl, hg⟩
      have H9 := Lib.hid hg; clear hg
      go_wp2_with fail
      go_ret
      exact ⟨rfl, Kp.trans HG.out (by (repeat (first | apply Kp.drew | apply Kp.alloc)); refine Kp.trans ?_ H9.out; (repeat (first | apply Kp.drew | apply Kp.alloc)); refine Kp.trans ?_ H8.out; (repeat (first | apply Kp.drew | apply Kp.alloc)); refine Kp.trans ?_ H7.out; (repeat (first | apply Kp.drew | apply Kp.alloc)); exact Kp.refl _)⟩
    · obtain rfl | rfl | rfl | rfl : k = 0 ∨ k = 1 ∨ k = 2 ∨ k = 3 := by omega
      · clear h4
        go_wp2_with fail
        refine (index_ok A 0 I0 _ lA.out (by decide) i0.out).mono ?_; rintro e v1 ⟨rfl, hg⟩
        have G1 := Lib.hid hg; clear hg
        have hb := HB.out.kp G1.out
        have c : v1.cell? ⟨w6.heap.size, 0, none⟩ = some (.int .i64 0) := hb.cell 0
        have z : v1.frozen? ⟨w6.heap.size, 0, none⟩ = false := hb.frozen 0
        have HB1 := Lib.hid hb; clear hb
        go_wp2_with fail
        go_roundw
        case rel => exact ⟨1, by omega, by go_num, (Kp.trans HG.out G1.out).setCell HZ.out _, HB1.out.set 0 _⟩
        case measure => simp [intOf]
      · clear h4
        go_wp2_with fail
        refine (index_ok A 1 I1 _ lA.out (by decide) i1.out).mono ?_; rintro e v1 ⟨rfl, hg⟩
        have G1 := Lib.hid hg; clear hg
        have hb := HB.out.kp G1.out
        have c : v1.cell? ⟨w6.heap.size, 1, none⟩ = some (.int .i64 0) := hb.cell 1
        have z : v1.frozen? ⟨w6.heap.size, 1, none⟩ = false := hb.frozen 1
        have HB1 := Lib.hid hb; clear hb
        go_wp2_with fail
        go_roundw
        case rel => exact ⟨2, by omega, by go_num, (Kp.trans HG.out G1.out).setCell HZ.out _, HB1.out.set 1 _⟩
        case measure => simp [intOf]
      · clear h4
        go_wp2_with fail
        refine (index_ok A 2 I2 _ lA.out (by decide) i2.out).mono ?_; rintro e v1 ⟨rfl, hg⟩
        have G1 := Lib.hid hg; clear hg
        have hb := HB.out.kp G1.out
        have c : v1.cell? ⟨w6.heap.size, 2, none⟩ = some (.int .i64 0) := hb.cell 2
        have z : v1.frozen? ⟨w6.heap.size, 2, none⟩ = false := hb.frozen 2
        have HB1 := Lib.hid hb; clear hb
        go_wp2_with fail
        go_roundw
        case rel => exact ⟨3, by omega, by go_num, (Kp.trans HG.out G1.out).setCell HZ.out _, HB1.out.set 2 _⟩
        case measure => simp [intOf]
      · clear h4
        go_wp2_with fail
        refine (index_ok A 3 I3 _ lA.out (by decide) i3.out).mono ?_; rintro e v1 ⟨rfl, hg⟩
        have G1 := Lib.hid hg; clear hg
        have hb := HB.out.kp G1.out
        have c : v1.cell? ⟨w6.heap.size, 3, none⟩ = some (.int .i64 0) := hb.cell 3
        have z : v1.frozen? ⟨w6.heap.size, 3, none⟩ = false := hb.frozen 3
        have HB1 := Lib.hid hb; clear hb
        go_wp2_with fail
        go_roundw
        case rel => exact ⟨4, by omega, by go_num, (Kp.trans HG.out G1.out).setCell HZ.out _, HB1.out.set 3 _⟩
        case measure => simp [intOf]
theorem walkBack (a0 a1 a2 : Int) (w0 : (Lit.int .u64 a0).wf = true) (w1 : (Lit.int .i64 a1).wf = true) (w2 : (Lit.int .i64 a2).wf = true) (w : World) :
    Calls Try.prog 6 #[.int .u64 a0, .int .i64 a1, .int .i64 a2] w fun e w' => e = .returned (.bool true) ∧ Kp w w' := by
  obtain ⟨A, lA, hA⟩ := page_of a0 w0
  obtain ⟨q, lq, hq⟩ := place_of a1 512 (by decide) (by decide) w1
  obtain ⟨f, lf, hf⟩ := place_of a2 4096 (by decide) (by decide) w2
  have s0 : 0 ≤ a0 := by obtain ⟨z, rfl⟩ := word_of a0 w0; omega
  exact walkBackA a0 a1 a2 A q f _ _ _ _ _ _ hA hq hf (Lib.hid lA) (Lib.hid (by omega)) (Lib.hid (by omega)) (Lib.hid rfl) (Lib.hid rfl) s0 (Lib.hid rfl) (Lib.hid rfl) (Lib.hid rfl) (Lib.hid rfl) w
end Go.Proofs.Ytnibapincdjaaaa
