/-
  The document's own answer for addr's From. No condition.
-/
import Derived.Test.YtnibapincdjaaaaAddrFrom
namespace Go.Proofs.Ytnibapincdjaaaa
open Go Go.RowKit

def rpart (a b c d : Nat) : Nat → Nat
  | 0 => 0
  | 1 => a
  | 2 => a * 512 + b
  | 3 => (a * 512 + b) * 512 + c
  | _ => ((a * 512 + b) * 512 + c) * 512 + d
def rpartN (a b c d : Int) (k : Nat) : Nat := rpart a.toNat b.toNat c.toNat d.toNat k
def RFromAt (a b c d : Int) (k : Nat) : Prop := k ≤ 4 ∧ (0 < k → 0 ≤ a ∧ a < 256) ∧ (1 < k → idxOk b) ∧ (2 < k → idxOk c) ∧ (3 < k → idxOk d)
theorem rfrom_yes (a b c d : Int) (h : RFromAt a b c d 4) : ((fromW a b c d).toNat : Int) = rpartN a b c d 4 ∧ fromE a b c d = 0 := by
  have g : FromOk a b c d := ⟨h.2.1 (by decide), h.2.2.1 (by decide), h.2.2.2.1 (by decide), h.2.2.2.2 (by decide)⟩
  have e : fromW a b c d = partB a b c d 4 := if_pos g
  refine ⟨?_, if_pos g⟩
  rw [e]
  unfold FromOk idxOk at g
  simp only [partB, part, rpartN, rpart]
  rw [ofN _ (by omega)]
  omega
theorem rstep0 (a b c d : Int) (ha : idxOk a) : IntKind.u64.wrap (IntKind.u64.wrap ((rpartN a b c d 0 : Int) * 512) + a) = (rpartN a b c d 1 : Int) := by
  unfold idxOk at *
  simp only [rpartN, rpart]
  rw [IntKind.wrap_u64, IntKind.wrap_u64]
  omega
theorem rstep1 (a b c d : Int) (ha : idxOk a) (hb : idxOk b) : IntKind.u64.wrap (IntKind.u64.wrap ((rpartN a b c d 1 : Int) * 512) + b) = (rpartN a b c d 2 : Int) := by
  unfold idxOk at *
  simp only [rpartN, rpart]
  rw [IntKind.wrap_u64, IntKind.wrap_u64]
  omega
theorem rstep2 (a b c d : Int) (ha : idxOk a) (hb : idxOk b) (hc : idxOk c) : IntKind.u64.wrap (IntKind.u64.wrap ((rpartN a b c d 2 : Int) * 512) + c) = (rpartN a b c d 3 : Int) := by
  unfold idxOk at *
  simp only [rpartN, rpart]
  rw [IntKind.wrap_u64, IntKind.wrap_u64]
  omega
theorem rstep3 (a b c d : Int) (ha : idxOk a) (hb : idxOk b) (hc : idxOk c) (hd : idxOk d) : IntKind.u64.wrap (IntKind.u64.wrap ((rpartN a b c d 3 : Int) * 512) + d) = (rpartN a b c d 4 : Int) := by
  unfold idxOk at *
  simp only [rpartN, rpart]
  rw [IntKind.wrap_u64, IntKind.wrap_u64]
  omega
theorem rfrom_any (a b c d : Int) (w : World) :
    Calls Try.prog 25 #[.agg #[.int .i64 a, .int .i64 b, .int .i64 c, .int .i64 d]] w fun e w' => e = .returned (.tuple #[.int .u64 (fromW a b c d).toNat, .int .i64 (fromE a b c d)]) ∧ Kp w w' := by
  go_enter Try.func25, Try.ntmps25
  go_wp2
  go_loopw [4, 5] (fun pg i wr => ∃ k : Nat, RFromAt a b c d k ∧ i = .int .i64 k ∧ pg = .int .u64 (rpartN a b c d k) ∧ wr = (w.alloc (.cells #[.int .i64 a, .int .i64 b, .int .i64 c, .int .i64 d] 31))) (fun _ i _ => 4 - (intOf i).toNat)
  case atStart => exact ⟨0, by unfold RFromAt; omega, rfl, rfl, rfl⟩
  case round =>
    obtain ⟨k, hk, rfl, rfl, rfl⟩ := hrel
    have hk4 : k ≤ 4 := hk.1
    by_cases h4 : k = 4
    · subst h4
      have HE := Lib.hid (rfrom_yes a b c d hk); clear hk
      go_wp2_with fail
      go_ret2
      exact ⟨ret_pair HE.out.1.symm HE.out.2.symm, (Kp.refl _).alloc _ _⟩
    · obtain rfl | rfl | rfl | rfl : k = 0 ∨ k = 1 ∨ k = 2 ∨ k = 3 := by omega
      · have HK := Lib.hid hk; clear hk h4
        by_cases h : 0 ≤ a ∧ a < 256
        · have E := Lib.hid (rstep0 a b c d  ⟨h.1, by omega⟩)
          have HI := Lib.hid h
          obtain ⟨q0, q1⟩ := h
          have q2 : decide (a < 0) = false := by simp; omega
          have q3 : decide (511 < a) = false := by simp; omega
          go_wp2_with fail
          go_roundw
          case rel => exact ⟨1, by have := HK.out; have := HI.out; unfold RFromAt idxOk at *; simp_all, by go_num, by rw [← E.out], trivial⟩
          case measure => simp [intOf]
        · have HE := Lib.hid (from_no a b c d (by intro g; apply h; unfold FromOk at g; unfold idxOk at *; omega))
          by_cases b0 : a < 0
          · clear h
            have b1 : decide (a < 0) = true := by simp; omega
            go_wp2_with fail
            go_ret2
            exact ⟨ret_pair (by rw [HE.out.1]; rfl) (by rw [HE.out.2]), (Kp.refl _).alloc _ _⟩
          · have b1 : 0 ≤ a := by omega
            have b2 : 256 ≤ a := by omega
            clear h
            go_wp2_with fail
            all_goals
              go_ret2
              exact ⟨ret_pair (by rw [HE.out.1]; rfl) (by rw [HE.out.2]), (Kp.refl _).alloc _ _⟩
      · have HK := Lib.hid hk; clear hk h4
        by_cases h : 0 ≤ b ∧ b < 512
        · have E := Lib.hid (rstep1 a b c d (⟨(HK.out.2.1 (by decide)).1, by have := (HK.out.2.1 (by decide)).2; omega⟩) ⟨h.1, by omega⟩)
          have HI := Lib.hid h
          obtain ⟨q0, q1⟩ := h
          have q2 : decide (b < 0) = false := by simp; omega
          have q3 : decide (511 < b) = false := by simp; omega
          go_wp2_with fail
          go_roundw
          case rel => exact ⟨2, by have := HK.out; have := HI.out; unfold RFromAt idxOk at *; simp_all, by go_num, by rw [← E.out], trivial⟩
          case measure => simp [intOf]
        · have HE := Lib.hid (from_no a b c d (by intro g; apply h; unfold FromOk at g; unfold idxOk at *; omega))
          by_cases b0 : b < 0
          · clear h
            have b1 : decide (b < 0) = true := by simp; omega
            go_wp2_with fail
            go_ret2
            exact ⟨ret_pair (by rw [HE.out.1]; rfl) (by rw [HE.out.2]), (Kp.refl _).alloc _ _⟩
          · have b1 : 0 ≤ b := by omega
            have b2 : 512 ≤ b := by omega
            clear h
            go_wp2_with fail
            all_goals
              go_ret2
              exact ⟨ret_pair (by rw [HE.out.1]; rfl) (by rw [HE.out.2]), (Kp.refl _).alloc _ _⟩
      · have HK := Lib.hid hk; clear hk h4
        by_cases h : 0 ≤ c ∧ c < 512
        · have E := Lib.hid (rstep2 a b c d (⟨(HK.out.2.1 (by decide)).1, by have := (HK.out.2.1 (by decide)).2; omega⟩) (HK.out.2.2.1 (by decide)) ⟨h.1, by omega⟩)
          have HI := Lib.hid h
          obtain ⟨q0, q1⟩ := h
          have q2 : decide (c < 0) = false := by simp; omega
          have q3 : decide (511 < c) = false := by simp; omega
          go_wp2_with fail
          go_roundw
          case rel => exact ⟨3, by have := HK.out; have := HI.out; unfold RFromAt idxOk at *; simp_all, by go_num, by rw [← E.out], trivial⟩
          case measure => simp [intOf]
        · have HE := Lib.hid (from_no a b c d (by intro g; apply h; unfold FromOk at g; unfold idxOk at *; omega))
          by_cases b0 : c < 0
          · clear h
            have b1 : decide (c < 0) = true := by simp; omega
            go_wp2_with fail
            go_ret2
            exact ⟨ret_pair (by rw [HE.out.1]; rfl) (by rw [HE.out.2]), (Kp.refl _).alloc _ _⟩
          · have b1 : 0 ≤ c := by omega
            have b2 : 512 ≤ c := by omega
            clear h
            go_wp2_with fail
            all_goals
              go_ret2
              exact ⟨ret_pair (by rw [HE.out.1]; rfl) (by rw [HE.out.2]), (Kp.refl _).alloc _ _⟩
      · have HK := Lib.hid hk; clear hk h4
        by_cases h : 0 ≤ d ∧ d < 512
        · have E := Lib.hid (rstep3 a b c d (⟨(HK.out.2.1 (by decide)).1, by have := (HK.out.2.1 (by decide)).2; omega⟩) (HK.out.2.2.1 (by decide)) (HK.out.2.2.2.1 (by decide)) ⟨h.1, by omega⟩)
          have HI := Lib.hid h
          obtain ⟨q0, q1⟩ := h
          have q2 : decide (d < 0) = false := by simp; omega
          have q3 : decide (511 < d) = false := by simp; omega
          go_wp2_with fail
          go_roundw
          case rel => exact ⟨4, by have := HK.out; have := HI.out; unfold RFromAt idxOk at *; simp_all, by go_num, by rw [← E.out], trivial⟩
          case measure => simp [intOf]
        · have HE := Lib.hid (from_no a b c d (by intro g; apply h; unfold FromOk at g; unfold idxOk at *; omega))
          by_cases b0 : d < 0
          · clear h
            have b1 : decide (d < 0) = true := by simp; omega
            go_wp2_with fail
            go_ret2
            exact ⟨ret_pair (by rw [HE.out.1]; rfl) (by rw [HE.out.2]), (Kp.refl _).alloc _ _⟩
          · have b1 : 0 ≤ d := by omega
            have b2 : 512 ≤ d := by omega
            clear h
            go_wp2_with fail
            all_goals
              go_ret2
              exact ⟨ret_pair (by rw [HE.out.1]; rfl) (by rw [HE.out.2]), (Kp.refl _).alloc _ _⟩
end Go.Proofs.Ytnibapincdjaaaa
