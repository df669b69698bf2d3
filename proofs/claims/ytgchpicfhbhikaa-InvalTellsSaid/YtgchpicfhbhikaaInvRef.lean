/-
  The contracts of the document's Hits, HitsStep and Covers: they come to what package inval's do. No condition.
-/
import Derived.Test.YtgchpicfhbhikaaInvHits
import Derived.Test.YtgchpicfhbhikaaStill
namespace Go.Proofs.Ytgchpicfhbhikaa
open Go Go.RowKit

section
variable {k a : Int} {X : Nat} {b : Int} {p L : Nat}
theorem hb_true (m : MayP k a X) (h : k = 0 ∨ a = b ∧ (k = 1 ∨ X / 2 ^ L = p)) : true = hitsB k a X b p L := (decide_eq_true ⟨m, h⟩).symm
theorem hb_false (h : ¬ (k = 0 ∨ a = b ∧ (k = 1 ∨ X / 2 ^ L = p))) : false = hitsB k a X b p L := (decide_eq_false fun g => h g.2).symm
theorem hb_last (m : MayP k a X) (h0 : ¬ k = 0) (h1 : ¬ k = 1) (e : a = b) : ((X / 2 ^ L : Nat) == p) = hitsB k a X b p L := by
  unfold hitsB
  rw [Bool.eq_iff_iff, beq_iff_eq, decide_eq_true_eq]
  exact ⟨fun h => ⟨m, .inr ⟨e, .inr h⟩⟩, fun h => by
    rcases h.2 with g | ⟨_, g | g⟩
    · exact absurd g h0
    · exact absurd g h1
    · exact g⟩
theorem nat_beq (x y : Nat) : ((x : Int) == (y : Int)) = (x == y) := by
  rw [Bool.eq_iff_iff, beq_iff_eq, beq_iff_eq]; omega
end

theorem rhits_no (k a : Int) (X : Nat) (b : Int) (p : Nat) (f : Int) (r : Bool) (w : World) (m : ¬ MayP k a X) :
    Calls Try.prog 12 #[.agg #[.int .i8 k, .int .i64 a, .int .u64 X], .agg #[.int .i64 b, .int .u64 p, .int .i64 f, .bool r]] w fun e w' => e = .returned (.bool (hitsB k a X b p 0)) ∧ Kp w w' := by
  have r0 := Lib.hid (may_no m)
  have HR := Lib.hid (hb_no (b := b) (p := p) (L := 0) m)
  have HS := Lib.hid (h2_new (v0 := .int .i64 b) (v1 := .int .u64 p) (v2 := .int .i64 f) w k a X #[.int .i64 b, .int .u64 p, .int .i64 f, .bool r] 27 rfl rfl rfl)
  clear m
  rw [← HR.out]
  go_enter Try.func12, Try.ntmps12
  go_wp2_with fail
  refine (rmay_any k a X _).mono ?_; rintro e w1 ⟨rfl, hg⟩
  rw [r0.out]
  have hS := HS.out.kp hg
  have HS1 := Lib.hid hS
  obtain ⟨z0, z1, z2, y0, y1, y2, -⟩ := hS
  clear hg
  go_wp2_with fail
  go_ret
  exact ⟨rfl, HS1.out.2.2.2.2.2.2.2⟩

theorem rhits_all (k a : Int) (X : Nat) (b : Int) (p : Nat) (f : Int) (r : Bool) (w : World) (m : MayP k a X) (h0 : k = 0) :
    Calls Try.prog 12 #[.agg #[.int .i8 k, .int .i64 a, .int .u64 X], .agg #[.int .i64 b, .int .u64 p, .int .i64 f, .bool r]] w fun e w' => e = .returned (.bool (hitsB k a X b p 0)) ∧ Kp w w' := by
  have r0 := Lib.hid (may_yes m)
  have HR := Lib.hid (hb_true (b := b) (p := p) (L := 0) m (.inl h0))
  have HS := Lib.hid (h2_new (v0 := .int .i64 b) (v1 := .int .u64 p) (v2 := .int .i64 f) w k a X #[.int .i64 b, .int .u64 p, .int .i64 f, .bool r] 27 rfl rfl rfl)
  have q0 : (k == 0) = true := by simpa using h0
  clear m h0
  rw [← HR.out]
  go_enter Try.func12, Try.ntmps12
  go_wp2_with fail
  refine (rmay_any k a X _).mono ?_; rintro e w1 ⟨rfl, hg⟩
  rw [r0.out]
  have hS := HS.out.kp hg
  have HS1 := Lib.hid hS
  obtain ⟨z0, z1, z2, y0, y1, y2, -⟩ := hS
  clear hg
  go_wp2_with fail
  go_ret
  exact ⟨rfl, HS1.out.2.2.2.2.2.2.2⟩

theorem rhits_ne (k a : Int) (X : Nat) (b : Int) (p : Nat) (f : Int) (r : Bool) (w : World) (m : MayP k a X) (h0 : ¬ k = 0) (hn : ¬ a = b) :
    Calls Try.prog 12 #[.agg #[.int .i8 k, .int .i64 a, .int .u64 X], .agg #[.int .i64 b, .int .u64 p, .int .i64 f, .bool r]] w fun e w' => e = .returned (.bool (hitsB k a X b p 0)) ∧ Kp w w' := by
  have r0 := Lib.hid (may_yes m)
  have HR := Lib.hid (hb_false (k := k) (a := a) (b := b) (X := X) (p := p) (L := 0) (by omega))
  have HS := Lib.hid (h2_new (v0 := .int .i64 b) (v1 := .int .u64 p) (v2 := .int .i64 f) w k a X #[.int .i64 b, .int .u64 p, .int .i64 f, .bool r] 27 rfl rfl rfl)
  have q0 : (k == 0) = false := by simpa using h0
  have q1 : (a == b) = false := by simpa using hn
  clear m h0 hn
  rw [← HR.out]
  go_enter Try.func12, Try.ntmps12
  go_wp2_with fail
  refine (rmay_any k a X _).mono ?_; rintro e w1 ⟨rfl, hg⟩
  rw [r0.out]
  have hS := HS.out.kp hg
  have HS1 := Lib.hid hS
  obtain ⟨z0, z1, z2, y0, y1, y2, -⟩ := hS
  clear hg
  go_wp2_with fail
  go_ret
  exact ⟨rfl, HS1.out.2.2.2.2.2.2.2⟩

theorem rhits_asid (k a : Int) (X : Nat) (b : Int) (p : Nat) (f : Int) (r : Bool) (w : World) (m : MayP k a X) (h1 : k = 1) (hn : a = b) :
    Calls Try.prog 12 #[.agg #[.int .i8 k, .int .i64 a, .int .u64 X], .agg #[.int .i64 b, .int .u64 p, .int .i64 f, .bool r]] w fun e w' => e = .returned (.bool (hitsB k a X b p 0)) ∧ Kp w w' := by
  have r0 := Lib.hid (may_yes m)
  have HR := Lib.hid (hb_true (b := b) (p := p) (L := 0) m (.inr ⟨hn, .inl h1⟩))
  have HS := Lib.hid (h2_new (v0 := .int .i64 b) (v1 := .int .u64 p) (v2 := .int .i64 f) w k a X #[.int .i64 b, .int .u64 p, .int .i64 f, .bool r] 27 rfl rfl rfl)
  have q0 : (k == 0) = false := by simp; omega
  have q1 : (a == b) = true := by simpa using hn
  have q2 : (k == 1) = true := by simpa using h1
  clear m h1 hn
  rw [← HR.out]
  go_enter Try.func12, Try.ntmps12
  go_wp2_with fail
  refine (rmay_any k a X _).mono ?_; rintro e w1 ⟨rfl, hg⟩
  rw [r0.out]
  have hS := HS.out.kp hg
  have HS1 := Lib.hid hS
  obtain ⟨z0, z1, z2, y0, y1, y2, -⟩ := hS
  clear hg
  go_wp2_with fail
  go_ret
  exact ⟨rfl, HS1.out.2.2.2.2.2.2.2⟩

theorem rhits_page (k a : Int) (X : Nat) (b : Int) (p : Nat) (f : Int) (r : Bool) (w : World) (m : MayP k a X) (h0 : ¬ k = 0) (h1 : ¬ k = 1) (hn : a = b) :
    Calls Try.prog 12 #[.agg #[.int .i8 k, .int .i64 a, .int .u64 X], .agg #[.int .i64 b, .int .u64 p, .int .i64 f, .bool r]] w fun e w' => e = .returned (.bool (hitsB k a X b p 0)) ∧ Kp w w' := by
  have r0 := Lib.hid (may_yes m)
  have HR := Lib.hid (hb_last (p := p) (L := 0) m h0 h1 hn)
  have HS := Lib.hid (h2_new (v0 := .int .i64 b) (v1 := .int .u64 p) (v2 := .int .i64 f) w k a X #[.int .i64 b, .int .u64 p, .int .i64 f, .bool r] 27 rfl rfl rfl)
  have q0 : (k == 0) = false := by simpa using h0
  have q1 : (a == b) = true := by simpa using hn
  have q2 : (k == 1) = false := by simpa using h1
  clear m h0 h1 hn
  rw [← HR.out]
  go_enter Try.func12, Try.ntmps12
  go_wp2_with fail
  refine (rmay_any k a X _).mono ?_; rintro e w1 ⟨rfl, hg⟩
  rw [r0.out]
  have hS := HS.out.kp hg
  have HS1 := Lib.hid hS
  obtain ⟨z0, z1, z2, y0, y1, y2, -⟩ := hS
  clear hg
  go_wp2_with fail
  go_ret
  exact ⟨ret_bool (by rw [nat_beq]; simp), HS1.out.2.2.2.2.2.2.2⟩

theorem rhits_any (k a : Int) (X : Nat) (b : Int) (p : Nat) (f : Int) (r : Bool) (w : World) :
    Calls Try.prog 12 #[.agg #[.int .i8 k, .int .i64 a, .int .u64 X], .agg #[.int .i64 b, .int .u64 p, .int .i64 f, .bool r]] w fun e w' => e = .returned (.bool (hitsB k a X b p 0)) ∧ Kp w w' := by
  by_cases m : MayP k a X
  · by_cases h0 : k = 0
    · exact rhits_all k a X b p f r w m h0
    · by_cases hn : a = b
      · by_cases h1 : k = 1
        · exact rhits_asid k a X b p f r w m h1 hn
        · exact rhits_page k a X b p f r w m h0 h1 hn
      · exact rhits_ne k a X b p f r w m h0 hn
  · exact rhits_no k a X b p f r w m


/-! HitsStep -/
theorem prefix_any (X : Nat) (l : Int) (w : World) (h1 : 1 ≤ l) (h3 : l ≤ 3) :
    Calls Try.prog 23 #[.int .u64 X, .int .i8 l] w fun e w' => e = .returned (.int .u64 (X / 2 ^ lowN l : Nat)) ∧ Kp w w' := by
  obtain rfl | rfl | rfl : l = 1 ∨ l = 2 ∨ l = 3 := by omega
  · have R : Hid ((X : Int) / 262144 = (X / 2 ^ lowN 1 : Nat)) := Lib.hid (by rw [show lowN 1 = 18 from rfl]; omega)
    clear h1 h3
    go_enter Try.func23, Try.ntmps23
    go_wp2_with fail
    go_ret
    exact ⟨ret_int R.out, Kp.refl _⟩
  · have R : Hid ((X : Int) / 512 = (X / 2 ^ lowN 2 : Nat)) := Lib.hid (by rw [show lowN 2 = 9 from rfl]; omega)
    clear h1 h3
    go_enter Try.func23, Try.ntmps23
    go_wp2_with fail
    go_ret
    exact ⟨ret_int R.out, Kp.refl _⟩
  · have R : Hid ((X : Int) = (X / 2 ^ lowN 3 : Nat)) := Lib.hid (by rw [show lowN 3 = 0 from rfl]; simp)
    clear h1 h3
    go_enter Try.func23, Try.ntmps23
    go_wp2_with fail
    go_ret
    exact ⟨ret_int R.out, Kp.refl _⟩
theorem st_false {k a : Int} {X : Nat} {b l : Int} {p : Nat} (h0 : ¬ k = 0) (h : ¬ (1 ≤ l ∧ l ≤ 3) ∨ ¬ a = b) : false = stepB k a X b l p := by
  unfold stepB
  split
  · rename_i g
    exact hb_false (by omega)
  · exact (decide_eq_false fun h => h0 h.2).symm
theorem st_in {k a : Int} {X : Nat} {b l : Int} {p : Nat} (h1 : 1 ≤ l) (h3 : l ≤ 3) : stepB k a X b l p = hitsB k a X b p (lowN l) := if_pos ⟨h1, h3⟩
theorem st_true {k a : Int} {X : Nat} {b l : Int} {p : Nat} (m : MayP k a X) (h0 : k = 0) : true = stepB k a X b l p := by
  unfold stepB
  split
  · exact hb_true m (.inl h0)
  · exact (decide_eq_true ⟨m, h0⟩).symm
theorem st_no {k a : Int} {X : Nat} {b l : Int} {p : Nat} (m : ¬ MayP k a X) : false = stepB k a X b l p := by
  unfold stepB
  split
  · exact hb_no m
  · exact (decide_eq_false fun h => m h.1).symm

theorem rstep_no (k a : Int) (X : Nat) (b l : Int) (p : Nat) (f : Int) (w : World) (m : ¬ MayP k a X) :
    Calls Try.prog 14 #[.agg #[.int .i8 k, .int .i64 a, .int .u64 X], .agg #[.int .i64 b, .int .i8 l, .int .u64 p, .int .i64 f]] w fun e w' => e = .returned (.bool (stepB k a X b l p)) ∧ Kp w w' := by
  have r0 := Lib.hid (may_no m)
  have HR := Lib.hid (st_no (b := b) (l := l) (p := p) m)
  have HS := Lib.hid (h2_new (v0 := .int .i64 b) (v1 := .int .i8 l) (v2 := .int .u64 p) w k a X #[.int .i64 b, .int .i8 l, .int .u64 p, .int .i64 f] 29 rfl rfl rfl)
  clear m
  rw [← HR.out]
  go_enter Try.func14, Try.ntmps14
  go_wp2_with fail
  refine (rmay_any k a X _).mono ?_; rintro e w1 ⟨rfl, hg⟩
  rw [r0.out]
  have hS := HS.out.kp hg
  have HS1 := Lib.hid hS
  obtain ⟨z0, z1, z2, y0, y1, y2, -⟩ := hS
  clear hg
  go_wp2_with fail
  go_ret
  exact ⟨rfl, HS1.out.2.2.2.2.2.2.2⟩

theorem rstep_all (k a : Int) (X : Nat) (b l : Int) (p : Nat) (f : Int) (w : World) (m : MayP k a X) (h0 : k = 0) :
    Calls Try.prog 14 #[.agg #[.int .i8 k, .int .i64 a, .int .u64 X], .agg #[.int .i64 b, .int .i8 l, .int .u64 p, .int .i64 f]] w fun e w' => e = .returned (.bool (stepB k a X b l p)) ∧ Kp w w' := by
  have r0 := Lib.hid (may_yes m)
  have HR := Lib.hid (st_true (b := b) (l := l) (p := p) m h0)
  have q0 : (k == 0) = true := by simpa using h0
  have HS := Lib.hid (h2_new (v0 := .int .i64 b) (v1 := .int .i8 l) (v2 := .int .u64 p) w k a X #[.int .i64 b, .int .i8 l, .int .u64 p, .int .i64 f] 29 rfl rfl rfl)
  clear m h0
  rw [← HR.out]
  go_enter Try.func14, Try.ntmps14
  go_wp2_with fail
  refine (rmay_any k a X _).mono ?_; rintro e w1 ⟨rfl, hg⟩
  rw [r0.out]
  have hS := HS.out.kp hg
  have HS1 := Lib.hid hS
  obtain ⟨z0, z1, z2, y0, y1, y2, -⟩ := hS
  clear hg
  go_wp2_with fail
  go_ret
  exact ⟨rfl, HS1.out.2.2.2.2.2.2.2⟩

set_option maxHeartbeats 2000000 in
theorem rstep_low (k a : Int) (X : Nat) (b l : Int) (p : Nat) (f : Int) (w : World) (m : MayP k a X) (h0 : ¬ k = 0) (h : l < 1) :
    Calls Try.prog 14 #[.agg #[.int .i8 k, .int .i64 a, .int .u64 X], .agg #[.int .i64 b, .int .i8 l, .int .u64 p, .int .i64 f]] w fun e w' => e = .returned (.bool (stepB k a X b l p)) ∧ Kp w w' := by
  have r0 := Lib.hid (may_yes m)
  have HR := Lib.hid (st_false (a := a) (X := X) (b := b) (l := l) (p := p) h0 (.inl (by omega)))
  have q0 : (k == 0) = false := by simpa using h0
  have q1 : decide (1 ≤ l) = false := by simp; omega
  have HS := Lib.hid (h2_new (v0 := .int .i64 b) (v1 := .int .i8 l) (v2 := .int .u64 p) w k a X #[.int .i64 b, .int .i8 l, .int .u64 p, .int .i64 f] 29 rfl rfl rfl)
  clear m h0 h
  rw [← HR.out]
  go_enter Try.func14, Try.ntmps14
  go_wp2_with fail
  refine (rmay_any k a X _).mono ?_; rintro e w1 ⟨rfl, hg⟩
  rw [r0.out]
  have hS := HS.out.kp hg
  have HS1 := Lib.hid hS
  obtain ⟨z0, z1, z2, y0, y1, y2, -⟩ := hS
  clear hg
  go_wp2_with fail
  refine wp_region_still_tail 30 (by kernel_rfl) (by kernel_rfl) ?_
  simp only [List.take_succ_cons, List.take_zero, List.drop_succ_cons, List.drop_zero]
  have HS2 := Lib.hid HS1.out.drew
  clear z0 z1 z2 y0 y1 y2
  obtain ⟨z0, z1, z2, y0, y1, y2, -⟩ := HS2.out
  refine still_of_quiet w1.drew _ _ ?_
  generalize w1.drew = W at z0 z1 z2 y0 y1 y2 ⊢
  repeat (go_big_quiet_step (fail))
  refine wpQuiet_nil ?_
  go_wp2_with fail
  go_ret
  exact ⟨rfl, HS2.out.2.2.2.2.2.2.2⟩

set_option maxHeartbeats 2000000 in
theorem rstep_high (k a : Int) (X : Nat) (b l : Int) (p : Nat) (f : Int) (w : World) (m : MayP k a X) (h0 : ¬ k = 0) (h : 3 < l) :
    Calls Try.prog 14 #[.agg #[.int .i8 k, .int .i64 a, .int .u64 X], .agg #[.int .i64 b, .int .i8 l, .int .u64 p, .int .i64 f]] w fun e w' => e = .returned (.bool (stepB k a X b l p)) ∧ Kp w w' := by
  have r0 := Lib.hid (may_yes m)
  have HR := Lib.hid (st_false (a := a) (X := X) (b := b) (l := l) (p := p) h0 (.inl (by omega)))
  have q0 : (k == 0) = false := by simpa using h0
  have q1 : decide (1 ≤ l) = true := by simp; omega
  have q2 : decide (l ≤ 3) = false := by simp; omega
  have HS := Lib.hid (h2_new (v0 := .int .i64 b) (v1 := .int .i8 l) (v2 := .int .u64 p) w k a X #[.int .i64 b, .int .i8 l, .int .u64 p, .int .i64 f] 29 rfl rfl rfl)
  clear m h0 h
  rw [← HR.out]
  go_enter Try.func14, Try.ntmps14
  go_wp2_with fail
  refine (rmay_any k a X _).mono ?_; rintro e w1 ⟨rfl, hg⟩
  rw [r0.out]
  have hS := HS.out.kp hg
  have HS1 := Lib.hid hS
  obtain ⟨z0, z1, z2, y0, y1, y2, -⟩ := hS
  clear hg
  go_wp2_with fail
  refine wp_region_still_tail 30 (by kernel_rfl) (by kernel_rfl) ?_
  simp only [List.take_succ_cons, List.take_zero, List.drop_succ_cons, List.drop_zero]
  have HS2 := Lib.hid HS1.out.drew
  clear z0 z1 z2 y0 y1 y2
  obtain ⟨z0, z1, z2, y0, y1, y2, -⟩ := HS2.out
  refine still_of_quiet w1.drew _ _ ?_
  generalize w1.drew = W at z0 z1 z2 y0 y1 y2 ⊢
  repeat (go_big_quiet_step (fail))
  refine wpQuiet_nil ?_
  go_wp2_with fail
  go_ret
  exact ⟨rfl, HS2.out.2.2.2.2.2.2.2⟩

set_option maxHeartbeats 2000000 in
theorem rstep_ne (k a : Int) (X : Nat) (b l : Int) (p : Nat) (f : Int) (w : World) (m : MayP k a X) (h0 : ¬ k = 0) (h1 : 1 ≤ l) (h3 : l ≤ 3) (hn : ¬ a = b) :
    Calls Try.prog 14 #[.agg #[.int .i8 k, .int .i64 a, .int .u64 X], .agg #[.int .i64 b, .int .i8 l, .int .u64 p, .int .i64 f]] w fun e w' => e = .returned (.bool (stepB k a X b l p)) ∧ Kp w w' := by
  have r0 := Lib.hid (may_yes m)
  have HR := Lib.hid (st_false (a := a) (X := X) (b := b) (l := l) (p := p) h0 (.inr hn))
  have q0 : (k == 0) = false := by simpa using h0
  have q3 : (a == b) = false := by simpa using hn
  have q1 : decide (1 ≤ l) = true := by simp; omega
  have q2 : decide (l ≤ 3) = true := by simp; omega
  have HS := Lib.hid (h2_new (v0 := .int .i64 b) (v1 := .int .i8 l) (v2 := .int .u64 p) w k a X #[.int .i64 b, .int .i8 l, .int .u64 p, .int .i64 f] 29 rfl rfl rfl)
  clear m h0 h1 h3 hn
  rw [← HR.out]
  go_enter Try.func14, Try.ntmps14
  go_wp2_with fail
  refine (rmay_any k a X _).mono ?_; rintro e w1 ⟨rfl, hg⟩
  rw [r0.out]
  have hS := HS.out.kp hg
  have HS1 := Lib.hid hS
  obtain ⟨z0, z1, z2, y0, y1, y2, -⟩ := hS
  clear hg
  go_wp2_with fail
  refine wp_region_still_tail 30 (by kernel_rfl) (by kernel_rfl) ?_
  simp only [List.take_succ_cons, List.take_zero, List.drop_succ_cons, List.drop_zero]
  have HS2 := Lib.hid HS1.out.drew
  clear z0 z1 z2 y0 y1 y2
  obtain ⟨z0, z1, z2, y0, y1, y2, -⟩ := HS2.out
  refine still_of_quiet w1.drew _ _ ?_
  generalize w1.drew = W at z0 z1 z2 y0 y1 y2 ⊢
  repeat (go_big_quiet_step (fail))
  refine wpQuiet_nil ?_
  go_wp2_with fail
  go_ret
  exact ⟨rfl, HS2.out.2.2.2.2.2.2.2⟩

set_option maxHeartbeats 2000000 in
theorem rstep_asid (k a : Int) (X : Nat) (b l : Int) (p : Nat) (f : Int) (w : World) (m : MayP k a X) (hk : k = 1) (h1 : 1 ≤ l) (h3 : l ≤ 3) (hn : a = b) :
    Calls Try.prog 14 #[.agg #[.int .i8 k, .int .i64 a, .int .u64 X], .agg #[.int .i64 b, .int .i8 l, .int .u64 p, .int .i64 f]] w fun e w' => e = .returned (.bool (stepB k a X b l p)) ∧ Kp w w' := by
  have r0 := Lib.hid (may_yes m)
  have HR : Hid (true = stepB k a X b l p) := Lib.hid ((hb_true m (.inr ⟨hn, .inl hk⟩)).trans (st_in h1 h3).symm)
  have q0 : (k == 0) = false := by simp; omega
  have q3 : (a == b) = true := by simpa using hn
  have q4 : (k == 1) = true := by simpa using hk
  have q1 : decide (1 ≤ l) = true := by simp; omega
  have q2 : decide (l ≤ 3) = true := by simp; omega
  have HS := Lib.hid (h2_new (v0 := .int .i64 b) (v1 := .int .i8 l) (v2 := .int .u64 p) w k a X #[.int .i64 b, .int .i8 l, .int .u64 p, .int .i64 f] 29 rfl rfl rfl)
  clear m hk h1 h3 hn
  rw [← HR.out]
  go_enter Try.func14, Try.ntmps14
  go_wp2_with fail
  refine (rmay_any k a X _).mono ?_; rintro e w1 ⟨rfl, hg⟩
  rw [r0.out]
  have hS := HS.out.kp hg
  have HS1 := Lib.hid hS
  obtain ⟨z0, z1, z2, y0, y1, y2, -⟩ := hS
  clear hg
  go_wp2_with fail
  refine wp_region_still_tail 30 (by kernel_rfl) (by kernel_rfl) ?_
  simp only [List.take_succ_cons, List.take_zero, List.drop_succ_cons, List.drop_zero]
  have HS2 := Lib.hid HS1.out.drew
  clear z0 z1 z2 y0 y1 y2
  obtain ⟨z0, z1, z2, y0, y1, y2, -⟩ := HS2.out
  refine still_of_quiet w1.drew _ _ ?_
  generalize w1.drew = W at z0 z1 z2 y0 y1 y2 ⊢
  repeat (go_big_quiet_step (fail))
  refine wpQuiet_nil ?_
  go_wp2_with fail
  go_ret
  exact ⟨rfl, HS2.out.2.2.2.2.2.2.2⟩

set_option maxHeartbeats 2000000 in
theorem rstep_page (k a : Int) (X : Nat) (b l : Int) (p : Nat) (f : Int) (w : World) (m : MayP k a X) (h0 : ¬ k = 0) (hk : ¬ k = 1) (h1 : 1 ≤ l) (h3 : l ≤ 3) (hn : a = b) :
    Calls Try.prog 14 #[.agg #[.int .i8 k, .int .i64 a, .int .u64 X], .agg #[.int .i64 b, .int .i8 l, .int .u64 p, .int .i64 f]] w fun e w' => e = .returned (.bool (stepB k a X b l p)) ∧ Kp w w' := by
  have r0 := Lib.hid (may_yes m)
  have HR : Hid (((X / 2 ^ lowN l : Nat) == p) = stepB k a X b l p) := Lib.hid ((hb_last m h0 hk hn).trans (st_in h1 h3).symm)
  have q0 : (k == 0) = false := by simpa using h0
  have q3 : (a == b) = true := by simpa using hn
  have q4 : (k == 1) = false := by simpa using hk
  have G1 := Lib.hid h1
  have G3 := Lib.hid h3
  have q1 : decide (1 ≤ l) = true := by simp; omega
  have q2 : decide (l ≤ 3) = true := by simp; omega
  have HS := Lib.hid (h2_new (v0 := .int .i64 b) (v1 := .int .i8 l) (v2 := .int .u64 p) w k a X #[.int .i64 b, .int .i8 l, .int .u64 p, .int .i64 f] 29 rfl rfl rfl)
  clear m h0 hk h1 h3 hn
  rw [← HR.out]
  go_enter Try.func14, Try.ntmps14
  go_wp2_with fail
  refine (rmay_any k a X _).mono ?_; rintro e w1 ⟨rfl, hg⟩
  rw [r0.out]
  have hS := HS.out.kp hg
  have HS1 := Lib.hid hS
  obtain ⟨z0, z1, z2, y0, y1, y2, -⟩ := hS
  clear hg
  go_wp2_with fail
  go_region_held3 (fun w' => w'.cell? ⟨w.heap.size, 0, none⟩ = some (.int .i8 k) ∧ w'.cell? ⟨w.heap.size, 1, none⟩ = some (.int .i64 a) ∧ w'.cell? ⟨w.heap.size, 2, none⟩ = some (.int .u64 X) ∧ w'.cell? ⟨w.heap.size + 1, 0, none⟩ = some (.int .i64 b) ∧ w'.cell? ⟨w.heap.size + 1, 1, none⟩ = some (.int .i8 l) ∧ w'.cell? ⟨w.heap.size + 1, 2, none⟩ = some (.int .u64 p) ∧ w.heap.size + 1 < w'.heap.size ∧ Kp w w')
    (first | exact HS1.out.drew | assumption | exact H2.drew (by assumption))
    (first | (go_at_call 23; rename_i hh _ _; refine (prefix_any _ _ _ G1.out G3.out).mono ?_; rintro e w' ⟨rfl, hg⟩; have hh' := H2.kp hh hg; clear hh hg))
  all_goals
    rename_i hh
    have HH := Lib.hid hh; clear hh
    go_wp2_with fail
    go_ret
    exact ⟨ret_bool (nat_beq _ _), HH.out.2.2.2.2.2.2.2⟩

theorem rstep_any (k a : Int) (X : Nat) (b l : Int) (p : Nat) (f : Int) (w : World) :
    Calls Try.prog 14 #[.agg #[.int .i8 k, .int .i64 a, .int .u64 X], .agg #[.int .i64 b, .int .i8 l, .int .u64 p, .int .i64 f]] w fun e w' => e = .returned (.bool (stepB k a X b l p)) ∧ Kp w w' := by
  by_cases m : MayP k a X
  · by_cases h0 : k = 0
    · exact rstep_all k a X b l p f w m h0
    · by_cases h1 : 1 ≤ l
      · by_cases h3 : l ≤ 3
        · by_cases hn : a = b
          · by_cases hk : k = 1
            · exact rstep_asid k a X b l p f w m hk h1 h3 hn
            · exact rstep_page k a X b l p f w m h0 hk h1 h3 hn
          · exact rstep_ne k a X b l p f w m h0 h1 h3 hn
        · exact rstep_high k a X b l p f w m h0 (by omega)
      · exact rstep_low k a X b l p f w m h0 (by omega)
  · exact rstep_no k a X b l p f w m


/-! Covers -/
theorem cv_no {k a : Int} {X : Nat} {k' a' : Int} {X' : Nat} (h : ¬ MayP k a X ∨ ¬ MayP k' a' X') : false = covB k a X k' a' X' := by
  unfold covB
  split
  · rename_i g
    rcases h with h | h
    · exact hb_no h
    · exact absurd g.1 h
  · rfl
theorem cv_all {a : Int} {X : Nat} {k' a' : Int} {X' : Nat} (m : MayP 0 a X) (m' : MayP k' a' X') : true = covB 0 a X k' a' X' := by
  have : 0 ≤ k' := by unfold MayP at m'; omega
  rw [show covB 0 a X k' a' X' = hitsB 0 a X a' X' 0 from if_pos ⟨m', this⟩]
  exact hb_all m
theorem cv_asid0 {a : Int} {X : Nat} {a' : Int} {X' : Nat} : false = covB 1 a X 0 a' X' := (if_neg (by omega)).symm
theorem cv_asid {a : Int} {X : Nat} {k' a' : Int} {X' : Nat} (m : MayP 1 a X) (m' : MayP k' a' X') (h : ¬ k' = 0) : (a == a') = covB 1 a X k' a' X' := by
  have : 1 ≤ k' := by unfold MayP at m'; omega
  rw [show covB 1 a X k' a' X' = hitsB 1 a X a' X' 0 from if_pos ⟨m', this⟩, ← hb_asid m, Bool.eq_iff_iff, beq_iff_eq, beq_iff_eq]
  exact ⟨Eq.symm, Eq.symm⟩
theorem cv_same {a : Int} {X : Nat} (m : MayP 2 a X) : true = covB 2 a X 2 a X := by
  rw [show covB 2 a X 2 a X = hitsB 2 a X a X 0 from if_pos ⟨m, by decide⟩]
  exact hb_true m (.inr ⟨rfl, .inr (by simp)⟩)
theorem cv_other {a : Int} {X : Nat} {k' a' : Int} {X' : Nat} (m' : MayP k' a' X') (h : ¬ (k' = 2 ∧ a = a' ∧ X = X')) : false = covB 2 a X k' a' X' := by
  unfold covB
  split
  · rename_i g
    have : k' = 2 := by unfold MayP at m'; omega
    exact hb_false (by intro q; rcases q with q | ⟨q, q' | q'⟩; cases q; cases q'; exact h ⟨this, q, by simpa using q'⟩)
  · rfl

theorem rcov_no (k a : Int) (X : Nat) (k' a' : Int) (X' : Nat) (w : World) (m : ¬ MayP k a X) :
    Calls Try.prog 16 #[.agg #[.int .i8 k, .int .i64 a, .int .u64 X], .agg #[.int .i8 k', .int .i64 a', .int .u64 X']] w fun e w' => e = .returned (.bool (covB k a X k' a' X')) ∧ Kp w w' := by
  have r0 := Lib.hid (may_no m)
  have HR := Lib.hid (cv_no (k := k) (a := a) (X := X) (k' := k') (a' := a') (X' := X') (.inl m))
  have HS := Lib.hid (h2_new (v0 := .int .i8 k') (v1 := .int .i64 a') (v2 := .int .u64 X') w k a X #[.int .i8 k', .int .i64 a', .int .u64 X'] 25 rfl rfl rfl)
  clear m
  go_enter Try.func16, Try.ntmps16
  go_wp2_with fail
  refine (rmay_any k a X _).mono ?_; rintro e w1 ⟨rfl, hg⟩
  rw [r0.out]
  have hS := HS.out.kp hg
  have HS1 := Lib.hid hS
  obtain ⟨z0, z1, z2, y0, y1, y2, -⟩ := hS
  clear hg
  go_wp2_with fail
  go_ret
  exact ⟨ret_bool HR.out, HS1.out.2.2.2.2.2.2.2⟩

theorem rcov_other (k a : Int) (X : Nat) (k' a' : Int) (X' : Nat) (w : World) (m : MayP k a X) (m' : ¬ MayP k' a' X') :
    Calls Try.prog 16 #[.agg #[.int .i8 k, .int .i64 a, .int .u64 X], .agg #[.int .i8 k', .int .i64 a', .int .u64 X']] w fun e w' => e = .returned (.bool (covB k a X k' a' X')) ∧ Kp w w' := by
  have r0 := Lib.hid (may_yes m)
  have r1 := Lib.hid (may_no m')
  have HR := Lib.hid (cv_no (k := k) (a := a) (X := X) (k' := k') (a' := a') (X' := X') (.inr m'))
  have HS := Lib.hid (h2_new (v0 := .int .i8 k') (v1 := .int .i64 a') (v2 := .int .u64 X') w k a X #[.int .i8 k', .int .i64 a', .int .u64 X'] 25 rfl rfl rfl)
  clear m m'
  go_enter Try.func16, Try.ntmps16
  go_wp2_with fail
  refine (rmay_any k a X _).mono ?_; rintro e w1 ⟨rfl, hg⟩
  rw [r0.out]
  have hS := HS.out.kp hg
  have HS1 := Lib.hid hS
  obtain ⟨z0, z1, z2, y0, y1, y2, -⟩ := hS
  clear hg
  go_wp2_with fail
  refine (rmay_any k' a' X' _).mono ?_; rintro e w2 ⟨rfl, hg⟩
  rw [r1.out]
  clear z0 z1 z2 y0 y1 y2
  have hS := HS1.out.kp hg
  have HS2 := Lib.hid hS
  obtain ⟨z0, z1, z2, y0, y1, y2, -⟩ := hS
  clear hg
  go_wp2_with fail
  go_ret
  exact ⟨ret_bool HR.out, HS2.out.2.2.2.2.2.2.2⟩

theorem rcov_all (a : Int) (X : Nat) (k' a' : Int) (X' : Nat) (w : World) (m : MayP 0 a X) (m' : MayP k' a' X') :
    Calls Try.prog 16 #[.agg #[.int .i8 0, .int .i64 a, .int .u64 X], .agg #[.int .i8 k', .int .i64 a', .int .u64 X']] w fun e w' => e = .returned (.bool (covB 0 a X k' a' X')) ∧ Kp w w' := by
  have r0 := Lib.hid (may_yes m)
  have r1 := Lib.hid (may_yes m')
  have HR := Lib.hid (cv_all m m')
  have HS := Lib.hid (h2_new (v0 := .int .i8 k') (v1 := .int .i64 a') (v2 := .int .u64 X') w 0 a X #[.int .i8 k', .int .i64 a', .int .u64 X'] 25 rfl rfl rfl)
  clear m m'
  go_enter Try.func16, Try.ntmps16
  go_wp2_with fail
  refine (rmay_any 0 a X _).mono ?_; rintro e w1 ⟨rfl, hg⟩
  rw [r0.out]
  have hS := HS.out.kp hg
  have HS1 := Lib.hid hS
  obtain ⟨z0, z1, z2, y0, y1, y2, -⟩ := hS
  clear hg
  go_wp2_with fail
  refine (rmay_any k' a' X' _).mono ?_; rintro e w2 ⟨rfl, hg⟩
  rw [r1.out]
  clear z0 z1 z2 y0 y1 y2
  have hS := HS1.out.kp hg
  have HS2 := Lib.hid hS
  obtain ⟨z0, z1, z2, y0, y1, y2, -⟩ := hS
  clear hg
  go_wp2_with fail
  go_ret
  exact ⟨ret_bool HR.out, HS2.out.2.2.2.2.2.2.2⟩

theorem rcov_asid (a : Int) (X : Nat) (k' a' : Int) (X' : Nat) (w : World) (m : MayP 1 a X) (m' : MayP k' a' X') :
    Calls Try.prog 16 #[.agg #[.int .i8 1, .int .i64 a, .int .u64 X], .agg #[.int .i8 k', .int .i64 a', .int .u64 X']] w fun e w' => e = .returned (.bool (covB 1 a X k' a' X')) ∧ Kp w w' := by
  have r0 := Lib.hid (may_yes m)
  have r1 := Lib.hid (may_yes m')
  have HR : Hid ((k' != 0 && a == a') = covB 1 a X k' a' X') := Lib.hid (by
    by_cases h : k' = 0
    · subst h; exact cv_asid0
    · rw [← cv_asid m m' h]; simp [h])
  have HS := Lib.hid (h2_new (v0 := .int .i8 k') (v1 := .int .i64 a') (v2 := .int .u64 X') w 1 a X #[.int .i8 k', .int .i64 a', .int .u64 X'] 25 rfl rfl rfl)
  clear m m'
  go_enter Try.func16, Try.ntmps16
  go_wp2_with fail
  refine (rmay_any 1 a X _).mono ?_; rintro e w1 ⟨rfl, hg⟩
  rw [r0.out]
  have hS := HS.out.kp hg
  have HS1 := Lib.hid hS
  obtain ⟨z0, z1, z2, y0, y1, y2, -⟩ := hS
  clear hg
  go_wp2_with fail
  refine (rmay_any k' a' X' _).mono ?_; rintro e w2 ⟨rfl, hg⟩
  rw [r1.out]
  clear z0 z1 z2 y0 y1 y2
  have hS := HS1.out.kp hg
  have HS2 := Lib.hid hS
  obtain ⟨z0, z1, z2, y0, y1, y2, -⟩ := hS
  clear hg
  go_wp2_with fail
  all_goals go_ret
  all_goals (first | exact ⟨ret_bool HR.out, HS2.out.2.2.2.2.2.2.2⟩ | exact ⟨ret_bool (by rw [← HR.out]; simp [*]), HS2.out.2.2.2.2.2.2.2⟩)

theorem rcov_page (a : Int) (X : Nat) (k' a' : Int) (X' : Nat) (w : World) (m : MayP 2 a X) (m' : MayP k' a' X') :
    Calls Try.prog 16 #[.agg #[.int .i8 2, .int .i64 a, .int .u64 X], .agg #[.int .i8 k', .int .i64 a', .int .u64 X']] w fun e w' => e = .returned (.bool (covB 2 a X k' a' X')) ∧ Kp w w' := by
  have r0 := Lib.hid (may_yes m)
  have r1 := Lib.hid (may_yes m')
  have HR : Hid (decide (k' = 2 ∧ a = a' ∧ X = X') = covB 2 a X k' a' X') := Lib.hid (by
    by_cases h : k' = 2 ∧ a = a' ∧ X = X'
    · rw [decide_eq_true h]; obtain ⟨rfl, rfl, rfl⟩ := h; exact cv_same m
    · rw [decide_eq_false h]; exact cv_other m' h)
  have HS := Lib.hid (h2_new (v0 := .int .i8 k') (v1 := .int .i64 a') (v2 := .int .u64 X') w 2 a X #[.int .i8 k', .int .i64 a', .int .u64 X'] 25 rfl rfl rfl)
  clear m m'
  go_enter Try.func16, Try.ntmps16
  go_wp2_with fail
  refine (rmay_any 2 a X _).mono ?_; rintro e w1 ⟨rfl, hg⟩
  rw [r0.out]
  have hS := HS.out.kp hg
  have HS1 := Lib.hid hS
  obtain ⟨z0, z1, z2, y0, y1, y2, -⟩ := hS
  clear hg
  go_wp2_with fail
  refine (rmay_any k' a' X' _).mono ?_; rintro e w2 ⟨rfl, hg⟩
  rw [r1.out]
  clear z0 z1 z2 y0 y1 y2
  have hS := HS1.out.kp hg
  have HS2 := Lib.hid hS
  obtain ⟨z0, z1, z2, y0, y1, y2, -⟩ := hS
  clear hg
  go_wp2_with fail
  all_goals go_ret
  all_goals (refine ⟨ret_bool (Eq.trans ?_ HR.out), HS2.out.2.2.2.2.2.2.2⟩; first | exact (decide_eq_true (by omega)).symm | exact (decide_eq_false (by omega)).symm)

theorem rcov_any (k a : Int) (X : Nat) (k' a' : Int) (X' : Nat) (w : World) :
    Calls Try.prog 16 #[.agg #[.int .i8 k, .int .i64 a, .int .u64 X], .agg #[.int .i8 k', .int .i64 a', .int .u64 X']] w fun e w' => e = .returned (.bool (covB k a X k' a' X')) ∧ Kp w w' := by
  by_cases m : MayP k a X
  · by_cases m' : MayP k' a' X'
    · by_cases k0 : k = 0
      · subst k0; exact rcov_all a X k' a' X' w m m'
      · by_cases k1 : k = 1
        · subst k1; exact rcov_asid a X k' a' X' w m m'
        · have k2 : k = 2 := by unfold MayP at m; omega
          subst k2; exact rcov_page a X k' a' X' w m m'
    · exact rcov_other k a X k' a' X' w m m'
  · exact rcov_no k a X k' a' X' w m

end Go.Proofs.Ytgchpicfhbhikaa
