/-
  InvalCovers returns true. No condition.
-/
import Derived.Test.YtgchpicfhbhikaaBack05
namespace Go.Proofs.Ytgchpicfhbhikaa
open Go Go.RowKit

theorem hits_iff {k a : Int} {X : Nat} {b : Int} {p L : Nat} : hitsB k a X b p L = true ↔ MayP k a X ∧ (k = 0 ∨ a = b ∧ (k = 1 ∨ X / 2 ^ L = p)) := decide_eq_true_iff
theorem cov_iff {k a : Int} {X : Nat} {k' a' : Int} {X' : Nat} : covB k a X k' a' X' = true ↔ MayP k' a' X' ∧ k ≤ k' ∧ MayP k a X ∧ (k = 0 ∨ a = a' ∧ (k = 1 ∨ X = X')) := by
  unfold covB
  split
  · rename_i g
    rw [hits_iff]
    simp only [Nat.pow_zero, Nat.div_one]
    exact ⟨fun h => ⟨g.1, g.2, h⟩, fun h => h.2.2⟩
  · rename_i g
    exact ⟨fun h => (by cases h), fun h => absurd ⟨h.1, h.2.1⟩ g⟩
theorem cov_self {k a : Int} {X : Nat} : covB k a X k a X = mayB k a X := by
  rw [Bool.eq_iff_iff, cov_iff]
  unfold mayB
  rw [decide_eq_true_iff]
  exact ⟨fun h => h.1, fun h => ⟨h, Int.le_refl _, h, .inr ⟨rfl, .inr rfl⟩⟩⟩
theorem cov_may {k a : Int} {X : Nat} {k' a' : Int} {X' : Nat} (m : ¬ MayP k a X) : covB k a X k' a' X' = false := by
  rw [Bool.eq_false_iff]
  exact fun h => m (cov_iff.1 h).2.2.1
theorem cov_trans {k a : Int} {X : Nat} {k' a' : Int} {X' : Nat} {k2 a2 : Int} {X2 : Nat} (h : covB k a X k' a' X' = true) (g : covB k' a' X' k2 a2 X2 = true) : covB k a X k2 a2 X2 = true := by
  rw [cov_iff] at *
  obtain ⟨m1, l1, m0, o1⟩ := h
  obtain ⟨m2, l2, -, o2⟩ := g
  refine ⟨m2, by omega, m0, ?_⟩
  unfold MayP at m0 m1
  omega
theorem cov_hits {k a : Int} {X : Nat} {k' a' : Int} {X' : Nat} {b : Int} {p L : Nat} (h : covB k a X k' a' X' = true) (g : hitsB k' a' X' b p L = true) : hitsB k a X b p L = true := by
  rw [cov_iff] at h
  rw [hits_iff] at *
  obtain ⟨m1, l1, m0, o1⟩ := h
  refine ⟨m0, ?_⟩
  rcases o1 with o1 | ⟨o1, o1' | o1'⟩
  · exact .inl o1
  · rcases g.2 with o2 | ⟨o2, -⟩
    · omega
    · exact .inr ⟨o1.trans o2, .inl o1'⟩
  · subst o1'
    rcases g.2 with o2 | ⟨o2, o2' | o2'⟩
    · exact .inl (by unfold MayP at m0; omega)
    · by_cases k0 : k = 0
      · exact .inl k0
      · exact .inr ⟨o1.trans o2, .inl (by unfold MayP at m0; omega)⟩
    · exact .inr ⟨o1.trans o2, .inr o2'⟩
theorem cov_step {k a : Int} {X : Nat} {k' a' : Int} {X' : Nat} {b l : Int} {p : Nat} (h : covB k a X k' a' X' = true) (g : stepB k' a' X' b l p = true) : stepB k a X b l p = true := by
  unfold stepB at *
  split at g
  · rename_i hl
    rw [if_pos hl]
    exact cov_hits h g
  · rename_i hl
    rw [if_neg hl]
    rw [decide_eq_true_iff] at *
    rw [cov_iff] at h
    have := h.2.2.1
    unfold MayP at this
    exact ⟨h.2.2.1, by omega⟩
theorem all_hits {b : Int} {p L : Nat} : hitsB 0 0 0 b p L = true := hits_iff.2 ⟨by decide, .inl rfl⟩
theorem all_step {b l : Int} {p : Nat} : stepB 0 0 0 b l p = true := by
  unfold stepB
  split
  · exact all_hits
  · exact decide_eq_true ⟨by decide, rfl⟩

/-- Five boxed structs, carried through calls. -/
def H5 (w w' : World) (k a : Int) (X : Nat) (k' a' : Int) (X' : Nat) (k2 a2 : Int) (X2 : Nat) (b : Int) (p : Nat) (f : Int) (r : Bool) (b' l : Int) (p' : Nat) (f' : Int) : Prop :=
  Blk w' w.heap.size #[.int .i8 k, .int .i64 a, .int .u64 X] 25 ∧ Blk w' (w.heap.size + 1) #[.int .i8 k', .int .i64 a', .int .u64 X'] 25 ∧ Blk w' (w.heap.size + 2) #[.int .i8 k2, .int .i64 a2, .int .u64 X2] 25 ∧ Blk w' (w.heap.size + 3) #[.int .i64 b, .int .u64 p, .int .i64 f, .bool r] 27 ∧ Blk w' (w.heap.size + 4) #[.int .i64 b', .int .i8 l, .int .u64 p', .int .i64 f'] 29 ∧ Kp w w'
theorem H5.kp {w w1 w2 : World} {k a : Int} {X : Nat} {k' a' : Int} {X' : Nat} {k2 a2 : Int} {X2 : Nat} {b : Int} {p : Nat} {f : Int} {r : Bool} {b' l : Int} {p' : Nat} {f' : Int} (h : H5 w w1 k a X k' a' X' k2 a2 X2 b p f r b' l p' f') (g : Kp w1 w2) : H5 w w2 k a X k' a' X' k2 a2 X2 b p f r b' l p' f' :=
  ⟨h.1.kp g, h.2.1.kp g, h.2.2.1.kp g, h.2.2.2.1.kp g, h.2.2.2.2.1.kp g, h.2.2.2.2.2.trans g⟩
theorem H5.new (w : World) (k a : Int) (X : Nat) (k' a' : Int) (X' : Nat) (k2 a2 : Int) (X2 : Nat) (b : Int) (p : Nat) (f : Int) (r : Bool) (b' l : Int) (p' : Nat) (f' : Int) : H5 w (((((w.alloc (.cells #[.int .i8 k, .int .i64 a, .int .u64 X] 25)).alloc (.cells #[.int .i8 k', .int .i64 a', .int .u64 X'] 25)).alloc (.cells #[.int .i8 k2, .int .i64 a2, .int .u64 X2] 25)).alloc (.cells #[.int .i64 b, .int .u64 p, .int .i64 f, .bool r] 27)).alloc (.cells #[.int .i64 b', .int .i8 l, .int .u64 p', .int .i64 f'] 29)) k a X k' a' X' k2 a2 X2 b p f r b' l p' f' := by
  have b0 := (((((Blk.new w #[.int .i8 k, .int .i64 a, .int .u64 X] 25).alloc (.cells #[.int .i8 k', .int .i64 a', .int .u64 X'] 25)).alloc (.cells #[.int .i8 k2, .int .i64 a2, .int .u64 X2] 25)).alloc (.cells #[.int .i64 b, .int .u64 p, .int .i64 f, .bool r] 27)).alloc (.cells #[.int .i64 b', .int .i8 l, .int .u64 p', .int .i64 f'] 29))
  have b1 := ((((Blk.new (w.alloc (.cells #[.int .i8 k, .int .i64 a, .int .u64 X] 25)) #[.int .i8 k', .int .i64 a', .int .u64 X'] 25).alloc (.cells #[.int .i8 k2, .int .i64 a2, .int .u64 X2] 25)).alloc (.cells #[.int .i64 b, .int .u64 p, .int .i64 f, .bool r] 27)).alloc (.cells #[.int .i64 b', .int .i8 l, .int .u64 p', .int .i64 f'] 29))
  have b2 := (((Blk.new ((w.alloc (.cells #[.int .i8 k, .int .i64 a, .int .u64 X] 25)).alloc (.cells #[.int .i8 k', .int .i64 a', .int .u64 X'] 25)) #[.int .i8 k2, .int .i64 a2, .int .u64 X2] 25).alloc (.cells #[.int .i64 b, .int .u64 p, .int .i64 f, .bool r] 27)).alloc (.cells #[.int .i64 b', .int .i8 l, .int .u64 p', .int .i64 f'] 29))
  have b3 := ((Blk.new (((w.alloc (.cells #[.int .i8 k, .int .i64 a, .int .u64 X] 25)).alloc (.cells #[.int .i8 k', .int .i64 a', .int .u64 X'] 25)).alloc (.cells #[.int .i8 k2, .int .i64 a2, .int .u64 X2] 25)) #[.int .i64 b, .int .u64 p, .int .i64 f, .bool r] 27).alloc (.cells #[.int .i64 b', .int .i8 l, .int .u64 p', .int .i64 f'] 29))
  have b4 := (Blk.new ((((w.alloc (.cells #[.int .i8 k, .int .i64 a, .int .u64 X] 25)).alloc (.cells #[.int .i8 k', .int .i64 a', .int .u64 X'] 25)).alloc (.cells #[.int .i8 k2, .int .i64 a2, .int .u64 X2] 25)).alloc (.cells #[.int .i64 b, .int .u64 p, .int .i64 f, .bool r] 27)) #[.int .i64 b', .int .i8 l, .int .u64 p', .int .i64 f'] 29)
  simp at b1 b2 b3 b4
  exact ⟨b0, b1, b2, b3, b4, ((((kpA _ _ _).alloc _ _).alloc _ _).alloc _ _).alloc _ _⟩
theorem H5.cells {w w' : World} {k a : Int} {X : Nat} {k' a' : Int} {X' : Nat} {k2 a2 : Int} {X2 : Nat} {b : Int} {p : Nat} {f : Int} {r : Bool} {b' l : Int} {p' : Nat} {f' : Int} (h : H5 w w' k a X k' a' X' k2 a2 X2 b p f r b' l p' f') : w'.cell? ⟨w.heap.size, 0, none⟩ = some (.int .i8 k) ∧ w'.cell? ⟨w.heap.size, 1, none⟩ = some (.int .i64 a) ∧ w'.cell? ⟨w.heap.size, 2, none⟩ = some (.int .u64 X) ∧ w'.cell? ⟨w.heap.size + 1, 0, none⟩ = some (.int .i8 k') ∧ w'.cell? ⟨w.heap.size + 1, 1, none⟩ = some (.int .i64 a') ∧ w'.cell? ⟨w.heap.size + 1, 2, none⟩ = some (.int .u64 X') ∧ w'.cell? ⟨w.heap.size + 2, 0, none⟩ = some (.int .i8 k2) ∧ w'.cell? ⟨w.heap.size + 2, 1, none⟩ = some (.int .i64 a2) ∧ w'.cell? ⟨w.heap.size + 2, 2, none⟩ = some (.int .u64 X2) ∧ w'.cell? ⟨w.heap.size + 3, 0, none⟩ = some (.int .i64 b) ∧ w'.cell? ⟨w.heap.size + 3, 1, none⟩ = some (.int .u64 p) ∧ w'.cell? ⟨w.heap.size + 3, 2, none⟩ = some (.int .i64 f) ∧ w'.cell? ⟨w.heap.size + 3, 3, none⟩ = some (.bool r) ∧ w'.cell? ⟨w.heap.size + 4, 0, none⟩ = some (.int .i64 b') ∧ w'.cell? ⟨w.heap.size + 4, 1, none⟩ = some (.int .i8 l) ∧ w'.cell? ⟨w.heap.size + 4, 2, none⟩ = some (.int .u64 p') ∧ w'.cell? ⟨w.heap.size + 4, 3, none⟩ = some (.int .i64 f') :=
  ⟨h.1.cell 0, h.1.cell 1, h.1.cell 2, h.2.1.cell 0, h.2.1.cell 1, h.2.1.cell 2, h.2.2.1.cell 0, h.2.2.1.cell 1, h.2.2.1.cell 2, h.2.2.2.1.cell 0, h.2.2.2.1.cell 1, h.2.2.2.1.cell 2, h.2.2.2.1.cell 3, h.2.2.2.2.1.cell 0, h.2.2.2.2.1.cell 1, h.2.2.2.2.1.cell 2, h.2.2.2.2.1.cell 3⟩

set_option maxHeartbeats 2000000 in
theorem covers_n (k a : Int) (X : Nat) (k' a' : Int) (X' : Nat) (k2 a2 : Int) (X2 : Nat) (b : Int) (p : Nat) (f : Int) (r : Bool) (b' l : Int) (p' : Nat) (f' : Int) (w : World) (m : ¬ MayP k a X) :
    Calls Try.prog 5 #[.agg #[.int .i8 k, .int .i64 a, .int .u64 X], .agg #[.int .i8 k', .int .i64 a', .int .u64 X'], .agg #[.int .i8 k2, .int .i64 a2, .int .u64 X2], .agg #[.int .i64 b, .int .u64 p, .int .i64 f, .bool r], .agg #[.int .i64 b', .int .i8 l, .int .u64 p', .int .i64 f']] w fun e w' => e = .returned (.bool true) ∧ Kp w w' := by
  have HS0 := Lib.hid (H5.new w k a X k' a' X' k2 a2 X2 b p f r b' l p' f')
  have HE := Lib.hid (enc_no m)
  have C0 : Hid (covB k a X k a X = false) := Lib.hid (cov_self.trans (may_no m))
  have AB : Hid (covB k a X k' a' X' = false) := Lib.hid (cov_may m)
  have LE : Hid (hitsB 0 0 0 b p 0 = true) := Lib.hid all_hits
  have LS : Hid (stepB 0 0 0 b' l p' = true) := Lib.hid all_step
  clear m
  go_enter Try.func5, Try.ntmps5
  go_wp2_with fail
  refine (encode_any k a X _).mono ?_; rintro e w1 ⟨rfl, hg⟩
  rw [HE.out.1]
  have HS1 := Lib.hid (HS0.out.kp hg)
  clear hg
  obtain ⟨z0, z1, z2, z3, z4, z5, z6, z7, z8, z9, z10, z11, z12, z13, z14, z15, z16⟩ := HS1.out.cells
  go_wp2_with fail
  refine (cov_any k a X k a X _).mono ?_; rintro e w2 ⟨rfl, hg⟩
  rw [C0.out]
  clear z0 z1 z2 z3 z4 z5 z6 z7 z8 z9 z10 z11 z12 z13 z14 z15 z16
  have HS2 := Lib.hid (HS1.out.kp hg)
  clear hg
  obtain ⟨z0, z1, z2, z3, z4, z5, z6, z7, z8, z9, z10, z11, z12, z13, z14, z15, z16⟩ := HS2.out.cells
  go_wp2_with fail
  refine (cov_any k a X k' a' X' _).mono ?_; rintro e w3 ⟨rfl, hg⟩
  rw [AB.out]
  clear z0 z1 z2 z3 z4 z5 z6 z7 z8 z9 z10 z11 z12 z13 z14 z15 z16
  have HS3 := Lib.hid (HS2.out.kp hg)
  clear hg
  obtain ⟨z0, z1, z2, z3, z4, z5, z6, z7, z8, z9, z10, z11, z12, z13, z14, z15, z16⟩ := HS3.out.cells
  go_wp2_with fail
  refine (cov_any k a X k' a' X' _).mono ?_; rintro e w4 ⟨rfl, hg⟩
  rw [AB.out]
  clear z0 z1 z2 z3 z4 z5 z6 z7 z8 z9 z10 z11 z12 z13 z14 z15 z16
  have HS4 := Lib.hid (HS3.out.kp hg)
  clear hg
  obtain ⟨z0, z1, z2, z3, z4, z5, z6, z7, z8, z9, z10, z11, z12, z13, z14, z15, z16⟩ := (HS4.out.kp (kpA w4 #[.int .i8 0, .int .i64 0, .int .u64 0] 25)).cells
  go_wp2_with fail
  refine (hits_any 0 0 0 b p f r _).mono ?_; rintro e w5 ⟨rfl, hg⟩
  rw [LE.out]
  clear z0 z1 z2 z3 z4 z5 z6 z7 z8 z9 z10 z11 z12 z13 z14 z15 z16
  have HN := Lib.hid ((Blk.new w4 #[.int .i8 0, .int .i64 0, .int .u64 0] 25).kp hg)
  have HS5 := Lib.hid ((HS4.out.kp (kpA w4 #[.int .i8 0, .int .i64 0, .int .u64 0] 25)).kp hg)
  clear hg
  obtain ⟨z0, z1, z2, z3, z4, z5, z6, z7, z8, z9, z10, z11, z12, z13, z14, z15, z16⟩ := HS5.out.cells
  have y0 := HN.out.cell 0
  have y1 := HN.out.cell 1
  have y2 := HN.out.cell 2
  simp at y0 y1 y2
  go_wp2_with fail
  refine (step_any 0 0 0 b' l p' f' _).mono ?_; rintro e w6 ⟨rfl, hg⟩
  rw [LS.out]
  clear y0 y1 y2 z0 z1 z2 z3 z4 z5 z6 z7 z8 z9 z10 z11 z12 z13 z14 z15 z16
  have HS6 := Lib.hid (HS5.out.kp hg)
  clear hg
  go_wp2_with fail
  refine (wakes_any _).mono ?_; rintro e w7 ⟨rfl, hg⟩
  have HS7 := Lib.hid (HS6.out.kp hg)
  clear hg
  go_wp2_with fail
  go_ret
  exact ⟨rfl, HS7.out.2.2.2.2.2⟩

set_option maxHeartbeats 2000000 in
theorem covers_f (k a : Int) (X : Nat) (k' a' : Int) (X' : Nat) (k2 a2 : Int) (X2 : Nat) (b : Int) (p : Nat) (f : Int) (r : Bool) (b' l : Int) (p' : Nat) (f' : Int) (w : World) (m : MayP k a X) (ab : covB k a X k' a' X' = false) :
    Calls Try.prog 5 #[.agg #[.int .i8 k, .int .i64 a, .int .u64 X], .agg #[.int .i8 k', .int .i64 a', .int .u64 X'], .agg #[.int .i8 k2, .int .i64 a2, .int .u64 X2], .agg #[.int .i64 b, .int .u64 p, .int .i64 f, .bool r], .agg #[.int .i64 b', .int .i8 l, .int .u64 p', .int .i64 f']] w fun e w' => e = .returned (.bool true) ∧ Kp w w' := by
  have HS0 := Lib.hid (H5.new w k a X k' a' X' k2 a2 X2 b p f r b' l p' f')
  have HE := Lib.hid (enc_yes m)
  have C0 : Hid (covB k a X k a X = true) := Lib.hid (cov_self.trans (may_yes m))
  have AB := Lib.hid ab
  have LE : Hid (hitsB 0 0 0 b p 0 = true) := Lib.hid all_hits
  have LS : Hid (stepB 0 0 0 b' l p' = true) := Lib.hid all_step
  clear m ab
  go_enter Try.func5, Try.ntmps5
  go_wp2_with fail
  refine (encode_any k a X _).mono ?_; rintro e w1 ⟨rfl, hg⟩
  rw [HE.out.1]
  have HS1 := Lib.hid (HS0.out.kp hg)
  clear hg
  obtain ⟨z0, z1, z2, z3, z4, z5, z6, z7, z8, z9, z10, z11, z12, z13, z14, z15, z16⟩ := HS1.out.cells
  go_wp2_with fail
  refine (cov_any k a X k a X _).mono ?_; rintro e w2 ⟨rfl, hg⟩
  rw [C0.out]
  clear z0 z1 z2 z3 z4 z5 z6 z7 z8 z9 z10 z11 z12 z13 z14 z15 z16
  have HS2 := Lib.hid (HS1.out.kp hg)
  clear hg
  obtain ⟨z0, z1, z2, z3, z4, z5, z6, z7, z8, z9, z10, z11, z12, z13, z14, z15, z16⟩ := HS2.out.cells
  go_wp2_with fail
  refine (cov_any k a X k' a' X' _).mono ?_; rintro e w3 ⟨rfl, hg⟩
  rw [AB.out]
  clear z0 z1 z2 z3 z4 z5 z6 z7 z8 z9 z10 z11 z12 z13 z14 z15 z16
  have HS3 := Lib.hid (HS2.out.kp hg)
  clear hg
  obtain ⟨z0, z1, z2, z3, z4, z5, z6, z7, z8, z9, z10, z11, z12, z13, z14, z15, z16⟩ := HS3.out.cells
  go_wp2_with fail
  refine (cov_any k a X k' a' X' _).mono ?_; rintro e w4 ⟨rfl, hg⟩
  rw [AB.out]
  clear z0 z1 z2 z3 z4 z5 z6 z7 z8 z9 z10 z11 z12 z13 z14 z15 z16
  have HS4 := Lib.hid (HS3.out.kp hg)
  clear hg
  obtain ⟨z0, z1, z2, z3, z4, z5, z6, z7, z8, z9, z10, z11, z12, z13, z14, z15, z16⟩ := (HS4.out.kp (kpA w4 #[.int .i8 0, .int .i64 0, .int .u64 0] 25)).cells
  go_wp2_with fail
  refine (hits_any 0 0 0 b p f r _).mono ?_; rintro e w5 ⟨rfl, hg⟩
  rw [LE.out]
  clear z0 z1 z2 z3 z4 z5 z6 z7 z8 z9 z10 z11 z12 z13 z14 z15 z16
  have HN := Lib.hid ((Blk.new w4 #[.int .i8 0, .int .i64 0, .int .u64 0] 25).kp hg)
  have HS5 := Lib.hid ((HS4.out.kp (kpA w4 #[.int .i8 0, .int .i64 0, .int .u64 0] 25)).kp hg)
  clear hg
  obtain ⟨z0, z1, z2, z3, z4, z5, z6, z7, z8, z9, z10, z11, z12, z13, z14, z15, z16⟩ := HS5.out.cells
  have y0 := HN.out.cell 0
  have y1 := HN.out.cell 1
  have y2 := HN.out.cell 2
  simp at y0 y1 y2
  go_wp2_with fail
  refine (step_any 0 0 0 b' l p' f' _).mono ?_; rintro e w6 ⟨rfl, hg⟩
  rw [LS.out]
  clear y0 y1 y2 z0 z1 z2 z3 z4 z5 z6 z7 z8 z9 z10 z11 z12 z13 z14 z15 z16
  have HS6 := Lib.hid (HS5.out.kp hg)
  clear hg
  go_wp2_with fail
  refine (wakes_any _).mono ?_; rintro e w7 ⟨rfl, hg⟩
  have HS7 := Lib.hid (HS6.out.kp hg)
  clear hg
  go_wp2_with fail
  go_ret
  exact ⟨rfl, HS7.out.2.2.2.2.2⟩

set_option maxHeartbeats 2000000 in
theorem covers_111 (k a : Int) (X : Nat) (k' a' : Int) (X' : Nat) (k2 a2 : Int) (X2 : Nat) (b : Int) (p : Nat) (f : Int) (r : Bool) (b' l : Int) (p' : Nat) (f' : Int) (w : World) (m : MayP k a X) (ab : covB k a X k' a' X' = true) (bc : covB k' a' X' k2 a2 X2 = true) (be : hitsB k' a' X' b p 0 = true) (bs : stepB k' a' X' b' l p' = true) :
    Calls Try.prog 5 #[.agg #[.int .i8 k, .int .i64 a, .int .u64 X], .agg #[.int .i8 k', .int .i64 a', .int .u64 X'], .agg #[.int .i8 k2, .int .i64 a2, .int .u64 X2], .agg #[.int .i64 b, .int .u64 p, .int .i64 f, .bool r], .agg #[.int .i64 b', .int .i8 l, .int .u64 p', .int .i64 f']] w fun e w' => e = .returned (.bool true) ∧ Kp w w' := by
  have HS0 := Lib.hid (H5.new w k a X k' a' X' k2 a2 X2 b p f r b' l p' f')
  have HE := Lib.hid (enc_yes m)
  have C0 : Hid (covB k a X k a X = true) := Lib.hid (cov_self.trans (may_yes m))
  have AB := Lib.hid ab
  have BC := Lib.hid bc
  have BE := Lib.hid be
  have BS := Lib.hid bs
  have AC := Lib.hid (cov_trans ab bc)
  have AE := Lib.hid (cov_hits ab be)
  have AS := Lib.hid (cov_step ab bs)
  have LE : Hid (hitsB 0 0 0 b p 0 = true) := Lib.hid all_hits
  have LS : Hid (stepB 0 0 0 b' l p' = true) := Lib.hid all_step
  clear m ab bc be bs
  go_enter Try.func5, Try.ntmps5
  go_wp2_with fail
  refine (encode_any k a X _).mono ?_; rintro e w1 ⟨rfl, hg⟩
  rw [HE.out.1]
  have HS1 := Lib.hid (HS0.out.kp hg)
  clear hg
  obtain ⟨z0, z1, z2, z3, z4, z5, z6, z7, z8, z9, z10, z11, z12, z13, z14, z15, z16⟩ := HS1.out.cells
  go_wp2_with fail
  refine (cov_any k a X k a X _).mono ?_; rintro e w2 ⟨rfl, hg⟩
  rw [C0.out]
  clear z0 z1 z2 z3 z4 z5 z6 z7 z8 z9 z10 z11 z12 z13 z14 z15 z16
  have HS2 := Lib.hid (HS1.out.kp hg)
  clear hg
  obtain ⟨z0, z1, z2, z3, z4, z5, z6, z7, z8, z9, z10, z11, z12, z13, z14, z15, z16⟩ := HS2.out.cells
  go_wp2_with fail
  refine (cov_any k a X k' a' X' _).mono ?_; rintro e w3 ⟨rfl, hg⟩
  rw [AB.out]
  clear z0 z1 z2 z3 z4 z5 z6 z7 z8 z9 z10 z11 z12 z13 z14 z15 z16
  have HS3 := Lib.hid (HS2.out.kp hg)
  clear hg
  obtain ⟨z0, z1, z2, z3, z4, z5, z6, z7, z8, z9, z10, z11, z12, z13, z14, z15, z16⟩ := HS3.out.cells
  go_wp2_with fail
  refine (cov_any k' a' X' k2 a2 X2 _).mono ?_; rintro e w4 ⟨rfl, hg⟩
  rw [BC.out]
  clear z0 z1 z2 z3 z4 z5 z6 z7 z8 z9 z10 z11 z12 z13 z14 z15 z16
  have HS4 := Lib.hid (HS3.out.kp hg)
  clear hg
  obtain ⟨z0, z1, z2, z3, z4, z5, z6, z7, z8, z9, z10, z11, z12, z13, z14, z15, z16⟩ := HS4.out.cells
  go_wp2_with fail
  refine (cov_any k a X k2 a2 X2 _).mono ?_; rintro e w5 ⟨rfl, hg⟩
  rw [AC.out]
  clear z0 z1 z2 z3 z4 z5 z6 z7 z8 z9 z10 z11 z12 z13 z14 z15 z16
  have HS5 := Lib.hid (HS4.out.kp hg)
  clear hg
  obtain ⟨z0, z1, z2, z3, z4, z5, z6, z7, z8, z9, z10, z11, z12, z13, z14, z15, z16⟩ := HS5.out.cells
  go_wp2_with fail
  refine (cov_any k a X k' a' X' _).mono ?_; rintro e w6 ⟨rfl, hg⟩
  rw [AB.out]
  clear z0 z1 z2 z3 z4 z5 z6 z7 z8 z9 z10 z11 z12 z13 z14 z15 z16
  have HS6 := Lib.hid (HS5.out.kp hg)
  clear hg
  obtain ⟨z0, z1, z2, z3, z4, z5, z6, z7, z8, z9, z10, z11, z12, z13, z14, z15, z16⟩ := HS6.out.cells
  go_wp2_with fail
  refine (hits_any k' a' X' b p f r _).mono ?_; rintro e w7 ⟨rfl, hg⟩
  rw [BE.out]
  clear z0 z1 z2 z3 z4 z5 z6 z7 z8 z9 z10 z11 z12 z13 z14 z15 z16
  have HS7 := Lib.hid (HS6.out.kp hg)
  clear hg
  obtain ⟨z0, z1, z2, z3, z4, z5, z6, z7, z8, z9, z10, z11, z12, z13, z14, z15, z16⟩ := HS7.out.cells
  go_wp2_with fail
  refine (hits_any k a X b p f r _).mono ?_; rintro e w8 ⟨rfl, hg⟩
  rw [AE.out]
  clear z0 z1 z2 z3 z4 z5 z6 z7 z8 z9 z10 z11 z12 z13 z14 z15 z16
  have HS8 := Lib.hid (HS7.out.kp hg)
  clear hg
  obtain ⟨z0, z1, z2, z3, z4, z5, z6, z7, z8, z9, z10, z11, z12, z13, z14, z15, z16⟩ := HS8.out.cells
  go_wp2_with fail
  refine (step_any k' a' X' b' l p' f' _).mono ?_; rintro e w9 ⟨rfl, hg⟩
  rw [BS.out]
  clear z0 z1 z2 z3 z4 z5 z6 z7 z8 z9 z10 z11 z12 z13 z14 z15 z16
  have HS9 := Lib.hid (HS8.out.kp hg)
  clear hg
  obtain ⟨z0, z1, z2, z3, z4, z5, z6, z7, z8, z9, z10, z11, z12, z13, z14, z15, z16⟩ := HS9.out.cells
  go_wp2_with fail
  refine (step_any k a X b' l p' f' _).mono ?_; rintro e w10 ⟨rfl, hg⟩
  rw [AS.out]
  clear z0 z1 z2 z3 z4 z5 z6 z7 z8 z9 z10 z11 z12 z13 z14 z15 z16
  have HS10 := Lib.hid (HS9.out.kp hg)
  clear hg
  obtain ⟨z0, z1, z2, z3, z4, z5, z6, z7, z8, z9, z10, z11, z12, z13, z14, z15, z16⟩ := (HS10.out.kp (kpA w10 #[.int .i8 0, .int .i64 0, .int .u64 0] 25)).cells
  go_wp2_with fail
  refine (hits_any 0 0 0 b p f r _).mono ?_; rintro e w11 ⟨rfl, hg⟩
  rw [LE.out]
  clear z0 z1 z2 z3 z4 z5 z6 z7 z8 z9 z10 z11 z12 z13 z14 z15 z16
  have HN := Lib.hid ((Blk.new w10 #[.int .i8 0, .int .i64 0, .int .u64 0] 25).kp hg)
  have HS11 := Lib.hid ((HS10.out.kp (kpA w10 #[.int .i8 0, .int .i64 0, .int .u64 0] 25)).kp hg)
  clear hg
  obtain ⟨z0, z1, z2, z3, z4, z5, z6, z7, z8, z9, z10, z11, z12, z13, z14, z15, z16⟩ := HS11.out.cells
  have y0 := HN.out.cell 0
  have y1 := HN.out.cell 1
  have y2 := HN.out.cell 2
  simp at y0 y1 y2
  go_wp2_with fail
  refine (step_any 0 0 0 b' l p' f' _).mono ?_; rintro e w12 ⟨rfl, hg⟩
  rw [LS.out]
  clear y0 y1 y2 z0 z1 z2 z3 z4 z5 z6 z7 z8 z9 z10 z11 z12 z13 z14 z15 z16
  have HS12 := Lib.hid (HS11.out.kp hg)
  clear hg
  go_wp2_with fail
  refine (wakes_any _).mono ?_; rintro e w13 ⟨rfl, hg⟩
  have HS13 := Lib.hid (HS12.out.kp hg)
  clear hg
  go_wp2_with fail
  go_ret
  exact ⟨rfl, HS13.out.2.2.2.2.2⟩

set_option maxHeartbeats 2000000 in
theorem covers_110 (k a : Int) (X : Nat) (k' a' : Int) (X' : Nat) (k2 a2 : Int) (X2 : Nat) (b : Int) (p : Nat) (f : Int) (r : Bool) (b' l : Int) (p' : Nat) (f' : Int) (w : World) (m : MayP k a X) (ab : covB k a X k' a' X' = true) (bc : covB k' a' X' k2 a2 X2 = true) (be : hitsB k' a' X' b p 0 = true) (bs : stepB k' a' X' b' l p' = false) :
    Calls Try.prog 5 #[.agg #[.int .i8 k, .int .i64 a, .int .u64 X], .agg #[.int .i8 k', .int .i64 a', .int .u64 X'], .agg #[.int .i8 k2, .int .i64 a2, .int .u64 X2], .agg #[.int .i64 b, .int .u64 p, .int .i64 f, .bool r], .agg #[.int .i64 b', .int .i8 l, .int .u64 p', .int .i64 f']] w fun e w' => e = .returned (.bool true) ∧ Kp w w' := by
  have HS0 := Lib.hid (H5.new w k a X k' a' X' k2 a2 X2 b p f r b' l p' f')
  have HE := Lib.hid (enc_yes m)
  have C0 : Hid (covB k a X k a X = true) := Lib.hid (cov_self.trans (may_yes m))
  have AB := Lib.hid ab
  have BC := Lib.hid bc
  have BE := Lib.hid be
  have BS := Lib.hid bs
  have AC := Lib.hid (cov_trans ab bc)
  have AE := Lib.hid (cov_hits ab be)
  have LE : Hid (hitsB 0 0 0 b p 0 = true) := Lib.hid all_hits
  have LS : Hid (stepB 0 0 0 b' l p' = true) := Lib.hid all_step
  clear m ab bc be bs
  go_enter Try.func5, Try.ntmps5
  go_wp2_with fail
  refine (encode_any k a X _).mono ?_; rintro e w1 ⟨rfl, hg⟩
  rw [HE.out.1]
  have HS1 := Lib.hid (HS0.out.kp hg)
  clear hg
  obtain ⟨z0, z1, z2, z3, z4, z5, z6, z7, z8, z9, z10, z11, z12, z13, z14, z15, z16⟩ := HS1.out.cells
  go_wp2_with fail
  refine (cov_any k a X k a X _).mono ?_; rintro e w2 ⟨rfl, hg⟩
  rw [C0.out]
  clear z0 z1 z2 z3 z4 z5 z6 z7 z8 z9 z10 z11 z12 z13 z14 z15 z16
  have HS2 := Lib.hid (HS1.out.kp hg)
  clear hg
  obtain ⟨z0, z1, z2, z3, z4, z5, z6, z7, z8, z9, z10, z11, z12, z13, z14, z15, z16⟩ := HS2.out.cells
  go_wp2_with fail
  refine (cov_any k a X k' a' X' _).mono ?_; rintro e w3 ⟨rfl, hg⟩
  rw [AB.out]
  clear z0 z1 z2 z3 z4 z5 z6 z7 z8 z9 z10 z11 z12 z13 z14 z15 z16
  have HS3 := Lib.hid (HS2.out.kp hg)
  clear hg
  obtain ⟨z0, z1, z2, z3, z4, z5, z6, z7, z8, z9, z10, z11, z12, z13, z14, z15, z16⟩ := HS3.out.cells
  go_wp2_with fail
  refine (cov_any k' a' X' k2 a2 X2 _).mono ?_; rintro e w4 ⟨rfl, hg⟩
  rw [BC.out]
  clear z0 z1 z2 z3 z4 z5 z6 z7 z8 z9 z10 z11 z12 z13 z14 z15 z16
  have HS4 := Lib.hid (HS3.out.kp hg)
  clear hg
  obtain ⟨z0, z1, z2, z3, z4, z5, z6, z7, z8, z9, z10, z11, z12, z13, z14, z15, z16⟩ := HS4.out.cells
  go_wp2_with fail
  refine (cov_any k a X k2 a2 X2 _).mono ?_; rintro e w5 ⟨rfl, hg⟩
  rw [AC.out]
  clear z0 z1 z2 z3 z4 z5 z6 z7 z8 z9 z10 z11 z12 z13 z14 z15 z16
  have HS5 := Lib.hid (HS4.out.kp hg)
  clear hg
  obtain ⟨z0, z1, z2, z3, z4, z5, z6, z7, z8, z9, z10, z11, z12, z13, z14, z15, z16⟩ := HS5.out.cells
  go_wp2_with fail
  refine (cov_any k a X k' a' X' _).mono ?_; rintro e w6 ⟨rfl, hg⟩
  rw [AB.out]
  clear z0 z1 z2 z3 z4 z5 z6 z7 z8 z9 z10 z11 z12 z13 z14 z15 z16
  have HS6 := Lib.hid (HS5.out.kp hg)
  clear hg
  obtain ⟨z0, z1, z2, z3, z4, z5, z6, z7, z8, z9, z10, z11, z12, z13, z14, z15, z16⟩ := HS6.out.cells
  go_wp2_with fail
  refine (hits_any k' a' X' b p f r _).mono ?_; rintro e w7 ⟨rfl, hg⟩
  rw [BE.out]
  clear z0 z1 z2 z3 z4 z5 z6 z7 z8 z9 z10 z11 z12 z13 z14 z15 z16
  have HS7 := Lib.hid (HS6.out.kp hg)
  clear hg
  obtain ⟨z0, z1, z2, z3, z4, z5, z6, z7, z8, z9, z10, z11, z12, z13, z14, z15, z16⟩ := HS7.out.cells
  go_wp2_with fail
  refine (hits_any k a X b p f r _).mono ?_; rintro e w8 ⟨rfl, hg⟩
  rw [AE.out]
  clear z0 z1 z2 z3 z4 z5 z6 z7 z8 z9 z10 z11 z12 z13 z14 z15 z16
  have HS8 := Lib.hid (HS7.out.kp hg)
  clear hg
  obtain ⟨z0, z1, z2, z3, z4, z5, z6, z7, z8, z9, z10, z11, z12, z13, z14, z15, z16⟩ := HS8.out.cells
  go_wp2_with fail
  refine (step_any k' a' X' b' l p' f' _).mono ?_; rintro e w9 ⟨rfl, hg⟩
  rw [BS.out]
  clear z0 z1 z2 z3 z4 z5 z6 z7 z8 z9 z10 z11 z12 z13 z14 z15 z16
  have HS9 := Lib.hid (HS8.out.kp hg)
  clear hg
  obtain ⟨z0, z1, z2, z3, z4, z5, z6, z7, z8, z9, z10, z11, z12, z13, z14, z15, z16⟩ := (HS9.out.kp (kpA w9 #[.int .i8 0, .int .i64 0, .int .u64 0] 25)).cells
  go_wp2_with fail
  refine (hits_any 0 0 0 b p f r _).mono ?_; rintro e w10 ⟨rfl, hg⟩
  rw [LE.out]
  clear z0 z1 z2 z3 z4 z5 z6 z7 z8 z9 z10 z11 z12 z13 z14 z15 z16
  have HN := Lib.hid ((Blk.new w9 #[.int .i8 0, .int .i64 0, .int .u64 0] 25).kp hg)
  have HS10 := Lib.hid ((HS9.out.kp (kpA w9 #[.int .i8 0, .int .i64 0, .int .u64 0] 25)).kp hg)
  clear hg
  obtain ⟨z0, z1, z2, z3, z4, z5, z6, z7, z8, z9, z10, z11, z12, z13, z14, z15, z16⟩ := HS10.out.cells
  have y0 := HN.out.cell 0
  have y1 := HN.out.cell 1
  have y2 := HN.out.cell 2
  simp at y0 y1 y2
  go_wp2_with fail
  refine (step_any 0 0 0 b' l p' f' _).mono ?_; rintro e w11 ⟨rfl, hg⟩
  rw [LS.out]
  clear y0 y1 y2 z0 z1 z2 z3 z4 z5 z6 z7 z8 z9 z10 z11 z12 z13 z14 z15 z16
  have HS11 := Lib.hid (HS10.out.kp hg)
  clear hg
  go_wp2_with fail
  refine (wakes_any _).mono ?_; rintro e w12 ⟨rfl, hg⟩
  have HS12 := Lib.hid (HS11.out.kp hg)
  clear hg
  go_wp2_with fail
  go_ret
  exact ⟨rfl, HS12.out.2.2.2.2.2⟩

set_option maxHeartbeats 2000000 in
theorem covers_101 (k a : Int) (X : Nat) (k' a' : Int) (X' : Nat) (k2 a2 : Int) (X2 : Nat) (b : Int) (p : Nat) (f : Int) (r : Bool) (b' l : Int) (p' : Nat) (f' : Int) (w : World) (m : MayP k a X) (ab : covB k a X k' a' X' = true) (bc : covB k' a' X' k2 a2 X2 = true) (be : hitsB k' a' X' b p 0 = false) (bs : stepB k' a' X' b' l p' = true) :
    Calls Try.prog 5 #[.agg #[.int .i8 k, .int .i64 a, .int .u64 X], .agg #[.int .i8 k', .int .i64 a', .int .u64 X'], .agg #[.int .i8 k2, .int .i64 a2, .int .u64 X2], .agg #[.int .i64 b, .int .u64 p, .int .i64 f, .bool r], .agg #[.int .i64 b', .int .i8 l, .int .u64 p', .int .i64 f']] w fun e w' => e = .returned (.bool true) ∧ Kp w w' := by
  have HS0 := Lib.hid (H5.new w k a X k' a' X' k2 a2 X2 b p f r b' l p' f')
  have HE := Lib.hid (enc_yes m)
  have C0 : Hid (covB k a X k a X = true) := Lib.hid (cov_self.trans (may_yes m))
  have AB := Lib.hid ab
  have BC := Lib.hid bc
  have BE := Lib.hid be
  have BS := Lib.hid bs
  have AC := Lib.hid (cov_trans ab bc)
  have AS := Lib.hid (cov_step ab bs)
  have LE : Hid (hitsB 0 0 0 b p 0 = true) := Lib.hid all_hits
  have LS : Hid (stepB 0 0 0 b' l p' = true) := Lib.hid all_step
  clear m ab bc be bs
  go_enter Try.func5, Try.ntmps5
  go_wp2_with fail
  refine (encode_any k a X _).mono ?_; rintro e w1 ⟨rfl, hg⟩
  rw [HE.out.1]
  have HS1 := Lib.hid (HS0.out.kp hg)
  clear hg
  obtain ⟨z0, z1, z2, z3, z4, z5, z6, z7, z8, z9, z10, z11, z12, z13, z14, z15, z16⟩ := HS1.out.cells
  go_wp2_with fail
  refine (cov_any k a X k a X _).mono ?_; rintro e w2 ⟨rfl, hg⟩
  rw [C0.out]
  clear z0 z1 z2 z3 z4 z5 z6 z7 z8 z9 z10 z11 z12 z13 z14 z15 z16
  have HS2 := Lib.hid (HS1.out.kp hg)
  clear hg
  obtain ⟨z0, z1, z2, z3, z4, z5, z6, z7, z8, z9, z10, z11, z12, z13, z14, z15, z16⟩ := HS2.out.cells
  go_wp2_with fail
  refine (cov_any k a X k' a' X' _).mono ?_; rintro e w3 ⟨rfl, hg⟩
  rw [AB.out]
  clear z0 z1 z2 z3 z4 z5 z6 z7 z8 z9 z10 z11 z12 z13 z14 z15 z16
  have HS3 := Lib.hid (HS2.out.kp hg)
  clear hg
  obtain ⟨z0, z1, z2, z3, z4, z5, z6, z7, z8, z9, z10, z11, z12, z13, z14, z15, z16⟩ := HS3.out.cells
  go_wp2_with fail
  refine (cov_any k' a' X' k2 a2 X2 _).mono ?_; rintro e w4 ⟨rfl, hg⟩
  rw [BC.out]
  clear z0 z1 z2 z3 z4 z5 z6 z7 z8 z9 z10 z11 z12 z13 z14 z15 z16
  have HS4 := Lib.hid (HS3.out.kp hg)
  clear hg
  obtain ⟨z0, z1, z2, z3, z4, z5, z6, z7, z8, z9, z10, z11, z12, z13, z14, z15, z16⟩ := HS4.out.cells
  go_wp2_with fail
  refine (cov_any k a X k2 a2 X2 _).mono ?_; rintro e w5 ⟨rfl, hg⟩
  rw [AC.out]
  clear z0 z1 z2 z3 z4 z5 z6 z7 z8 z9 z10 z11 z12 z13 z14 z15 z16
  have HS5 := Lib.hid (HS4.out.kp hg)
  clear hg
  obtain ⟨z0, z1, z2, z3, z4, z5, z6, z7, z8, z9, z10, z11, z12, z13, z14, z15, z16⟩ := HS5.out.cells
  go_wp2_with fail
  refine (cov_any k a X k' a' X' _).mono ?_; rintro e w6 ⟨rfl, hg⟩
  rw [AB.out]
  clear z0 z1 z2 z3 z4 z5 z6 z7 z8 z9 z10 z11 z12 z13 z14 z15 z16
  have HS6 := Lib.hid (HS5.out.kp hg)
  clear hg
  obtain ⟨z0, z1, z2, z3, z4, z5, z6, z7, z8, z9, z10, z11, z12, z13, z14, z15, z16⟩ := HS6.out.cells
  go_wp2_with fail
  refine (hits_any k' a' X' b p f r _).mono ?_; rintro e w7 ⟨rfl, hg⟩
  rw [BE.out]
  clear z0 z1 z2 z3 z4 z5 z6 z7 z8 z9 z10 z11 z12 z13 z14 z15 z16
  have HS7 := Lib.hid (HS6.out.kp hg)
  clear hg
  obtain ⟨z0, z1, z2, z3, z4, z5, z6, z7, z8, z9, z10, z11, z12, z13, z14, z15, z16⟩ := HS7.out.cells
  go_wp2_with fail
  refine (step_any k' a' X' b' l p' f' _).mono ?_; rintro e w8 ⟨rfl, hg⟩
  rw [BS.out]
  clear z0 z1 z2 z3 z4 z5 z6 z7 z8 z9 z10 z11 z12 z13 z14 z15 z16
  have HS8 := Lib.hid (HS7.out.kp hg)
  clear hg
  obtain ⟨z0, z1, z2, z3, z4, z5, z6, z7, z8, z9, z10, z11, z12, z13, z14, z15, z16⟩ := HS8.out.cells
  go_wp2_with fail
  refine (step_any k a X b' l p' f' _).mono ?_; rintro e w9 ⟨rfl, hg⟩
  rw [AS.out]
  clear z0 z1 z2 z3 z4 z5 z6 z7 z8 z9 z10 z11 z12 z13 z14 z15 z16
  have HS9 := Lib.hid (HS8.out.kp hg)
  clear hg
  obtain ⟨z0, z1, z2, z3, z4, z5, z6, z7, z8, z9, z10, z11, z12, z13, z14, z15, z16⟩ := (HS9.out.kp (kpA w9 #[.int .i8 0, .int .i64 0, .int .u64 0] 25)).cells
  go_wp2_with fail
  refine (hits_any 0 0 0 b p f r _).mono ?_; rintro e w10 ⟨rfl, hg⟩
  rw [LE.out]
  clear z0 z1 z2 z3 z4 z5 z6 z7 z8 z9 z10 z11 z12 z13 z14 z15 z16
  have HN := Lib.hid ((Blk.new w9 #[.int .i8 0, .int .i64 0, .int .u64 0] 25).kp hg)
  have HS10 := Lib.hid ((HS9.out.kp (kpA w9 #[.int .i8 0, .int .i64 0, .int .u64 0] 25)).kp hg)
  clear hg
  obtain ⟨z0, z1, z2, z3, z4, z5, z6, z7, z8, z9, z10, z11, z12, z13, z14, z15, z16⟩ := HS10.out.cells
  have y0 := HN.out.cell 0
  have y1 := HN.out.cell 1
  have y2 := HN.out.cell 2
  simp at y0 y1 y2
  go_wp2_with fail
  refine (step_any 0 0 0 b' l p' f' _).mono ?_; rintro e w11 ⟨rfl, hg⟩
  rw [LS.out]
  clear y0 y1 y2 z0 z1 z2 z3 z4 z5 z6 z7 z8 z9 z10 z11 z12 z13 z14 z15 z16
  have HS11 := Lib.hid (HS10.out.kp hg)
  clear hg
  go_wp2_with fail
  refine (wakes_any _).mono ?_; rintro e w12 ⟨rfl, hg⟩
  have HS12 := Lib.hid (HS11.out.kp hg)
  clear hg
  go_wp2_with fail
  go_ret
  exact ⟨rfl, HS12.out.2.2.2.2.2⟩

set_option maxHeartbeats 2000000 in
theorem covers_100 (k a : Int) (X : Nat) (k' a' : Int) (X' : Nat) (k2 a2 : Int) (X2 : Nat) (b : Int) (p : Nat) (f : Int) (r : Bool) (b' l : Int) (p' : Nat) (f' : Int) (w : World) (m : MayP k a X) (ab : covB k a X k' a' X' = true) (bc : covB k' a' X' k2 a2 X2 = true) (be : hitsB k' a' X' b p 0 = false) (bs : stepB k' a' X' b' l p' = false) :
    Calls Try.prog 5 #[.agg #[.int .i8 k, .int .i64 a, .int .u64 X], .agg #[.int .i8 k', .int .i64 a', .int .u64 X'], .agg #[.int .i8 k2, .int .i64 a2, .int .u64 X2], .agg #[.int .i64 b, .int .u64 p, .int .i64 f, .bool r], .agg #[.int .i64 b', .int .i8 l, .int .u64 p', .int .i64 f']] w fun e w' => e = .returned (.bool true) ∧ Kp w w' := by
  have HS0 := Lib.hid (H5.new w k a X k' a' X' k2 a2 X2 b p f r b' l p' f')
  have HE := Lib.hid (enc_yes m)
  have C0 : Hid (covB k a X k a X = true) := Lib.hid (cov_self.trans (may_yes m))
  have AB := Lib.hid ab
  have BC := Lib.hid bc
  have BE := Lib.hid be
  have BS := Lib.hid bs
  have AC := Lib.hid (cov_trans ab bc)
  have LE : Hid (hitsB 0 0 0 b p 0 = true) := Lib.hid all_hits
  have LS : Hid (stepB 0 0 0 b' l p' = true) := Lib.hid all_step
  clear m ab bc be bs
  go_enter Try.func5, Try.ntmps5
  go_wp2_with fail
  refine (encode_any k a X _).mono ?_; rintro e w1 ⟨rfl, hg⟩
  rw [HE.out.1]
  have HS1 := Lib.hid (HS0.out.kp hg)
  clear hg
  obtain ⟨z0, z1, z2, z3, z4, z5, z6, z7, z8, z9, z10, z11, z12, z13, z14, z15, z16⟩ := HS1.out.cells
  go_wp2_with fail
  refine (cov_any k a X k a X _).mono ?_; rintro e w2 ⟨rfl, hg⟩
  rw [C0.out]
  clear z0 z1 z2 z3 z4 z5 z6 z7 z8 z9 z10 z11 z12 z13 z14 z15 z16
  have HS2 := Lib.hid (HS1.out.kp hg)
  clear hg
  obtain ⟨z0, z1, z2, z3, z4, z5, z6, z7, z8, z9, z10, z11, z12, z13, z14, z15, z16⟩ := HS2.out.cells
  go_wp2_with fail
  refine (cov_any k a X k' a' X' _).mono ?_; rintro e w3 ⟨rfl, hg⟩
  rw [AB.out]
  clear z0 z1 z2 z3 z4 z5 z6 z7 z8 z9 z10 z11 z12 z13 z14 z15 z16
  have HS3 := Lib.hid (HS2.out.kp hg)
  clear hg
  obtain ⟨z0, z1, z2, z3, z4, z5, z6, z7, z8, z9, z10, z11, z12, z13, z14, z15, z16⟩ := HS3.out.cells
  go_wp2_with fail
  refine (cov_any k' a' X' k2 a2 X2 _).mono ?_; rintro e w4 ⟨rfl, hg⟩
  rw [BC.out]
  clear z0 z1 z2 z3 z4 z5 z6 z7 z8 z9 z10 z11 z12 z13 z14 z15 z16
  have HS4 := Lib.hid (HS3.out.kp hg)
  clear hg
  obtain ⟨z0, z1, z2, z3, z4, z5, z6, z7, z8, z9, z10, z11, z12, z13, z14, z15, z16⟩ := HS4.out.cells
  go_wp2_with fail
  refine (cov_any k a X k2 a2 X2 _).mono ?_; rintro e w5 ⟨rfl, hg⟩
  rw [AC.out]
  clear z0 z1 z2 z3 z4 z5 z6 z7 z8 z9 z10 z11 z12 z13 z14 z15 z16
  have HS5 := Lib.hid (HS4.out.kp hg)
  clear hg
  obtain ⟨z0, z1, z2, z3, z4, z5, z6, z7, z8, z9, z10, z11, z12, z13, z14, z15, z16⟩ := HS5.out.cells
  go_wp2_with fail
  refine (cov_any k a X k' a' X' _).mono ?_; rintro e w6 ⟨rfl, hg⟩
  rw [AB.out]
  clear z0 z1 z2 z3 z4 z5 z6 z7 z8 z9 z10 z11 z12 z13 z14 z15 z16
  have HS6 := Lib.hid (HS5.out.kp hg)
  clear hg
  obtain ⟨z0, z1, z2, z3, z4, z5, z6, z7, z8, z9, z10, z11, z12, z13, z14, z15, z16⟩ := HS6.out.cells
  go_wp2_with fail
  refine (hits_any k' a' X' b p f r _).mono ?_; rintro e w7 ⟨rfl, hg⟩
  rw [BE.out]
  clear z0 z1 z2 z3 z4 z5 z6 z7 z8 z9 z10 z11 z12 z13 z14 z15 z16
  have HS7 := Lib.hid (HS6.out.kp hg)
  clear hg
  obtain ⟨z0, z1, z2, z3, z4, z5, z6, z7, z8, z9, z10, z11, z12, z13, z14, z15, z16⟩ := HS7.out.cells
  go_wp2_with fail
  refine (step_any k' a' X' b' l p' f' _).mono ?_; rintro e w8 ⟨rfl, hg⟩
  rw [BS.out]
  clear z0 z1 z2 z3 z4 z5 z6 z7 z8 z9 z10 z11 z12 z13 z14 z15 z16
  have HS8 := Lib.hid (HS7.out.kp hg)
  clear hg
  obtain ⟨z0, z1, z2, z3, z4, z5, z6, z7, z8, z9, z10, z11, z12, z13, z14, z15, z16⟩ := (HS8.out.kp (kpA w8 #[.int .i8 0, .int .i64 0, .int .u64 0] 25)).cells
  go_wp2_with fail
  refine (hits_any 0 0 0 b p f r _).mono ?_; rintro e w9 ⟨rfl, hg⟩
  rw [LE.out]
  clear z0 z1 z2 z3 z4 z5 z6 z7 z8 z9 z10 z11 z12 z13 z14 z15 z16
  have HN := Lib.hid ((Blk.new w8 #[.int .i8 0, .int .i64 0, .int .u64 0] 25).kp hg)
  have HS9 := Lib.hid ((HS8.out.kp (kpA w8 #[.int .i8 0, .int .i64 0, .int .u64 0] 25)).kp hg)
  clear hg
  obtain ⟨z0, z1, z2, z3, z4, z5, z6, z7, z8, z9, z10, z11, z12, z13, z14, z15, z16⟩ := HS9.out.cells
  have y0 := HN.out.cell 0
  have y1 := HN.out.cell 1
  have y2 := HN.out.cell 2
  simp at y0 y1 y2
  go_wp2_with fail
  refine (step_any 0 0 0 b' l p' f' _).mono ?_; rintro e w10 ⟨rfl, hg⟩
  rw [LS.out]
  clear y0 y1 y2 z0 z1 z2 z3 z4 z5 z6 z7 z8 z9 z10 z11 z12 z13 z14 z15 z16
  have HS10 := Lib.hid (HS9.out.kp hg)
  clear hg
  go_wp2_with fail
  refine (wakes_any _).mono ?_; rintro e w11 ⟨rfl, hg⟩
  have HS11 := Lib.hid (HS10.out.kp hg)
  clear hg
  go_wp2_with fail
  go_ret
  exact ⟨rfl, HS11.out.2.2.2.2.2⟩

set_option maxHeartbeats 2000000 in
theorem covers_011 (k a : Int) (X : Nat) (k' a' : Int) (X' : Nat) (k2 a2 : Int) (X2 : Nat) (b : Int) (p : Nat) (f : Int) (r : Bool) (b' l : Int) (p' : Nat) (f' : Int) (w : World) (m : MayP k a X) (ab : covB k a X k' a' X' = true) (bc : covB k' a' X' k2 a2 X2 = false) (be : hitsB k' a' X' b p 0 = true) (bs : stepB k' a' X' b' l p' = true) :
    Calls Try.prog 5 #[.agg #[.int .i8 k, .int .i64 a, .int .u64 X], .agg #[.int .i8 k', .int .i64 a', .int .u64 X'], .agg #[.int .i8 k2, .int .i64 a2, .int .u64 X2], .agg #[.int .i64 b, .int .u64 p, .int .i64 f, .bool r], .agg #[.int .i64 b', .int .i8 l, .int .u64 p', .int .i64 f']] w fun e w' => e = .returned (.bool true) ∧ Kp w w' := by
  have HS0 := Lib.hid (H5.new w k a X k' a' X' k2 a2 X2 b p f r b' l p' f')
  have HE := Lib.hid (enc_yes m)
  have C0 : Hid (covB k a X k a X = true) := Lib.hid (cov_self.trans (may_yes m))
  have AB := Lib.hid ab
  have BC := Lib.hid bc
  have BE := Lib.hid be
  have BS := Lib.hid bs
  have AE := Lib.hid (cov_hits ab be)
  have AS := Lib.hid (cov_step ab bs)
  have LE : Hid (hitsB 0 0 0 b p 0 = true) := Lib.hid all_hits
  have LS : Hid (stepB 0 0 0 b' l p' = true) := Lib.hid all_step
  clear m ab bc be bs
  go_enter Try.func5, Try.ntmps5
  go_wp2_with fail
  refine (encode_any k a X _).mono ?_; rintro e w1 ⟨rfl, hg⟩
  rw [HE.out.1]
  have HS1 := Lib.hid (HS0.out.kp hg)
  clear hg
  obtain ⟨z0, z1, z2, z3, z4, z5, z6, z7, z8, z9, z10, z11, z12, z13, z14, z15, z16⟩ := HS1.out.cells
  go_wp2_with fail
  refine (cov_any k a X k a X _).mono ?_; rintro e w2 ⟨rfl, hg⟩
  rw [C0.out]
  clear z0 z1 z2 z3 z4 z5 z6 z7 z8 z9 z10 z11 z12 z13 z14 z15 z16
  have HS2 := Lib.hid (HS1.out.kp hg)
  clear hg
  obtain ⟨z0, z1, z2, z3, z4, z5, z6, z7, z8, z9, z10, z11, z12, z13, z14, z15, z16⟩ := HS2.out.cells
  go_wp2_with fail
  refine (cov_any k a X k' a' X' _).mono ?_; rintro e w3 ⟨rfl, hg⟩
  rw [AB.out]
  clear z0 z1 z2 z3 z4 z5 z6 z7 z8 z9 z10 z11 z12 z13 z14 z15 z16
  have HS3 := Lib.hid (HS2.out.kp hg)
  clear hg
  obtain ⟨z0, z1, z2, z3, z4, z5, z6, z7, z8, z9, z10, z11, z12, z13, z14, z15, z16⟩ := HS3.out.cells
  go_wp2_with fail
  refine (cov_any k' a' X' k2 a2 X2 _).mono ?_; rintro e w4 ⟨rfl, hg⟩
  rw [BC.out]
  clear z0 z1 z2 z3 z4 z5 z6 z7 z8 z9 z10 z11 z12 z13 z14 z15 z16
  have HS4 := Lib.hid (HS3.out.kp hg)
  clear hg
  obtain ⟨z0, z1, z2, z3, z4, z5, z6, z7, z8, z9, z10, z11, z12, z13, z14, z15, z16⟩ := HS4.out.cells
  go_wp2_with fail
  refine (cov_any k a X k' a' X' _).mono ?_; rintro e w5 ⟨rfl, hg⟩
  rw [AB.out]
  clear z0 z1 z2 z3 z4 z5 z6 z7 z8 z9 z10 z11 z12 z13 z14 z15 z16
  have HS5 := Lib.hid (HS4.out.kp hg)
  clear hg
  obtain ⟨z0, z1, z2, z3, z4, z5, z6, z7, z8, z9, z10, z11, z12, z13, z14, z15, z16⟩ := HS5.out.cells
  go_wp2_with fail
  refine (hits_any k' a' X' b p f r _).mono ?_; rintro e w6 ⟨rfl, hg⟩
  rw [BE.out]
  clear z0 z1 z2 z3 z4 z5 z6 z7 z8 z9 z10 z11 z12 z13 z14 z15 z16
  have HS6 := Lib.hid (HS5.out.kp hg)
  clear hg
  obtain ⟨z0, z1, z2, z3, z4, z5, z6, z7, z8, z9, z10, z11, z12, z13, z14, z15, z16⟩ := HS6.out.cells
  go_wp2_with fail
  refine (hits_any k a X b p f r _).mono ?_; rintro e w7 ⟨rfl, hg⟩
  rw [AE.out]
  clear z0 z1 z2 z3 z4 z5 z6 z7 z8 z9 z10 z11 z12 z13 z14 z15 z16
  have HS7 := Lib.hid (HS6.out.kp hg)
  clear hg
  obtain ⟨z0, z1, z2, z3, z4, z5, z6, z7, z8, z9, z10, z11, z12, z13, z14, z15, z16⟩ := HS7.out.cells
  go_wp2_with fail
  refine (step_any k' a' X' b' l p' f' _).mono ?_; rintro e w8 ⟨rfl, hg⟩
  rw [BS.out]
  clear z0 z1 z2 z3 z4 z5 z6 z7 z8 z9 z10 z11 z12 z13 z14 z15 z16
  have HS8 := Lib.hid (HS7.out.kp hg)
  clear hg
  obtain ⟨z0, z1, z2, z3, z4, z5, z6, z7, z8, z9, z10, z11, z12, z13, z14, z15, z16⟩ := HS8.out.cells
  go_wp2_with fail
  refine (step_any k a X b' l p' f' _).mono ?_; rintro e w9 ⟨rfl, hg⟩
  rw [AS.out]
  clear z0 z1 z2 z3 z4 z5 z6 z7 z8 z9 z10 z11 z12 z13 z14 z15 z16
  have HS9 := Lib.hid (HS8.out.kp hg)
  clear hg
  obtain ⟨z0, z1, z2, z3, z4, z5, z6, z7, z8, z9, z10, z11, z12, z13, z14, z15, z16⟩ := (HS9.out.kp (kpA w9 #[.int .i8 0, .int .i64 0, .int .u64 0] 25)).cells
  go_wp2_with fail
  refine (hits_any 0 0 0 b p f r _).mono ?_; rintro e w10 ⟨rfl, hg⟩
  rw [LE.out]
  clear z0 z1 z2 z3 z4 z5 z6 z7 z8 z9 z10 z11 z12 z13 z14 z15 z16
  have HN := Lib.hid ((Blk.new w9 #[.int .i8 0, .int .i64 0, .int .u64 0] 25).kp hg)
  have HS10 := Lib.hid ((HS9.out.kp (kpA w9 #[.int .i8 0, .int .i64 0, .int .u64 0] 25)).kp hg)
  clear hg
  obtain ⟨z0, z1, z2, z3, z4, z5, z6, z7, z8, z9, z10, z11, z12, z13, z14, z15, z16⟩ := HS10.out.cells
  have y0 := HN.out.cell 0
  have y1 := HN.out.cell 1
  have y2 := HN.out.cell 2
  simp at y0 y1 y2
  go_wp2_with fail
  refine (step_any 0 0 0 b' l p' f' _).mono ?_; rintro e w11 ⟨rfl, hg⟩
  rw [LS.out]
  clear y0 y1 y2 z0 z1 z2 z3 z4 z5 z6 z7 z8 z9 z10 z11 z12 z13 z14 z15 z16
  have HS11 := Lib.hid (HS10.out.kp hg)
  clear hg
  go_wp2_with fail
  refine (wakes_any _).mono ?_; rintro e w12 ⟨rfl, hg⟩
  have HS12 := Lib.hid (HS11.out.kp hg)
  clear hg
  go_wp2_with fail
  go_ret
  exact ⟨rfl, HS12.out.2.2.2.2.2⟩

set_option maxHeartbeats 2000000 in
theorem covers_010 (k a : Int) (X : Nat) (k' a' : Int) (X' : Nat) (k2 a2 : Int) (X2 : Nat) (b : Int) (p : Nat) (f : Int) (r : Bool) (b' l : Int) (p' : Nat) (f' : Int) (w : World) (m : MayP k a X) (ab : covB k a X k' a' X' = true) (bc : covB k' a' X' k2 a2 X2 = false) (be : hitsB k' a' X' b p 0 = true) (bs : stepB k' a' X' b' l p' = false) :
    Calls Try.prog 5 #[.agg #[.int .i8 k, .int .i64 a, .int .u64 X], .agg #[.int .i8 k', .int .i64 a', .int .u64 X'], .agg #[.int .i8 k2, .int .i64 a2, .int .u64 X2], .agg #[.int .i64 b, .int .u64 p, .int .i64 f, .bool r], .agg #[.int .i64 b', .int .i8 l, .int .u64 p', .int .i64 f']] w fun e w' => e = .returned (.bool true) ∧ Kp w w' := by
  have HS0 := Lib.hid (H5.new w k a X k' a' X' k2 a2 X2 b p f r b' l p' f')
  have HE := Lib.hid (enc_yes m)
  have C0 : Hid (covB k a X k a X = true) := Lib.hid (cov_self.trans (may_yes m))
  have AB := Lib.hid ab
  have BC := Lib.hid bc
  have BE := Lib.hid be
  have BS := Lib.hid bs
  have AE := Lib.hid (cov_hits ab be)
  have LE : Hid (hitsB 0 0 0 b p 0 = true) := Lib.hid all_hits
  have LS : Hid (stepB 0 0 0 b' l p' = true) := Lib.hid all_step
  clear m ab bc be bs
  go_enter Try.func5, Try.ntmps5
  go_wp2_with fail
  refine (encode_any k a X _).mono ?_; rintro e w1 ⟨rfl, hg⟩
  rw [HE.out.1]
  have HS1 := Lib.hid (HS0.out.kp hg)
  clear hg
  obtain ⟨z0, z1, z2, z3, z4, z5, z6, z7, z8, z9, z10, z11, z12, z13, z14, z15, z16⟩ := HS1.out.cells
  go_wp2_with fail
  refine (cov_any k a X k a X _).mono ?_; rintro e w2 ⟨rfl, hg⟩
  rw [C0.out]
  clear z0 z1 z2 z3 z4 z5 z6 z7 z8 z9 z10 z11 z12 z13 z14 z15 z16
  have HS2 := Lib.hid (HS1.out.kp hg)
  clear hg
  obtain ⟨z0, z1, z2, z3, z4, z5, z6, z7, z8, z9, z10, z11, z12, z13, z14, z15, z16⟩ := HS2.out.cells
  go_wp2_with fail
  refine (cov_any k a X k' a' X' _).mono ?_; rintro e w3 ⟨rfl, hg⟩
  rw [AB.out]
  clear z0 z1 z2 z3 z4 z5 z6 z7 z8 z9 z10 z11 z12 z13 z14 z15 z16
  have HS3 := Lib.hid (HS2.out.kp hg)
  clear hg
  obtain ⟨z0, z1, z2, z3, z4, z5, z6, z7, z8, z9, z10, z11, z12, z13, z14, z15, z16⟩ := HS3.out.cells
  go_wp2_with fail
  refine (cov_any k' a' X' k2 a2 X2 _).mono ?_; rintro e w4 ⟨rfl, hg⟩
  rw [BC.out]
  clear z0 z1 z2 z3 z4 z5 z6 z7 z8 z9 z10 z11 z12 z13 z14 z15 z16
  have HS4 := Lib.hid (HS3.out.kp hg)
  clear hg
  obtain ⟨z0, z1, z2, z3, z4, z5, z6, z7, z8, z9, z10, z11, z12, z13, z14, z15, z16⟩ := HS4.out.cells
  go_wp2_with fail
  refine (cov_any k a X k' a' X' _).mono ?_; rintro e w5 ⟨rfl, hg⟩
  rw [AB.out]
  clear z0 z1 z2 z3 z4 z5 z6 z7 z8 z9 z10 z11 z12 z13 z14 z15 z16
  have HS5 := Lib.hid (HS4.out.kp hg)
  clear hg
  obtain ⟨z0, z1, z2, z3, z4, z5, z6, z7, z8, z9, z10, z11, z12, z13, z14, z15, z16⟩ := HS5.out.cells
  go_wp2_with fail
  refine (hits_any k' a' X' b p f r _).mono ?_; rintro e w6 ⟨rfl, hg⟩
  rw [BE.out]
  clear z0 z1 z2 z3 z4 z5 z6 z7 z8 z9 z10 z11 z12 z13 z14 z15 z16
  have HS6 := Lib.hid (HS5.out.kp hg)
  clear hg
  obtain ⟨z0, z1, z2, z3, z4, z5, z6, z7, z8, z9, z10, z11, z12, z13, z14, z15, z16⟩ := HS6.out.cells
  go_wp2_with fail
  refine (hits_any k a X b p f r _).mono ?_; rintro e w7 ⟨rfl, hg⟩
  rw [AE.out]
  clear z0 z1 z2 z3 z4 z5 z6 z7 z8 z9 z10 z11 z12 z13 z14 z15 z16
  have HS7 := Lib.hid (HS6.out.kp hg)
  clear hg
  obtain ⟨z0, z1, z2, z3, z4, z5, z6, z7, z8, z9, z10, z11, z12, z13, z14, z15, z16⟩ := HS7.out.cells
  go_wp2_with fail
  refine (step_any k' a' X' b' l p' f' _).mono ?_; rintro e w8 ⟨rfl, hg⟩
  rw [BS.out]
  clear z0 z1 z2 z3 z4 z5 z6 z7 z8 z9 z10 z11 z12 z13 z14 z15 z16
  have HS8 := Lib.hid (HS7.out.kp hg)
  clear hg
  obtain ⟨z0, z1, z2, z3, z4, z5, z6, z7, z8, z9, z10, z11, z12, z13, z14, z15, z16⟩ := (HS8.out.kp (kpA w8 #[.int .i8 0, .int .i64 0, .int .u64 0] 25)).cells
  go_wp2_with fail
  refine (hits_any 0 0 0 b p f r _).mono ?_; rintro e w9 ⟨rfl, hg⟩
  rw [LE.out]
  clear z0 z1 z2 z3 z4 z5 z6 z7 z8 z9 z10 z11 z12 z13 z14 z15 z16
  have HN := Lib.hid ((Blk.new w8 #[.int .i8 0, .int .i64 0, .int .u64 0] 25).kp hg)
  have HS9 := Lib.hid ((HS8.out.kp (kpA w8 #[.int .i8 0, .int .i64 0, .int .u64 0] 25)).kp hg)
  clear hg
  obtain ⟨z0, z1, z2, z3, z4, z5, z6, z7, z8, z9, z10, z11, z12, z13, z14, z15, z16⟩ := HS9.out.cells
  have y0 := HN.out.cell 0
  have y1 := HN.out.cell 1
  have y2 := HN.out.cell 2
  simp at y0 y1 y2
  go_wp2_with fail
  refine (step_any 0 0 0 b' l p' f' _).mono ?_; rintro e w10 ⟨rfl, hg⟩
  rw [LS.out]
  clear y0 y1 y2 z0 z1 z2 z3 z4 z5 z6 z7 z8 z9 z10 z11 z12 z13 z14 z15 z16
  have HS10 := Lib.hid (HS9.out.kp hg)
  clear hg
  go_wp2_with fail
  refine (wakes_any _).mono ?_; rintro e w11 ⟨rfl, hg⟩
  have HS11 := Lib.hid (HS10.out.kp hg)
  clear hg
  go_wp2_with fail
  go_ret
  exact ⟨rfl, HS11.out.2.2.2.2.2⟩

set_option maxHeartbeats 2000000 in
theorem covers_001 (k a : Int) (X : Nat) (k' a' : Int) (X' : Nat) (k2 a2 : Int) (X2 : Nat) (b : Int) (p : Nat) (f : Int) (r : Bool) (b' l : Int) (p' : Nat) (f' : Int) (w : World) (m : MayP k a X) (ab : covB k a X k' a' X' = true) (bc : covB k' a' X' k2 a2 X2 = false) (be : hitsB k' a' X' b p 0 = false) (bs : stepB k' a' X' b' l p' = true) :
    Calls Try.prog 5 #[.agg #[.int .i8 k, .int .i64 a, .int .u64 X], .agg #[.int .i8 k', .int .i64 a', .int .u64 X'], .agg #[.int .i8 k2, .int .i64 a2, .int .u64 X2], .agg #[.int .i64 b, .int .u64 p, .int .i64 f, .bool r], .agg #[.int .i64 b', .int .i8 l, .int .u64 p', .int .i64 f']] w fun e w' => e = .returned (.bool true) ∧ Kp w w' := by
  have HS0 := Lib.hid (H5.new w k a X k' a' X' k2 a2 X2 b p f r b' l p' f')
  have HE := Lib.hid (enc_yes m)
  have C0 : Hid (covB k a X k a X = true) := Lib.hid (cov_self.trans (may_yes m))
  have AB := Lib.hid ab
  have BC := Lib.hid bc
  have BE := Lib.hid be
  have BS := Lib.hid bs
  have AS := Lib.hid (cov_step ab bs)
  have LE : Hid (hitsB 0 0 0 b p 0 = true) := Lib.hid all_hits
  have LS : Hid (stepB 0 0 0 b' l p' = true) := Lib.hid all_step
  clear m ab bc be bs
  go_enter Try.func5, Try.ntmps5
  go_wp2_with fail
  refine (encode_any k a X _).mono ?_; rintro e w1 ⟨rfl, hg⟩
  rw [HE.out.1]
  have HS1 := Lib.hid (HS0.out.kp hg)
  clear hg
  obtain ⟨z0, z1, z2, z3, z4, z5, z6, z7, z8, z9, z10, z11, z12, z13, z14, z15, z16⟩ := HS1.out.cells
  go_wp2_with fail
  refine (cov_any k a X k a X _).mono ?_; rintro e w2 ⟨rfl, hg⟩
  rw [C0.out]
  clear z0 z1 z2 z3 z4 z5 z6 z7 z8 z9 z10 z11 z12 z13 z14 z15 z16
  have HS2 := Lib.hid (HS1.out.kp hg)
  clear hg
  obtain ⟨z0, z1, z2, z3, z4, z5, z6, z7, z8, z9, z10, z11, z12, z13, z14, z15, z16⟩ := HS2.out.cells
  go_wp2_with fail
  refine (cov_any k a X k' a' X' _).mono ?_; rintro e w3 ⟨rfl, hg⟩
  rw [AB.out]
  clear z0 z1 z2 z3 z4 z5 z6 z7 z8 z9 z10 z11 z12 z13 z14 z15 z16
  have HS3 := Lib.hid (HS2.out.kp hg)
  clear hg
  obtain ⟨z0, z1, z2, z3, z4, z5, z6, z7, z8, z9, z10, z11, z12, z13, z14, z15, z16⟩ := HS3.out.cells
  go_wp2_with fail
  refine (cov_any k' a' X' k2 a2 X2 _).mono ?_; rintro e w4 ⟨rfl, hg⟩
  rw [BC.out]
  clear z0 z1 z2 z3 z4 z5 z6 z7 z8 z9 z10 z11 z12 z13 z14 z15 z16
  have HS4 := Lib.hid (HS3.out.kp hg)
  clear hg
  obtain ⟨z0, z1, z2, z3, z4, z5, z6, z7, z8, z9, z10, z11, z12, z13, z14, z15, z16⟩ := HS4.out.cells
  go_wp2_with fail
  refine (cov_any k a X k' a' X' _).mono ?_; rintro e w5 ⟨rfl, hg⟩
  rw [AB.out]
  clear z0 z1 z2 z3 z4 z5 z6 z7 z8 z9 z10 z11 z12 z13 z14 z15 z16
  have HS5 := Lib.hid (HS4.out.kp hg)
  clear hg
  obtain ⟨z0, z1, z2, z3, z4, z5, z6, z7, z8, z9, z10, z11, z12, z13, z14, z15, z16⟩ := HS5.out.cells
  go_wp2_with fail
  refine (hits_any k' a' X' b p f r _).mono ?_; rintro e w6 ⟨rfl, hg⟩
  rw [BE.out]
  clear z0 z1 z2 z3 z4 z5 z6 z7 z8 z9 z10 z11 z12 z13 z14 z15 z16
  have HS6 := Lib.hid (HS5.out.kp hg)
  clear hg
  obtain ⟨z0, z1, z2, z3, z4, z5, z6, z7, z8, z9, z10, z11, z12, z13, z14, z15, z16⟩ := HS6.out.cells
  go_wp2_with fail
  refine (step_any k' a' X' b' l p' f' _).mono ?_; rintro e w7 ⟨rfl, hg⟩
  rw [BS.out]
  clear z0 z1 z2 z3 z4 z5 z6 z7 z8 z9 z10 z11 z12 z13 z14 z15 z16
  have HS7 := Lib.hid (HS6.out.kp hg)
  clear hg
  obtain ⟨z0, z1, z2, z3, z4, z5, z6, z7, z8, z9, z10, z11, z12, z13, z14, z15, z16⟩ := HS7.out.cells
  go_wp2_with fail
  refine (step_any k a X b' l p' f' _).mono ?_; rintro e w8 ⟨rfl, hg⟩
  rw [AS.out]
  clear z0 z1 z2 z3 z4 z5 z6 z7 z8 z9 z10 z11 z12 z13 z14 z15 z16
  have HS8 := Lib.hid (HS7.out.kp hg)
  clear hg
  obtain ⟨z0, z1, z2, z3, z4, z5, z6, z7, z8, z9, z10, z11, z12, z13, z14, z15, z16⟩ := (HS8.out.kp (kpA w8 #[.int .i8 0, .int .i64 0, .int .u64 0] 25)).cells
  go_wp2_with fail
  refine (hits_any 0 0 0 b p f r _).mono ?_; rintro e w9 ⟨rfl, hg⟩
  rw [LE.out]
  clear z0 z1 z2 z3 z4 z5 z6 z7 z8 z9 z10 z11 z12 z13 z14 z15 z16
  have HN := Lib.hid ((Blk.new w8 #[.int .i8 0, .int .i64 0, .int .u64 0] 25).kp hg)
  have HS9 := Lib.hid ((HS8.out.kp (kpA w8 #[.int .i8 0, .int .i64 0, .int .u64 0] 25)).kp hg)
  clear hg
  obtain ⟨z0, z1, z2, z3, z4, z5, z6, z7, z8, z9, z10, z11, z12, z13, z14, z15, z16⟩ := HS9.out.cells
  have y0 := HN.out.cell 0
  have y1 := HN.out.cell 1
  have y2 := HN.out.cell 2
  simp at y0 y1 y2
  go_wp2_with fail
  refine (step_any 0 0 0 b' l p' f' _).mono ?_; rintro e w10 ⟨rfl, hg⟩
  rw [LS.out]
  clear y0 y1 y2 z0 z1 z2 z3 z4 z5 z6 z7 z8 z9 z10 z11 z12 z13 z14 z15 z16
  have HS10 := Lib.hid (HS9.out.kp hg)
  clear hg
  go_wp2_with fail
  refine (wakes_any _).mono ?_; rintro e w11 ⟨rfl, hg⟩
  have HS11 := Lib.hid (HS10.out.kp hg)
  clear hg
  go_wp2_with fail
  go_ret
  exact ⟨rfl, HS11.out.2.2.2.2.2⟩

set_option maxHeartbeats 2000000 in
theorem covers_000 (k a : Int) (X : Nat) (k' a' : Int) (X' : Nat) (k2 a2 : Int) (X2 : Nat) (b : Int) (p : Nat) (f : Int) (r : Bool) (b' l : Int) (p' : Nat) (f' : Int) (w : World) (m : MayP k a X) (ab : covB k a X k' a' X' = true) (bc : covB k' a' X' k2 a2 X2 = false) (be : hitsB k' a' X' b p 0 = false) (bs : stepB k' a' X' b' l p' = false) :
    Calls Try.prog 5 #[.agg #[.int .i8 k, .int .i64 a, .int .u64 X], .agg #[.int .i8 k', .int .i64 a', .int .u64 X'], .agg #[.int .i8 k2, .int .i64 a2, .int .u64 X2], .agg #[.int .i64 b, .int .u64 p, .int .i64 f, .bool r], .agg #[.int .i64 b', .int .i8 l, .int .u64 p', .int .i64 f']] w fun e w' => e = .returned (.bool true) ∧ Kp w w' := by
  have HS0 := Lib.hid (H5.new w k a X k' a' X' k2 a2 X2 b p f r b' l p' f')
  have HE := Lib.hid (enc_yes m)
  have C0 : Hid (covB k a X k a X = true) := Lib.hid (cov_self.trans (may_yes m))
  have AB := Lib.hid ab
  have BC := Lib.hid bc
  have BE := Lib.hid be
  have BS := Lib.hid bs
  have LE : Hid (hitsB 0 0 0 b p 0 = true) := Lib.hid all_hits
  have LS : Hid (stepB 0 0 0 b' l p' = true) := Lib.hid all_step
  clear m ab bc be bs
  go_enter Try.func5, Try.ntmps5
  go_wp2_with fail
  refine (encode_any k a X _).mono ?_; rintro e w1 ⟨rfl, hg⟩
  rw [HE.out.1]
  have HS1 := Lib.hid (HS0.out.kp hg)
  clear hg
  obtain ⟨z0, z1, z2, z3, z4, z5, z6, z7, z8, z9, z10, z11, z12, z13, z14, z15, z16⟩ := HS1.out.cells
  go_wp2_with fail
  refine (cov_any k a X k a X _).mono ?_; rintro e w2 ⟨rfl, hg⟩
  rw [C0.out]
  clear z0 z1 z2 z3 z4 z5 z6 z7 z8 z9 z10 z11 z12 z13 z14 z15 z16
  have HS2 := Lib.hid (HS1.out.kp hg)
  clear hg
  obtain ⟨z0, z1, z2, z3, z4, z5, z6, z7, z8, z9, z10, z11, z12, z13, z14, z15, z16⟩ := HS2.out.cells
  go_wp2_with fail
  refine (cov_any k a X k' a' X' _).mono ?_; rintro e w3 ⟨rfl, hg⟩
  rw [AB.out]
  clear z0 z1 z2 z3 z4 z5 z6 z7 z8 z9 z10 z11 z12 z13 z14 z15 z16
  have HS3 := Lib.hid (HS2.out.kp hg)
  clear hg
  obtain ⟨z0, z1, z2, z3, z4, z5, z6, z7, z8, z9, z10, z11, z12, z13, z14, z15, z16⟩ := HS3.out.cells
  go_wp2_with fail
  refine (cov_any k' a' X' k2 a2 X2 _).mono ?_; rintro e w4 ⟨rfl, hg⟩
  rw [BC.out]
  clear z0 z1 z2 z3 z4 z5 z6 z7 z8 z9 z10 z11 z12 z13 z14 z15 z16
  have HS4 := Lib.hid (HS3.out.kp hg)
  clear hg
  obtain ⟨z0, z1, z2, z3, z4, z5, z6, z7, z8, z9, z10, z11, z12, z13, z14, z15, z16⟩ := HS4.out.cells
  go_wp2_with fail
  refine (cov_any k a X k' a' X' _).mono ?_; rintro e w5 ⟨rfl, hg⟩
  rw [AB.out]
  clear z0 z1 z2 z3 z4 z5 z6 z7 z8 z9 z10 z11 z12 z13 z14 z15 z16
  have HS5 := Lib.hid (HS4.out.kp hg)
  clear hg
  obtain ⟨z0, z1, z2, z3, z4, z5, z6, z7, z8, z9, z10, z11, z12, z13, z14, z15, z16⟩ := HS5.out.cells
  go_wp2_with fail
  refine (hits_any k' a' X' b p f r _).mono ?_; rintro e w6 ⟨rfl, hg⟩
  rw [BE.out]
  clear z0 z1 z2 z3 z4 z5 z6 z7 z8 z9 z10 z11 z12 z13 z14 z15 z16
  have HS6 := Lib.hid (HS5.out.kp hg)
  clear hg
  obtain ⟨z0, z1, z2, z3, z4, z5, z6, z7, z8, z9, z10, z11, z12, z13, z14, z15, z16⟩ := HS6.out.cells
  go_wp2_with fail
  refine (step_any k' a' X' b' l p' f' _).mono ?_; rintro e w7 ⟨rfl, hg⟩
  rw [BS.out]
  clear z0 z1 z2 z3 z4 z5 z6 z7 z8 z9 z10 z11 z12 z13 z14 z15 z16
  have HS7 := Lib.hid (HS6.out.kp hg)
  clear hg
  obtain ⟨z0, z1, z2, z3, z4, z5, z6, z7, z8, z9, z10, z11, z12, z13, z14, z15, z16⟩ := (HS7.out.kp (kpA w7 #[.int .i8 0, .int .i64 0, .int .u64 0] 25)).cells
  go_wp2_with fail
  refine (hits_any 0 0 0 b p f r _).mono ?_; rintro e w8 ⟨rfl, hg⟩
  rw [LE.out]
  clear z0 z1 z2 z3 z4 z5 z6 z7 z8 z9 z10 z11 z12 z13 z14 z15 z16
  have HN := Lib.hid ((Blk.new w7 #[.int .i8 0, .int .i64 0, .int .u64 0] 25).kp hg)
  have HS8 := Lib.hid ((HS7.out.kp (kpA w7 #[.int .i8 0, .int .i64 0, .int .u64 0] 25)).kp hg)
  clear hg
  obtain ⟨z0, z1, z2, z3, z4, z5, z6, z7, z8, z9, z10, z11, z12, z13, z14, z15, z16⟩ := HS8.out.cells
  have y0 := HN.out.cell 0
  have y1 := HN.out.cell 1
  have y2 := HN.out.cell 2
  simp at y0 y1 y2
  go_wp2_with fail
  refine (step_any 0 0 0 b' l p' f' _).mono ?_; rintro e w9 ⟨rfl, hg⟩
  rw [LS.out]
  clear y0 y1 y2 z0 z1 z2 z3 z4 z5 z6 z7 z8 z9 z10 z11 z12 z13 z14 z15 z16
  have HS9 := Lib.hid (HS8.out.kp hg)
  clear hg
  go_wp2_with fail
  refine (wakes_any _).mono ?_; rintro e w10 ⟨rfl, hg⟩
  have HS10 := Lib.hid (HS9.out.kp hg)
  clear hg
  go_wp2_with fail
  go_ret
  exact ⟨rfl, HS10.out.2.2.2.2.2⟩

theorem covers_any (k a : Int) (X : Nat) (k' a' : Int) (X' : Nat) (k2 a2 : Int) (X2 : Nat) (b : Int) (p : Nat) (f : Int) (r : Bool) (b' l : Int) (p' : Nat) (f' : Int) (w : World) :
    Calls Try.prog 5 #[.agg #[.int .i8 k, .int .i64 a, .int .u64 X], .agg #[.int .i8 k', .int .i64 a', .int .u64 X'], .agg #[.int .i8 k2, .int .i64 a2, .int .u64 X2], .agg #[.int .i64 b, .int .u64 p, .int .i64 f, .bool r], .agg #[.int .i64 b', .int .i8 l, .int .u64 p', .int .i64 f']] w fun e w' => e = .returned (.bool true) ∧ Kp w w' := by
  by_cases m : MayP k a X
  · cases ab : covB k a X k' a' X'
    · exact covers_f k a X k' a' X' k2 a2 X2 b p f r b' l p' f' w m ab
    · cases bc : covB k' a' X' k2 a2 X2 <;> cases be : hitsB k' a' X' b p 0 <;> cases bs : stepB k' a' X' b' l p'
      · exact covers_000 k a X k' a' X' k2 a2 X2 b p f r b' l p' f' w m ab bc be bs
      · exact covers_001 k a X k' a' X' k2 a2 X2 b p f r b' l p' f' w m ab bc be bs
      · exact covers_010 k a X k' a' X' k2 a2 X2 b p f r b' l p' f' w m ab bc be bs
      · exact covers_011 k a X k' a' X' k2 a2 X2 b p f r b' l p' f' w m ab bc be bs
      · exact covers_100 k a X k' a' X' k2 a2 X2 b p f r b' l p' f' w m ab bc be bs
      · exact covers_101 k a X k' a' X' k2 a2 X2 b p f r b' l p' f' w m ab bc be bs
      · exact covers_110 k a X k' a' X' k2 a2 X2 b p f r b' l p' f' w m ab bc be bs
      · exact covers_111 k a X k' a' X' k2 a2 X2 b p f r b' l p' f' w m ab bc be bs
  · exact covers_n k a X k' a' X' k2 a2 X2 b p f r b' l p' f' w m
theorem walkCovers (k a X k' a' X' k2 a2 X2 b p f : Int) (r : Bool) (b' l p' f' : Int) (wX : (Lit.int .u64 X).wf = true) (wX' : (Lit.int .u64 X').wf = true) (wX2 : (Lit.int .u64 X2).wf = true) (wp : (Lit.int .u64 p).wf = true) (wp' : (Lit.int .u64 p').wf = true) (w : World) :
    Calls Try.prog 5 #[.agg #[.int .i8 k, .int .i64 a, .int .u64 X], .agg #[.int .i8 k', .int .i64 a', .int .u64 X'], .agg #[.int .i8 k2, .int .i64 a2, .int .u64 X2], .agg #[.int .i64 b, .int .u64 p, .int .i64 f, .bool r], .agg #[.int .i64 b', .int .i8 l, .int .u64 p', .int .i64 f']] w fun e w' => e = .returned (.bool true) ∧ Kp w w' := by
  obtain ⟨X, rfl, -⟩ := nat_of X wX
  obtain ⟨X', rfl, -⟩ := nat_of X' wX'
  obtain ⟨X2, rfl, -⟩ := nat_of X2 wX2
  obtain ⟨p, rfl, -⟩ := nat_of p wp
  obtain ⟨p', rfl, -⟩ := nat_of p' wp'
  exact covers_any k a X k' a' X' k2 a2 X2 b p f r b' l p' f' w
end Go.Proofs.Ytgchpicfhbhikaa
