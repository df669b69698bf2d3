/-
  InvalSplit returns true. No condition.
-/
import Derived.Test.YtgchpicfhbhikaaCovers05
namespace Go.Proofs.Ytgchpicfhbhikaa
open Go Go.RowKit
set_option linter.unusedVariables false

theorem sp_may1 {a : Int} (h0 : 0 ≤ a) (h1 : a ≤ 255) : MayP 1 a 0 := by unfold MayP; omega
theorem sp_may2 {a : Int} {X : Nat} (h0 : 0 ≤ a) (h1 : a ≤ 255) (hX : X < 34359738368) : MayP 2 a X := by unfold MayP; omega
theorem sp_all {a b : Int} {p : Nat} (h0 : 0 ≤ a) (h1 : a ≤ 255) : hitsB 1 a 0 b p 0 = (a == b) := by
  rw [Bool.eq_iff_iff, hits_iff, beq_iff_eq]
  exact ⟨fun h => by rcases h.2 with g | g; cases g; exact g.1, fun h => ⟨sp_may1 h0 h1, .inr ⟨h, .inl rfl⟩⟩⟩
theorem sp_page {a b : Int} {p : Nat} (h0 : 0 ≤ a) (h1 : a ≤ 255) (hp : p < 34359738368) : hitsB 2 a p b p 0 = (a == b) := by
  rw [Bool.eq_iff_iff, hits_iff, beq_iff_eq]
  exact ⟨fun h => by rcases h.2 with g | g; cases g; exact g.1, fun h => ⟨sp_may2 h0 h1 hp, .inr ⟨h, .inr (by simp)⟩⟩⟩
theorem sp_step {a : Int} {X : Nat} {b l : Int} {p : Nat} (h0 : 0 ≤ a) (h1 : a ≤ 255) (g : stepB 2 a X b l p = true) : stepB 1 a 0 b l p = true := by
  unfold stepB at *
  split at g
  · rename_i hl
    rw [if_pos hl]
    rw [hits_iff] at *
    refine ⟨sp_may1 h0 h1, .inr ⟨?_, .inl rfl⟩⟩
    rcases g.2 with g | g
    · cases g
    · exact g.1
  · rw [decide_eq_true_iff] at g
    cases g.2

def HP (w w' : World) (a b : Int) (p : Nat) (f : Int) (r : Bool) (b' l : Int) (p' : Nat) (f' : Int) : Prop :=
  Blk w' w.heap.size #[.int .i64 b, .int .u64 p, .int .i64 f, .bool r] 27 ∧ Blk w' (w.heap.size + 1) #[.int .i64 b', .int .i8 l, .int .u64 p', .int .i64 f'] 29 ∧ Blk w' (w.heap.size + 2) #[.int .i8 2, .int .i64 a, .int .u64 p] 25 ∧ Blk w' (w.heap.size + 3) #[.int .i8 1, .int .i64 a, .int .u64 0] 25 ∧ Blk w' (w.heap.size + 4) #[.int .i8 1, .int .i64 b, .int .u64 0] 25 ∧ Kp w w'
theorem HP.kp {w w1 w2 : World} {a b : Int} {p : Nat} {f : Int} {r : Bool} {b' l : Int} {p' : Nat} {f' : Int} (h : HP w w1 a b p f r b' l p' f') (g : Kp w1 w2) : HP w w2 a b p f r b' l p' f' :=
  ⟨h.1.kp g, h.2.1.kp g, h.2.2.1.kp g, h.2.2.2.1.kp g, h.2.2.2.2.1.kp g, h.2.2.2.2.2.trans g⟩
theorem HP.new (w : World) (a b : Int) (p : Nat) (f : Int) (r : Bool) (b' l : Int) (p' : Nat) (f' : Int) : HP w (((((w.alloc (.cells #[.int .i64 b, .int .u64 p, .int .i64 f, .bool r] 27)).alloc (.cells #[.int .i64 b', .int .i8 l, .int .u64 p', .int .i64 f'] 29)).alloc (.cells #[.int .i8 2, .int .i64 a, .int .u64 p] 25)).alloc (.cells #[.int .i8 1, .int .i64 a, .int .u64 0] 25)).alloc (.cells #[.int .i8 1, .int .i64 b, .int .u64 0] 25)) a b p f r b' l p' f' := by
  have b0 := (((((Blk.new w #[.int .i64 b, .int .u64 p, .int .i64 f, .bool r] 27).alloc (.cells #[.int .i64 b', .int .i8 l, .int .u64 p', .int .i64 f'] 29)).alloc (.cells #[.int .i8 2, .int .i64 a, .int .u64 p] 25)).alloc (.cells #[.int .i8 1, .int .i64 a, .int .u64 0] 25)).alloc (.cells #[.int .i8 1, .int .i64 b, .int .u64 0] 25))
  have b1 := ((((Blk.new (w.alloc (.cells #[.int .i64 b, .int .u64 p, .int .i64 f, .bool r] 27)) #[.int .i64 b', .int .i8 l, .int .u64 p', .int .i64 f'] 29).alloc (.cells #[.int .i8 2, .int .i64 a, .int .u64 p] 25)).alloc (.cells #[.int .i8 1, .int .i64 a, .int .u64 0] 25)).alloc (.cells #[.int .i8 1, .int .i64 b, .int .u64 0] 25))
  have b2 := (((Blk.new ((w.alloc (.cells #[.int .i64 b, .int .u64 p, .int .i64 f, .bool r] 27)).alloc (.cells #[.int .i64 b', .int .i8 l, .int .u64 p', .int .i64 f'] 29)) #[.int .i8 2, .int .i64 a, .int .u64 p] 25).alloc (.cells #[.int .i8 1, .int .i64 a, .int .u64 0] 25)).alloc (.cells #[.int .i8 1, .int .i64 b, .int .u64 0] 25))
  have b3 := ((Blk.new (((w.alloc (.cells #[.int .i64 b, .int .u64 p, .int .i64 f, .bool r] 27)).alloc (.cells #[.int .i64 b', .int .i8 l, .int .u64 p', .int .i64 f'] 29)).alloc (.cells #[.int .i8 2, .int .i64 a, .int .u64 p] 25)) #[.int .i8 1, .int .i64 a, .int .u64 0] 25).alloc (.cells #[.int .i8 1, .int .i64 b, .int .u64 0] 25))
  have b4 := (Blk.new ((((w.alloc (.cells #[.int .i64 b, .int .u64 p, .int .i64 f, .bool r] 27)).alloc (.cells #[.int .i64 b', .int .i8 l, .int .u64 p', .int .i64 f'] 29)).alloc (.cells #[.int .i8 2, .int .i64 a, .int .u64 p] 25)).alloc (.cells #[.int .i8 1, .int .i64 a, .int .u64 0] 25)) #[.int .i8 1, .int .i64 b, .int .u64 0] 25)
  simp at b1 b2 b3 b4
  exact ⟨b0, b1, b2, b3, b4, ((((kpA _ _ _).alloc _ _).alloc _ _).alloc _ _).alloc _ _⟩
theorem HP.cells {w w' : World} {a b : Int} {p : Nat} {f : Int} {r : Bool} {b' l : Int} {p' : Nat} {f' : Int} (h : HP w w' a b p f r b' l p' f') : w'.cell? ⟨w.heap.size, 0, none⟩ = some (.int .i64 b) ∧ w'.cell? ⟨w.heap.size, 1, none⟩ = some (.int .u64 p) ∧ w'.cell? ⟨w.heap.size, 2, none⟩ = some (.int .i64 f) ∧ w'.cell? ⟨w.heap.size, 3, none⟩ = some (.bool r) ∧ w'.cell? ⟨w.heap.size + 1, 0, none⟩ = some (.int .i64 b') ∧ w'.cell? ⟨w.heap.size + 1, 1, none⟩ = some (.int .i8 l) ∧ w'.cell? ⟨w.heap.size + 1, 2, none⟩ = some (.int .u64 p') ∧ w'.cell? ⟨w.heap.size + 1, 3, none⟩ = some (.int .i64 f') ∧ w'.cell? ⟨w.heap.size + 2, 0, none⟩ = some (.int .i8 2) ∧ w'.cell? ⟨w.heap.size + 2, 1, none⟩ = some (.int .i64 a) ∧ w'.cell? ⟨w.heap.size + 2, 2, none⟩ = some (.int .u64 p) ∧ w'.cell? ⟨w.heap.size + 3, 0, none⟩ = some (.int .i8 1) ∧ w'.cell? ⟨w.heap.size + 3, 1, none⟩ = some (.int .i64 a) ∧ w'.cell? ⟨w.heap.size + 3, 2, none⟩ = some (.int .u64 0) ∧ w'.cell? ⟨w.heap.size + 4, 0, none⟩ = some (.int .i8 1) ∧ w'.cell? ⟨w.heap.size + 4, 1, none⟩ = some (.int .i64 b) ∧ w'.cell? ⟨w.heap.size + 4, 2, none⟩ = some (.int .u64 0) ∧ HP w w' a b p f r b' l p' f' :=
  ⟨h.1.cell 0, h.1.cell 1, h.1.cell 2, h.1.cell 3, h.2.1.cell 0, h.2.1.cell 1, h.2.1.cell 2, h.2.1.cell 3, h.2.2.1.cell 0, h.2.2.1.cell 1, h.2.2.1.cell 2, h.2.2.2.1.cell 0, h.2.2.2.1.cell 1, h.2.2.2.1.cell 2, h.2.2.2.2.1.cell 0, h.2.2.2.2.1.cell 1, h.2.2.2.2.1.cell 2, h⟩

theorem split_o0 (a b : Int) (p : Nat) (f : Int) (r : Bool) (b' l : Int) (p' : Nat) (f' : Int) (w : World) (h0 : b < 0) :
    Calls Try.prog 6 #[.int .i64 a, .agg #[.int .i64 b, .int .u64 p, .int .i64 f, .bool r], .agg #[.int .i64 b', .int .i8 l, .int .u64 p', .int .i64 f']] w fun e w' => e = .returned (.bool true) ∧ Kp w w' := by
  have d0 : decide (b < 0) = true := by simp only [decide_eq_true_eq]; omega
  clear h0
  go_enter Try.func6, Try.ntmps6
  go_wp2_with fail
  refine (wakes_any _).mono ?_; rintro e w1 ⟨rfl, hg⟩
  have HK : Hid (Kp w w1) := Lib.hid (((kpA w #[.int .i64 b, .int .u64 p, .int .i64 f, .bool r] 27).alloc #[.int .i64 b', .int .i8 l, .int .u64 p', .int .i64 f'] 29).trans hg)
  clear hg
  go_wp2_with fail
  go_ret
  exact ⟨rfl, HK.out⟩

theorem split_o1 (a b : Int) (p : Nat) (f : Int) (r : Bool) (b' l : Int) (p' : Nat) (f' : Int) (w : World) (h0 : ¬ b < 0) (h1 : 255 < b) :
    Calls Try.prog 6 #[.int .i64 a, .agg #[.int .i64 b, .int .u64 p, .int .i64 f, .bool r], .agg #[.int .i64 b', .int .i8 l, .int .u64 p', .int .i64 f']] w fun e w' => e = .returned (.bool true) ∧ Kp w w' := by
  have d0 : decide (b < 0) = false := by simp; omega
  have d1 : decide (255 < b) = true := by simp only [decide_eq_true_eq]; omega
  clear h0 h1
  go_enter Try.func6, Try.ntmps6
  go_wp2_with fail
  refine (wakes_any _).mono ?_; rintro e w1 ⟨rfl, hg⟩
  have HK : Hid (Kp w w1) := Lib.hid (((kpA w #[.int .i64 b, .int .u64 p, .int .i64 f, .bool r] 27).alloc #[.int .i64 b', .int .i8 l, .int .u64 p', .int .i64 f'] 29).trans hg)
  clear hg
  go_wp2_with fail
  go_ret
  exact ⟨rfl, HK.out⟩

theorem split_o2 (a b : Int) (p : Nat) (f : Int) (r : Bool) (b' l : Int) (p' : Nat) (f' : Int) (w : World) (h0 : ¬ b < 0) (h1 : ¬ 255 < b) (h2 : ¬ p < 34359738368) :
    Calls Try.prog 6 #[.int .i64 a, .agg #[.int .i64 b, .int .u64 p, .int .i64 f, .bool r], .agg #[.int .i64 b', .int .i8 l, .int .u64 p', .int .i64 f']] w fun e w' => e = .returned (.bool true) ∧ Kp w w' := by
  have d0 : decide (b < 0) = false := by simp; omega
  have d1 : decide (255 < b) = false := by simp; omega
  have d2 : decide (34359738368 ≤ (p : Int)) = true := by simp only [decide_eq_true_eq]; omega
  clear h0 h1 h2
  go_enter Try.func6, Try.ntmps6
  go_wp2_with fail
  refine (wakes_any _).mono ?_; rintro e w1 ⟨rfl, hg⟩
  have HK : Hid (Kp w w1) := Lib.hid (((kpA w #[.int .i64 b, .int .u64 p, .int .i64 f, .bool r] 27).alloc #[.int .i64 b', .int .i8 l, .int .u64 p', .int .i64 f'] 29).trans hg)
  clear hg
  go_wp2_with fail
  go_ret
  exact ⟨rfl, HK.out⟩

theorem split_o3 (a b : Int) (p : Nat) (f : Int) (r : Bool) (b' l : Int) (p' : Nat) (f' : Int) (w : World) (h0 : ¬ b < 0) (h1 : ¬ 255 < b) (h2 : p < 34359738368) (h3 : a < 0) :
    Calls Try.prog 6 #[.int .i64 a, .agg #[.int .i64 b, .int .u64 p, .int .i64 f, .bool r], .agg #[.int .i64 b', .int .i8 l, .int .u64 p', .int .i64 f']] w fun e w' => e = .returned (.bool true) ∧ Kp w w' := by
  have d0 : decide (b < 0) = false := by simp; omega
  have d1 : decide (255 < b) = false := by simp; omega
  have d2 : decide (34359738368 ≤ (p : Int)) = false := by simp only [decide_eq_false_iff_not]; omega
  have d3 : decide (a < 0) = true := by simp only [decide_eq_true_eq]; omega
  clear h0 h1 h2 h3
  go_enter Try.func6, Try.ntmps6
  go_wp2_with fail
  refine (wakes_any _).mono ?_; rintro e w1 ⟨rfl, hg⟩
  have HK : Hid (Kp w w1) := Lib.hid (((kpA w #[.int .i64 b, .int .u64 p, .int .i64 f, .bool r] 27).alloc #[.int .i64 b', .int .i8 l, .int .u64 p', .int .i64 f'] 29).trans hg)
  clear hg
  go_wp2_with fail
  go_ret
  exact ⟨rfl, HK.out⟩

theorem split_o4 (a b : Int) (p : Nat) (f : Int) (r : Bool) (b' l : Int) (p' : Nat) (f' : Int) (w : World) (h0 : ¬ b < 0) (h1 : ¬ 255 < b) (h2 : p < 34359738368) (h3 : ¬ a < 0) (h4 : 255 < a) :
    Calls Try.prog 6 #[.int .i64 a, .agg #[.int .i64 b, .int .u64 p, .int .i64 f, .bool r], .agg #[.int .i64 b', .int .i8 l, .int .u64 p', .int .i64 f']] w fun e w' => e = .returned (.bool true) ∧ Kp w w' := by
  have d0 : decide (b < 0) = false := by simp; omega
  have d1 : decide (255 < b) = false := by simp; omega
  have d2 : decide (34359738368 ≤ (p : Int)) = false := by simp only [decide_eq_false_iff_not]; omega
  have d3 : decide (a < 0) = false := by simp; omega
  have d4 : decide (255 < a) = true := by simp only [decide_eq_true_eq]; omega
  clear h0 h1 h2 h3 h4
  go_enter Try.func6, Try.ntmps6
  go_wp2_with fail
  refine (wakes_any _).mono ?_; rintro e w1 ⟨rfl, hg⟩
  have HK : Hid (Kp w w1) := Lib.hid (((kpA w #[.int .i64 b, .int .u64 p, .int .i64 f, .bool r] 27).alloc #[.int .i64 b', .int .i8 l, .int .u64 p', .int .i64 f'] 29).trans hg)
  clear hg
  go_wp2_with fail
  go_ret
  exact ⟨rfl, HK.out⟩

set_option maxRecDepth 100000 in
set_option maxHeartbeats 4000000 in
theorem split_11 (a b : Int) (p : Nat) (f : Int) (r : Bool) (b' l : Int) (p' : Nat) (f' : Int) (w : World) (h0 : ¬ b < 0) (h1 : ¬ 255 < b) (h2 : p < 34359738368) (h3 : ¬ a < 0) (h4 : ¬ 255 < a) (hq : (a == b) = true) (hs : stepB 2 a p b' l p' = true) :
    Calls Try.prog 6 #[.int .i64 a, .agg #[.int .i64 b, .int .u64 p, .int .i64 f, .bool r], .agg #[.int .i64 b', .int .i8 l, .int .u64 p', .int .i64 f']] w fun e w' => e = .returned (.bool true) ∧ Kp w w' := by
  have VA : Hid (hitsB 1 a 0 b p 0 = true) := Lib.hid ((sp_all (by omega) (by omega)).trans hq)
  have VP : Hid (hitsB 2 a p b p 0 = true) := Lib.hid ((sp_page (by omega) (by omega) h2).trans hq)
  have VO : Hid (hitsB 1 b 0 b p 0 = true) := Lib.hid ((sp_all (by omega) (by omega)).trans (by simp))
  have VS := Lib.hid hs
  have VT := Lib.hid (sp_step (by omega) (by omega) hs)
  have d0 : decide (b < 0) = false := by simp; omega
  have d1 : decide (255 < b) = false := by simp; omega
  have d2 : decide (34359738368 ≤ (p : Int)) = false := by simp only [decide_eq_false_iff_not]; omega
  have d3 : decide (a < 0) = false := by simp; omega
  have d4 : decide (255 < a) = false := by simp; omega
  have HC := Lib.hid (HP.new w a b p f r b' l p' f').cells
  clear h0 h1 h2 h3 h4 hs
  go_enter Try.func6, Try.ntmps6
  go_wp2_with fail
  refine wp_region_held_drew (S := fun w' => w'.cell? ⟨w.heap.size, 0, none⟩ = some (.int .i64 b) ∧ w'.cell? ⟨w.heap.size, 1, none⟩ = some (.int .u64 p) ∧ w'.cell? ⟨w.heap.size, 2, none⟩ = some (.int .i64 f) ∧ w'.cell? ⟨w.heap.size, 3, none⟩ = some (.bool r) ∧ w'.cell? ⟨w.heap.size + 1, 0, none⟩ = some (.int .i64 b') ∧ w'.cell? ⟨w.heap.size + 1, 1, none⟩ = some (.int .i8 l) ∧ w'.cell? ⟨w.heap.size + 1, 2, none⟩ = some (.int .u64 p') ∧ w'.cell? ⟨w.heap.size + 1, 3, none⟩ = some (.int .i64 f') ∧ w'.cell? ⟨w.heap.size + 2, 0, none⟩ = some (.int .i8 2) ∧ w'.cell? ⟨w.heap.size + 2, 1, none⟩ = some (.int .i64 a) ∧ w'.cell? ⟨w.heap.size + 2, 2, none⟩ = some (.int .u64 p) ∧ w'.cell? ⟨w.heap.size + 3, 0, none⟩ = some (.int .i8 1) ∧ w'.cell? ⟨w.heap.size + 3, 1, none⟩ = some (.int .i64 a) ∧ w'.cell? ⟨w.heap.size + 3, 2, none⟩ = some (.int .u64 0) ∧ w'.cell? ⟨w.heap.size + 4, 0, none⟩ = some (.int .i8 1) ∧ w'.cell? ⟨w.heap.size + 4, 1, none⟩ = some (.int .i64 b) ∧ w'.cell? ⟨w.heap.size + 4, 2, none⟩ = some (.int .u64 0) ∧ HP w w' a b p f r b' l p' f') (by kernel_rfl) (HP.kp HC.out.2.2.2.2.2.2.2.2.2.2.2.2.2.2.2.2.2 (Kp.refl _).drew).cells (fun hHeld => ?_)
  refine wpAnyH_take (i := 0) (oi := ?p0) (v := ?v0) ?o0 (by kernel_rfl) (by kernel_rfl) (by kernel_rfl) ?q0 ?y0 (by assumption) ?r0
  case o0 => (simp only [List.getElem?_toArray, List.getElem?_cons_zero]; rfl)
  case q0 => (exact fun _ _ _ h => h)
  case y0 => (refine Or.inl ⟨by rfl, ?_⟩; intro w hSw; (try dsimp only at hSw); go_simp; (try with_reducible rfl))
  simp only [Act.put, List.setIfInBounds_toArray, List.set_cons_zero, List.set_cons_succ]
  refine wpAnyH_take (i := 1) (oi := ?p1) (v := ?v1) ?o1 (by kernel_rfl) (by kernel_rfl) (by kernel_rfl) ?q1 ?y1 (by assumption) ?r1
  case o1 => (simp only [List.getElem?_toArray, List.getElem?_cons_succ, List.getElem?_cons_zero]; rfl)
  case q1 => (exact fun _ _ _ h => h)
  case y1 => (refine Or.inl ⟨by rfl, ?_⟩; intro w hSw; (try dsimp only at hSw); go_simp; (try with_reducible rfl))
  simp only [Act.put, List.setIfInBounds_toArray, List.set_cons_zero, List.set_cons_succ]
  refine wpAnyH_take (i := 3) (oi := ?p3) (v := ?v3) ?o3 (by kernel_rfl) (by kernel_rfl) (by kernel_rfl) ?q3 ?y3 (by assumption) ?r3
  case o3 => (simp only [List.getElem?_toArray, List.getElem?_cons_succ, List.getElem?_cons_zero]; rfl)
  case q3 => (exact fun _ _ _ h => h)
  case y3 => (refine Or.inl ⟨by rfl, ?_⟩; intro w hSw; (try dsimp only at hSw); go_simp; (try with_reducible rfl))
  simp only [Act.put, List.setIfInBounds_toArray, List.set_cons_zero, List.set_cons_succ]
  refine wpAnyH_take (i := 4) (oi := ?p4) (v := ?v4) ?o4 (by kernel_rfl) (by kernel_rfl) (by kernel_rfl) ?q4 ?y4 (by assumption) ?r4
  case o4 => (simp only [List.getElem?_toArray, List.getElem?_cons_succ, List.getElem?_cons_zero]; rfl)
  case q4 => (exact fun _ _ _ h => h)
  case y4 => (refine Or.inl ⟨by rfl, ?_⟩; intro w hSw; (try dsimp only at hSw); go_simp; (try with_reducible rfl))
  simp only [Act.put, List.setIfInBounds_toArray, List.set_cons_zero, List.set_cons_succ]
  refine wpAnyH_ready (rs := [2]) (by kernel_rfl) (by simp) ?_
  refine AllReadyH.cons (o := ?p2) ?o2 (fun K hK => ?w2) AllReadyH.nil
  case o2 => (simp only [List.getElem?_toArray, List.getElem?_cons_succ, List.getElem?_cons_zero]; rfl)
  rw [if_pos (by rfl)]
  go_simp
  refine (hits_any 1 a 0 b p f r _).mono ?_; rintro e w' ⟨rfl, hg⟩
  rw [VA.out]
  (try go_wp2_with fail)
  refine hK.out _ _ ((HP.kp hHeld.2.2.2.2.2.2.2.2.2.2.2.2.2.2.2.2.2 hg).cells) (fun hH2 => ?_)
  clear hK hg K
  refine wpAnyH_ready (rs := [5]) (by kernel_rfl) (by simp) ?_
  refine AllReadyH.cons (o := ?p5) ?o5 (fun K hK => ?w5) AllReadyH.nil
  case o5 => (simp only [List.getElem?_toArray, List.getElem?_cons_succ, List.getElem?_cons_zero]; rfl)
  rw [if_pos (by rfl)]
  go_simp
  refine (hits_any 2 a p b p f r _).mono ?_; rintro e w' ⟨rfl, hg⟩
  rw [VP.out]
  (try go_wp2_with fail)
  refine hK.out _ _ ((HP.kp hH2.2.2.2.2.2.2.2.2.2.2.2.2.2.2.2.2.2 hg).cells) (fun hH3 => ?_)
  clear hK hg K
  refine wpAnyH_take (i := 6) (oi := ?p6) (v := ?v6) ?o6 (by kernel_rfl) (by kernel_rfl) (by kernel_rfl) ?q6 ?y6 (by assumption) ?r6
  case o6 => (simp only [List.getElem?_toArray, List.getElem?_cons_succ, List.getElem?_cons_zero]; rfl)
  case q6 => (exact fun _ _ _ h => h)
  case y6 => (refine Or.inl ⟨by rfl, ?_⟩; intro w hSw; (try dsimp only at hSw); go_simp; (try with_reducible rfl))
  simp only [Act.put, List.setIfInBounds_toArray, List.set_cons_zero, List.set_cons_succ]
  refine wpAnyH_take (i := 7) (oi := ?p7) (v := ?v7) ?o7 (by kernel_rfl) (by kernel_rfl) (by kernel_rfl) ?q7 ?y7 (by assumption) ?r7
  case o7 => (simp only [List.getElem?_toArray, List.getElem?_cons_succ, List.getElem?_cons_zero]; rfl)
  case q7 => (exact fun _ _ _ h => h)
  case y7 => (refine Or.inl ⟨by rfl, ?_⟩; intro w hSw; (try dsimp only at hSw); go_simp; (try with_reducible rfl))
  simp only [Act.put, List.setIfInBounds_toArray, List.set_cons_zero, List.set_cons_succ]
  refine wpAnyH_take (i := 8) (oi := ?p8) (v := ?v8) ?o8 (by kernel_rfl) (by kernel_rfl) (by kernel_rfl) ?q8 ?y8 (by assumption) ?r8
  case o8 => (simp only [List.getElem?_toArray, List.getElem?_cons_succ, List.getElem?_cons_zero]; rfl)
  case q8 => (exact fun _ _ _ h => h)
  case y8 => (refine Or.inl ⟨by rfl, ?_⟩; intro w hSw; (try dsimp only at hSw); go_simp; (try with_reducible rfl))
  simp only [Act.put, List.setIfInBounds_toArray, List.set_cons_zero, List.set_cons_succ]
  refine wpAnyH_take (i := 9) (oi := ?p9) (v := ?v9) ?o9 (by kernel_rfl) (by kernel_rfl) (by kernel_rfl) ?q9 ?y9 (by assumption) ?r9
  case o9 => (simp only [List.getElem?_toArray, List.getElem?_cons_succ, List.getElem?_cons_zero]; rfl)
  case q9 => (exact fun _ _ _ h => h)
  case y9 => (refine Or.inl ⟨by rfl, ?_⟩; intro w hSw; (try dsimp only at hSw); go_simp; (try with_reducible rfl))
  simp only [Act.put, List.setIfInBounds_toArray, List.set_cons_zero, List.set_cons_succ]
  refine wpAnyH_ready (rs := [10]) (by kernel_rfl) (by simp) ?_
  refine AllReadyH.cons (o := ?p10) ?o10 (fun K hK => ?w10) AllReadyH.nil
  case o10 => (simp only [List.getElem?_toArray, List.getElem?_cons_succ, List.getElem?_cons_zero]; rfl)
  rw [if_pos (by rfl)]
  go_simp
  refine (hits_any 1 b 0 b p f r _).mono ?_; rintro e w' ⟨rfl, hg⟩
  rw [VO.out]
  (try go_wp2_with fail)
  refine hK.out _ _ ((HP.kp hH3.2.2.2.2.2.2.2.2.2.2.2.2.2.2.2.2.2 hg).cells) (fun hH4 => ?_)
  clear hK hg K
  refine wpAnyH_take (i := 11) (oi := ?p11) (v := ?v11) ?o11 (by kernel_rfl) (by kernel_rfl) (by kernel_rfl) ?q11 ?y11 (by assumption) ?r11
  case o11 => (simp only [List.getElem?_toArray, List.getElem?_cons_succ, List.getElem?_cons_zero]; rfl)
  case q11 => (exact fun _ _ _ h => h)
  case y11 => (refine Or.inl ⟨by rfl, ?_⟩; intro w hSw; (try dsimp only at hSw); go_simp; (try with_reducible rfl))
  simp only [Act.put, List.setIfInBounds_toArray, List.set_cons_zero, List.set_cons_succ]
  refine wpAnyH_take (i := 12) (oi := ?p12) (v := ?v12) ?o12 (by kernel_rfl) (by kernel_rfl) (by kernel_rfl) ?q12 ?y12 (by assumption) ?r12
  case o12 => (simp only [List.getElem?_toArray, List.getElem?_cons_succ, List.getElem?_cons_zero]; rfl)
  case q12 => (exact fun _ _ _ h => h)
  case y12 => (refine Or.inl ⟨by rfl, ?_⟩; intro w hSw; (try dsimp only at hSw); go_simp; (try with_reducible rfl))
  simp only [Act.put, List.setIfInBounds_toArray, List.set_cons_zero, List.set_cons_succ]
  refine wpAnyH_take (i := 13) (oi := ?p13) (v := ?v13) ?o13 (by kernel_rfl) (by kernel_rfl) (by kernel_rfl) ?q13 ?y13 (by assumption) ?r13
  case o13 => (simp only [List.getElem?_toArray, List.getElem?_cons_succ, List.getElem?_cons_zero]; rfl)
  case q13 => (exact fun _ _ _ h => h)
  case y13 => (refine Or.inl ⟨by rfl, ?_⟩; intro w hSw; (try dsimp only at hSw); go_simp; (try with_reducible rfl))
  simp only [Act.put, List.setIfInBounds_toArray, List.set_cons_zero, List.set_cons_succ]
  refine wpAnyH_take (i := 14) (oi := ?p14) (v := ?v14) ?o14 (by kernel_rfl) (by kernel_rfl) (by kernel_rfl) ?q14 ?y14 (by assumption) ?r14
  case o14 => (simp only [List.getElem?_toArray, List.getElem?_cons_succ, List.getElem?_cons_zero]; rfl)
  case q14 => (exact fun _ _ _ h => h)
  case y14 => (refine Or.inl ⟨by rfl, ?_⟩; intro w hSw; (try dsimp only at hSw); go_simp; (try with_reducible rfl))
  simp only [Act.put, List.setIfInBounds_toArray, List.set_cons_zero, List.set_cons_succ]
  refine wpAnyH_take (i := 16) (oi := ?p16) (v := ?v16) ?o16 (by kernel_rfl) (by kernel_rfl) (by kernel_rfl) ?q16 ?y16 (by assumption) ?r16
  case o16 => (simp only [List.getElem?_toArray, List.getElem?_cons_succ, List.getElem?_cons_zero]; rfl)
  case q16 => (exact fun _ _ _ h => h)
  case y16 => (refine Or.inl ⟨by rfl, ?_⟩; intro w hSw; (try dsimp only at hSw); go_simp; (try with_reducible rfl))
  simp only [Act.put, List.setIfInBounds_toArray, List.set_cons_zero, List.set_cons_succ]
  refine wpAnyH_take (i := 17) (oi := ?p17) (v := ?v17) ?o17 (by kernel_rfl) (by kernel_rfl) (by kernel_rfl) ?q17 ?y17 (by assumption) ?r17
  case o17 => (simp only [List.getElem?_toArray, List.getElem?_cons_succ, List.getElem?_cons_zero]; rfl)
  case q17 => (exact fun _ _ _ h => h)
  case y17 => (refine Or.inl ⟨by rfl, ?_⟩; intro w hSw; (try dsimp only at hSw); go_simp; (try with_reducible rfl))
  simp only [Act.put, List.setIfInBounds_toArray, List.set_cons_zero, List.set_cons_succ]
  refine wpAnyH_take (i := 18) (oi := ?p18) (v := ?v18) ?o18 (by kernel_rfl) (by kernel_rfl) (by kernel_rfl) ?q18 ?y18 (by assumption) ?r18
  case o18 => (simp only [List.getElem?_toArray, List.getElem?_cons_succ, List.getElem?_cons_zero]; rfl)
  case q18 => (exact fun _ _ _ h => h)
  case y18 => (refine Or.inl ⟨by rfl, ?_⟩; intro w hSw; (try dsimp only at hSw); go_simp; (try with_reducible rfl))
  simp only [Act.put, List.setIfInBounds_toArray, List.set_cons_zero, List.set_cons_succ]
  refine wpAnyH_take (i := 19) (oi := ?p19) (v := ?v19) ?o19 (by kernel_rfl) (by kernel_rfl) (by kernel_rfl) ?q19 ?y19 (by assumption) ?r19
  case o19 => (simp only [List.getElem?_toArray, List.getElem?_cons_succ, List.getElem?_cons_zero]; rfl)
  case q19 => (exact fun _ _ _ h => h)
  case y19 => (refine Or.inl ⟨by rfl, ?_⟩; intro w hSw; (try dsimp only at hSw); go_simp; (try with_reducible rfl))
  simp only [Act.put, List.setIfInBounds_toArray, List.set_cons_zero, List.set_cons_succ]
  refine wpAnyH_ready (rs := [15]) (by kernel_rfl) (by simp) ?_
  refine AllReadyH.cons (o := ?p15) ?o15 (fun K hK => ?w15) AllReadyH.nil
  case o15 => (simp only [List.getElem?_toArray, List.getElem?_cons_succ, List.getElem?_cons_zero]; rfl)
  rw [if_pos (by rfl)]
  go_simp
  refine (hits_any 1 a 0 b p f r _).mono ?_; rintro e w' ⟨rfl, hg⟩
  rw [VA.out]
  (try go_wp2_with fail)
  refine hK.out _ _ ((HP.kp hH4.2.2.2.2.2.2.2.2.2.2.2.2.2.2.2.2.2 hg).cells) (fun hH5 => ?_)
  clear hK hg K
  refine wpAnyH_take (i := 20) (oi := ?p20) (v := ?v20) ?o20 (by kernel_rfl) (by kernel_rfl) (by kernel_rfl) ?q20 ?y20 (by assumption) ?r20
  case o20 => (simp only [List.getElem?_toArray, List.getElem?_cons_succ, List.getElem?_cons_zero]; rfl)
  case q20 => (exact fun _ _ _ h => h)
  case y20 => (refine Or.inl ⟨by rfl, ?_⟩; intro w hSw; (try dsimp only at hSw); go_simp; (try with_reducible rfl))
  simp only [Act.put, List.setIfInBounds_toArray, List.set_cons_zero, List.set_cons_succ]
  refine wpAnyH_take (i := 21) (oi := ?p21) (v := ?v21) ?o21 (by kernel_rfl) (by kernel_rfl) (by kernel_rfl) ?q21 ?y21 (by assumption) ?r21
  case o21 => (simp only [List.getElem?_toArray, List.getElem?_cons_succ, List.getElem?_cons_zero]; rfl)
  case q21 => (exact fun _ _ _ h => h)
  case y21 => (refine Or.inl ⟨by rfl, ?_⟩; intro w hSw; (try dsimp only at hSw); go_simp; (try with_reducible rfl))
  simp only [Act.put, List.setIfInBounds_toArray, List.set_cons_zero, List.set_cons_succ]
  refine wpAnyH_take (i := 22) (oi := ?p22) (v := ?v22) ?o22 (by kernel_rfl) (by kernel_rfl) (by kernel_rfl) ?q22 ?y22 (by assumption) ?r22
  case o22 => (simp only [List.getElem?_toArray, List.getElem?_cons_succ, List.getElem?_cons_zero]; rfl)
  case q22 => (exact fun _ _ _ h => h)
  case y22 => (refine Or.inl ⟨by rfl, ?_⟩; intro w hSw; (try dsimp only at hSw); go_simp; (try with_reducible rfl))
  simp only [Act.put, List.setIfInBounds_toArray, List.set_cons_zero, List.set_cons_succ]
  refine wpAnyH_take (i := 23) (oi := ?p23) (v := ?v23) ?o23 (by kernel_rfl) (by kernel_rfl) (by kernel_rfl) ?q23 ?y23 (by assumption) ?r23
  case o23 => (simp only [List.getElem?_toArray, List.getElem?_cons_succ, List.getElem?_cons_zero]; rfl)
  case q23 => (exact fun _ _ _ h => h)
  case y23 => (refine Or.inl ⟨by rfl, ?_⟩; intro w hSw; (try dsimp only at hSw); go_simp; (try with_reducible rfl))
  simp only [Act.put, List.setIfInBounds_toArray, List.set_cons_zero, List.set_cons_succ]
  refine wpAnyH_take (i := 24) (oi := ?p24) (v := ?v24) ?o24 (by kernel_rfl) (by kernel_rfl) (by kernel_rfl) ?q24 ?y24 (by assumption) ?r24
  case o24 => (simp only [List.getElem?_toArray, List.getElem?_cons_succ, List.getElem?_cons_zero]; rfl)
  case q24 => (exact fun _ _ _ h => h)
  case y24 => (refine Or.inl ⟨by rfl, ?_⟩; intro w hSw; (try dsimp only at hSw); go_simp; (try with_reducible rfl))
  simp only [Act.put, List.setIfInBounds_toArray, List.set_cons_zero, List.set_cons_succ]
  refine wpAnyH_ready (rs := [25]) (by kernel_rfl) (by simp) ?_
  refine AllReadyH.cons (o := ?p25) ?o25 (fun K hK => ?w25) AllReadyH.nil
  case o25 => (simp only [List.getElem?_toArray, List.getElem?_cons_succ, List.getElem?_cons_zero]; rfl)
  rw [if_pos (by rfl)]
  go_simp
  refine (step_any 2 a p b' l p' f' _).mono ?_; rintro e w' ⟨rfl, hg⟩
  rw [VS.out]
  (try go_wp2_with fail)
  refine hK.out _ _ ((HP.kp hH5.2.2.2.2.2.2.2.2.2.2.2.2.2.2.2.2.2 hg).cells) (fun hH6 => ?_)
  clear hK hg K
  refine wpAnyH_take (i := 26) (oi := ?p26) (v := ?v26) ?o26 (by kernel_rfl) (by kernel_rfl) (by kernel_rfl) ?q26 ?y26 (by assumption) ?r26
  case o26 => (simp only [List.getElem?_toArray, List.getElem?_cons_succ, List.getElem?_cons_zero]; rfl)
  case q26 => (exact fun _ _ _ h => h)
  case y26 => (refine Or.inl ⟨by rfl, ?_⟩; intro w hSw; (try dsimp only at hSw); go_simp; (try with_reducible rfl))
  simp only [Act.put, List.setIfInBounds_toArray, List.set_cons_zero, List.set_cons_succ]
  refine wpAnyH_take (i := 27) (oi := ?p27) (v := ?v27) ?o27 (by kernel_rfl) (by kernel_rfl) (by kernel_rfl) ?q27 ?y27 (by assumption) ?r27
  case o27 => (simp only [List.getElem?_toArray, List.getElem?_cons_succ, List.getElem?_cons_zero]; rfl)
  case q27 => (exact fun _ _ _ h => h)
  case y27 => (refine Or.inl ⟨by rfl, ?_⟩; intro w hSw; (try dsimp only at hSw); go_simp; (try with_reducible rfl))
  simp only [Act.put, List.setIfInBounds_toArray, List.set_cons_zero, List.set_cons_succ]
  refine wpAnyH_take (i := 28) (oi := ?p28) (v := ?v28) ?o28 (by kernel_rfl) (by kernel_rfl) (by kernel_rfl) ?q28 ?y28 (by assumption) ?r28
  case o28 => (simp only [List.getElem?_toArray, List.getElem?_cons_succ, List.getElem?_cons_zero]; rfl)
  case q28 => (exact fun _ _ _ h => h)
  case y28 => (refine Or.inl ⟨by rfl, ?_⟩; intro w hSw; (try dsimp only at hSw); go_simp; (try with_reducible rfl))
  simp only [Act.put, List.setIfInBounds_toArray, List.set_cons_zero, List.set_cons_succ]
  refine wpAnyH_take (i := 29) (oi := ?p29) (v := ?v29) ?o29 (by kernel_rfl) (by kernel_rfl) (by kernel_rfl) ?q29 ?y29 (by assumption) ?r29
  case o29 => (simp only [List.getElem?_toArray, List.getElem?_cons_succ, List.getElem?_cons_zero]; rfl)
  case q29 => (exact fun _ _ _ h => h)
  case y29 => (refine Or.inl ⟨by rfl, ?_⟩; intro w hSw; (try dsimp only at hSw); go_simp; (try with_reducible rfl))
  simp only [Act.put, List.setIfInBounds_toArray, List.set_cons_zero, List.set_cons_succ]
  refine wpAnyH_ready (rs := [30]) (by kernel_rfl) (by simp) ?_
  refine AllReadyH.cons (o := ?p30) ?o30 (fun K hK => ?w30) AllReadyH.nil
  case o30 => (simp only [List.getElem?_toArray, List.getElem?_cons_succ, List.getElem?_cons_zero]; rfl)
  rw [if_pos (by rfl)]
  go_simp
  refine (step_any 1 a 0 b' l p' f' _).mono ?_; rintro e w' ⟨rfl, hg⟩
  rw [VT.out]
  (try go_wp2_with fail)
  refine hK.out _ _ ((HP.kp hH6.2.2.2.2.2.2.2.2.2.2.2.2.2.2.2.2.2 hg).cells) (fun hH7 => ?_)
  clear hK hg K
  refine wpAnyH_take (i := 31) (oi := ?p31) (v := ?v31) ?o31 (by kernel_rfl) (by kernel_rfl) (by kernel_rfl) ?q31 ?y31 (by assumption) ?r31
  case o31 => (simp only [List.getElem?_toArray, List.getElem?_cons_succ, List.getElem?_cons_zero]; rfl)
  case q31 => (exact fun _ _ _ h => h)
  case y31 => (refine Or.inl ⟨by rfl, ?_⟩; intro w hSw; (try dsimp only at hSw); go_simp; (try with_reducible rfl))
  simp only [Act.put, List.setIfInBounds_toArray, List.set_cons_zero, List.set_cons_succ]
  refine wpAnyH_take (i := 32) (oi := ?p32) (v := ?v32) ?o32 (by kernel_rfl) (by kernel_rfl) (by kernel_rfl) ?q32 ?y32 (by assumption) ?r32
  case o32 => (simp only [List.getElem?_toArray, List.getElem?_cons_succ, List.getElem?_cons_zero]; rfl)
  case q32 => (exact fun _ _ _ h => h)
  case y32 => (refine Or.inl ⟨by rfl, ?_⟩; intro w hSw; (try dsimp only at hSw); go_simp; (try with_reducible rfl))
  simp only [Act.put, List.setIfInBounds_toArray, List.set_cons_zero, List.set_cons_succ]
  refine wpAnyH_take (i := 33) (oi := ?p33) (v := ?v33) ?o33 (by kernel_rfl) (by kernel_rfl) (by kernel_rfl) ?q33 ?y33 (by assumption) ?r33
  case o33 => (simp only [List.getElem?_toArray, List.getElem?_cons_succ, List.getElem?_cons_zero]; rfl)
  case q33 => (exact fun _ _ _ h => h)
  case y33 => (refine Or.inl ⟨by rfl, ?_⟩; intro w hSw; (try dsimp only at hSw); go_simp; (try with_reducible rfl))
  simp only [Act.put, List.setIfInBounds_toArray, List.set_cons_zero, List.set_cons_succ]
  refine wpAnyH_ready (rs := [34]) (by kernel_rfl) (by simp) ?_
  refine AllReadyH.cons (o := ?p34) ?o34 (fun K hK => ?w34) AllReadyH.nil
  case o34 => (simp only [List.getElem?_toArray, List.getElem?_cons_succ, List.getElem?_cons_zero]; rfl)
  rw [if_pos (by rfl)]
  go_simp
  refine (wakes_any _).mono ?_; rintro e w' ⟨rfl, hg⟩
  (try go_wp2_with fail)
  refine hK.out _ _ ((HP.kp hH7.2.2.2.2.2.2.2.2.2.2.2.2.2.2.2.2.2 hg).cells) (fun hH8 => ?_)
  clear hK hg K
  refine wpAnyH_take (i := 35) (oi := ?p35) (v := ?v35) ?o35 (by kernel_rfl) (by kernel_rfl) (by kernel_rfl) ?q35 ?y35 (by assumption) ?r35
  case o35 => (simp only [List.getElem?_toArray, List.getElem?_cons_succ, List.getElem?_cons_zero]; rfl)
  case q35 => (exact fun _ _ _ h => h)
  case y35 => (refine Or.inl ⟨by rfl, ?_⟩; intro w hSw; (try dsimp only at hSw); go_simp; (try with_reducible rfl))
  simp only [Act.put, List.setIfInBounds_toArray, List.set_cons_zero, List.set_cons_succ]
  refine wpAnyH_take (i := 36) (oi := ?p36) (v := ?v36) ?o36 (by kernel_rfl) (by kernel_rfl) (by kernel_rfl) ?q36 ?y36 (by assumption) ?r36
  case o36 => (simp only [List.getElem?_toArray, List.getElem?_cons_succ, List.getElem?_cons_zero]; rfl)
  case q36 => (exact fun _ _ _ h => h)
  case y36 => (refine Or.inl ⟨by rfl, ?_⟩; intro w hSw; (try dsimp only at hSw); go_simp; (try with_reducible rfl))
  simp only [Act.put, List.setIfInBounds_toArray, List.set_cons_zero, List.set_cons_succ]
  refine wpAnyH_done (by kernel_rfl) ?_ _
  have HK : Hid (Kp w _) := Lib.hid hH8.2.2.2.2.2.2.2.2.2.2.2.2.2.2.2.2.2.2.2.2.2.2
  clear hHeld hH2 hH3 hH4 hH5 hH6 hH8 hH7
  go_wp2_with fail
  go_ret
  exact ⟨rfl, HK.out⟩

set_option maxRecDepth 100000 in
set_option maxHeartbeats 4000000 in
theorem split_10 (a b : Int) (p : Nat) (f : Int) (r : Bool) (b' l : Int) (p' : Nat) (f' : Int) (w : World) (h0 : ¬ b < 0) (h1 : ¬ 255 < b) (h2 : p < 34359738368) (h3 : ¬ a < 0) (h4 : ¬ 255 < a) (hq : (a == b) = true) (hs : stepB 2 a p b' l p' = false) :
    Calls Try.prog 6 #[.int .i64 a, .agg #[.int .i64 b, .int .u64 p, .int .i64 f, .bool r], .agg #[.int .i64 b', .int .i8 l, .int .u64 p', .int .i64 f']] w fun e w' => e = .returned (.bool true) ∧ Kp w w' := by
  have VA : Hid (hitsB 1 a 0 b p 0 = true) := Lib.hid ((sp_all (by omega) (by omega)).trans hq)
  have VP : Hid (hitsB 2 a p b p 0 = true) := Lib.hid ((sp_page (by omega) (by omega) h2).trans hq)
  have VO : Hid (hitsB 1 b 0 b p 0 = true) := Lib.hid ((sp_all (by omega) (by omega)).trans (by simp))
  have VS := Lib.hid hs
  have d0 : decide (b < 0) = false := by simp; omega
  have d1 : decide (255 < b) = false := by simp; omega
  have d2 : decide (34359738368 ≤ (p : Int)) = false := by simp only [decide_eq_false_iff_not]; omega
  have d3 : decide (a < 0) = false := by simp; omega
  have d4 : decide (255 < a) = false := by simp; omega
  have HC := Lib.hid (HP.new w a b p f r b' l p' f').cells
  clear h0 h1 h2 h3 h4 hs
  go_enter Try.func6, Try.ntmps6
  go_wp2_with fail
  refine wp_region_held_drew (S := fun w' => w'.cell? ⟨w.heap.size, 0, none⟩ = some (.int .i64 b) ∧ w'.cell? ⟨w.heap.size, 1, none⟩ = some (.int .u64 p) ∧ w'.cell? ⟨w.heap.size, 2, none⟩ = some (.int .i64 f) ∧ w'.cell? ⟨w.heap.size, 3, none⟩ = some (.bool r) ∧ w'.cell? ⟨w.heap.size + 1, 0, none⟩ = some (.int .i64 b') ∧ w'.cell? ⟨w.heap.size + 1, 1, none⟩ = some (.int .i8 l) ∧ w'.cell? ⟨w.heap.size + 1, 2, none⟩ = some (.int .u64 p') ∧ w'.cell? ⟨w.heap.size + 1, 3, none⟩ = some (.int .i64 f') ∧ w'.cell? ⟨w.heap.size + 2, 0, none⟩ = some (.int .i8 2) ∧ w'.cell? ⟨w.heap.size + 2, 1, none⟩ = some (.int .i64 a) ∧ w'.cell? ⟨w.heap.size + 2, 2, none⟩ = some (.int .u64 p) ∧ w'.cell? ⟨w.heap.size + 3, 0, none⟩ = some (.int .i8 1) ∧ w'.cell? ⟨w.heap.size + 3, 1, none⟩ = some (.int .i64 a) ∧ w'.cell? ⟨w.heap.size + 3, 2, none⟩ = some (.int .u64 0) ∧ w'.cell? ⟨w.heap.size + 4, 0, none⟩ = some (.int .i8 1) ∧ w'.cell? ⟨w.heap.size + 4, 1, none⟩ = some (.int .i64 b) ∧ w'.cell? ⟨w.heap.size + 4, 2, none⟩ = some (.int .u64 0) ∧ HP w w' a b p f r b' l p' f') (by kernel_rfl) (HP.kp HC.out.2.2.2.2.2.2.2.2.2.2.2.2.2.2.2.2.2 (Kp.refl _).drew).cells (fun hHeld => ?_)
  refine wpAnyH_take (i := 0) (oi := ?p0) (v := ?v0) ?o0 (by kernel_rfl) (by kernel_rfl) (by kernel_rfl) ?q0 ?y0 (by assumption) ?r0
  case o0 => (simp only [List.getElem?_toArray, List.getElem?_cons_zero]; rfl)
  case q0 => (exact fun _ _ _ h => h)
  case y0 => (refine Or.inl ⟨by rfl, ?_⟩; intro w hSw; (try dsimp only at hSw); go_simp; (try with_reducible rfl))
  simp only [Act.put, List.setIfInBounds_toArray, List.set_cons_zero, List.set_cons_succ]
  refine wpAnyH_take (i := 1) (oi := ?p1) (v := ?v1) ?o1 (by kernel_rfl) (by kernel_rfl) (by kernel_rfl) ?q1 ?y1 (by assumption) ?r1
  case o1 => (simp only [List.getElem?_toArray, List.getElem?_cons_succ, List.getElem?_cons_zero]; rfl)
  case q1 => (exact fun _ _ _ h => h)
  case y1 => (refine Or.inl ⟨by rfl, ?_⟩; intro w hSw; (try dsimp only at hSw); go_simp; (try with_reducible rfl))
  simp only [Act.put, List.setIfInBounds_toArray, List.set_cons_zero, List.set_cons_succ]
  refine wpAnyH_take (i := 3) (oi := ?p3) (v := ?v3) ?o3 (by kernel_rfl) (by kernel_rfl) (by kernel_rfl) ?q3 ?y3 (by assumption) ?r3
  case o3 => (simp only [List.getElem?_toArray, List.getElem?_cons_succ, List.getElem?_cons_zero]; rfl)
  case q3 => (exact fun _ _ _ h => h)
  case y3 => (refine Or.inl ⟨by rfl, ?_⟩; intro w hSw; (try dsimp only at hSw); go_simp; (try with_reducible rfl))
  simp only [Act.put, List.setIfInBounds_toArray, List.set_cons_zero, List.set_cons_succ]
  refine wpAnyH_take (i := 4) (oi := ?p4) (v := ?v4) ?o4 (by kernel_rfl) (by kernel_rfl) (by kernel_rfl) ?q4 ?y4 (by assumption) ?r4
  case o4 => (simp only [List.getElem?_toArray, List.getElem?_cons_succ, List.getElem?_cons_zero]; rfl)
  case q4 => (exact fun _ _ _ h => h)
  case y4 => (refine Or.inl ⟨by rfl, ?_⟩; intro w hSw; (try dsimp only at hSw); go_simp; (try with_reducible rfl))
  simp only [Act.put, List.setIfInBounds_toArray, List.set_cons_zero, List.set_cons_succ]
  refine wpAnyH_ready (rs := [2]) (by kernel_rfl) (by simp) ?_
  refine AllReadyH.cons (o := ?p2) ?o2 (fun K hK => ?w2) AllReadyH.nil
  case o2 => (simp only [List.getElem?_toArray, List.getElem?_cons_succ, List.getElem?_cons_zero]; rfl)
  rw [if_pos (by rfl)]
  go_simp
  refine (hits_any 1 a 0 b p f r _).mono ?_; rintro e w' ⟨rfl, hg⟩
  rw [VA.out]
  (try go_wp2_with fail)
  refine hK.out _ _ ((HP.kp hHeld.2.2.2.2.2.2.2.2.2.2.2.2.2.2.2.2.2 hg).cells) (fun hH2 => ?_)
  clear hK hg K
  refine wpAnyH_ready (rs := [5]) (by kernel_rfl) (by simp) ?_
  refine AllReadyH.cons (o := ?p5) ?o5 (fun K hK => ?w5) AllReadyH.nil
  case o5 => (simp only [List.getElem?_toArray, List.getElem?_cons_succ, List.getElem?_cons_zero]; rfl)
  rw [if_pos (by rfl)]
  go_simp
  refine (hits_any 2 a p b p f r _).mono ?_; rintro e w' ⟨rfl, hg⟩
  rw [VP.out]
  (try go_wp2_with fail)
  refine hK.out _ _ ((HP.kp hH2.2.2.2.2.2.2.2.2.2.2.2.2.2.2.2.2.2 hg).cells) (fun hH3 => ?_)
  clear hK hg K
  refine wpAnyH_take (i := 6) (oi := ?p6) (v := ?v6) ?o6 (by kernel_rfl) (by kernel_rfl) (by kernel_rfl) ?q6 ?y6 (by assumption) ?r6
  case o6 => (simp only [List.getElem?_toArray, List.getElem?_cons_succ, List.getElem?_cons_zero]; rfl)
  case q6 => (exact fun _ _ _ h => h)
  case y6 => (refine Or.inl ⟨by rfl, ?_⟩; intro w hSw; (try dsimp only at hSw); go_simp; (try with_reducible rfl))
  simp only [Act.put, List.setIfInBounds_toArray, List.set_cons_zero, List.set_cons_succ]
  refine wpAnyH_take (i := 7) (oi := ?p7) (v := ?v7) ?o7 (by kernel_rfl) (by kernel_rfl) (by kernel_rfl) ?q7 ?y7 (by assumption) ?r7
  case o7 => (simp only [List.getElem?_toArray, List.getElem?_cons_succ, List.getElem?_cons_zero]; rfl)
  case q7 => (exact fun _ _ _ h => h)
  case y7 => (refine Or.inl ⟨by rfl, ?_⟩; intro w hSw; (try dsimp only at hSw); go_simp; (try with_reducible rfl))
  simp only [Act.put, List.setIfInBounds_toArray, List.set_cons_zero, List.set_cons_succ]
  refine wpAnyH_take (i := 8) (oi := ?p8) (v := ?v8) ?o8 (by kernel_rfl) (by kernel_rfl) (by kernel_rfl) ?q8 ?y8 (by assumption) ?r8
  case o8 => (simp only [List.getElem?_toArray, List.getElem?_cons_succ, List.getElem?_cons_zero]; rfl)
  case q8 => (exact fun _ _ _ h => h)
  case y8 => (refine Or.inl ⟨by rfl, ?_⟩; intro w hSw; (try dsimp only at hSw); go_simp; (try with_reducible rfl))
  simp only [Act.put, List.setIfInBounds_toArray, List.set_cons_zero, List.set_cons_succ]
  refine wpAnyH_take (i := 9) (oi := ?p9) (v := ?v9) ?o9 (by kernel_rfl) (by kernel_rfl) (by kernel_rfl) ?q9 ?y9 (by assumption) ?r9
  case o9 => (simp only [List.getElem?_toArray, List.getElem?_cons_succ, List.getElem?_cons_zero]; rfl)
  case q9 => (exact fun _ _ _ h => h)
  case y9 => (refine Or.inl ⟨by rfl, ?_⟩; intro w hSw; (try dsimp only at hSw); go_simp; (try with_reducible rfl))
  simp only [Act.put, List.setIfInBounds_toArray, List.set_cons_zero, List.set_cons_succ]
  refine wpAnyH_ready (rs := [10]) (by kernel_rfl) (by simp) ?_
  refine AllReadyH.cons (o := ?p10) ?o10 (fun K hK => ?w10) AllReadyH.nil
  case o10 => (simp only [List.getElem?_toArray, List.getElem?_cons_succ, List.getElem?_cons_zero]; rfl)
  rw [if_pos (by rfl)]
  go_simp
  refine (hits_any 1 b 0 b p f r _).mono ?_; rintro e w' ⟨rfl, hg⟩
  rw [VO.out]
  (try go_wp2_with fail)
  refine hK.out _ _ ((HP.kp hH3.2.2.2.2.2.2.2.2.2.2.2.2.2.2.2.2.2 hg).cells) (fun hH4 => ?_)
  clear hK hg K
  refine wpAnyH_take (i := 11) (oi := ?p11) (v := ?v11) ?o11 (by kernel_rfl) (by kernel_rfl) (by kernel_rfl) ?q11 ?y11 (by assumption) ?r11
  case o11 => (simp only [List.getElem?_toArray, List.getElem?_cons_succ, List.getElem?_cons_zero]; rfl)
  case q11 => (exact fun _ _ _ h => h)
  case y11 => (refine Or.inl ⟨by rfl, ?_⟩; intro w hSw; (try dsimp only at hSw); go_simp; (try with_reducible rfl))
  simp only [Act.put, List.setIfInBounds_toArray, List.set_cons_zero, List.set_cons_succ]
  refine wpAnyH_take (i := 12) (oi := ?p12) (v := ?v12) ?o12 (by kernel_rfl) (by kernel_rfl) (by kernel_rfl) ?q12 ?y12 (by assumption) ?r12
  case o12 => (simp only [List.getElem?_toArray, List.getElem?_cons_succ, List.getElem?_cons_zero]; rfl)
  case q12 => (exact fun _ _ _ h => h)
  case y12 => (refine Or.inl ⟨by rfl, ?_⟩; intro w hSw; (try dsimp only at hSw); go_simp; (try with_reducible rfl))
  simp only [Act.put, List.setIfInBounds_toArray, List.set_cons_zero, List.set_cons_succ]
  refine wpAnyH_take (i := 13) (oi := ?p13) (v := ?v13) ?o13 (by kernel_rfl) (by kernel_rfl) (by kernel_rfl) ?q13 ?y13 (by assumption) ?r13
  case o13 => (simp only [List.getElem?_toArray, List.getElem?_cons_succ, List.getElem?_cons_zero]; rfl)
  case q13 => (exact fun _ _ _ h => h)
  case y13 => (refine Or.inl ⟨by rfl, ?_⟩; intro w hSw; (try dsimp only at hSw); go_simp; (try with_reducible rfl))
  simp only [Act.put, List.setIfInBounds_toArray, List.set_cons_zero, List.set_cons_succ]
  refine wpAnyH_take (i := 14) (oi := ?p14) (v := ?v14) ?o14 (by kernel_rfl) (by kernel_rfl) (by kernel_rfl) ?q14 ?y14 (by assumption) ?r14
  case o14 => (simp only [List.getElem?_toArray, List.getElem?_cons_succ, List.getElem?_cons_zero]; rfl)
  case q14 => (exact fun _ _ _ h => h)
  case y14 => (refine Or.inl ⟨by rfl, ?_⟩; intro w hSw; (try dsimp only at hSw); go_simp; (try with_reducible rfl))
  simp only [Act.put, List.setIfInBounds_toArray, List.set_cons_zero, List.set_cons_succ]
  refine wpAnyH_take (i := 16) (oi := ?p16) (v := ?v16) ?o16 (by kernel_rfl) (by kernel_rfl) (by kernel_rfl) ?q16 ?y16 (by assumption) ?r16
  case o16 => (simp only [List.getElem?_toArray, List.getElem?_cons_succ, List.getElem?_cons_zero]; rfl)
  case q16 => (exact fun _ _ _ h => h)
  case y16 => (refine Or.inl ⟨by rfl, ?_⟩; intro w hSw; (try dsimp only at hSw); go_simp; (try with_reducible rfl))
  simp only [Act.put, List.setIfInBounds_toArray, List.set_cons_zero, List.set_cons_succ]
  refine wpAnyH_take (i := 17) (oi := ?p17) (v := ?v17) ?o17 (by kernel_rfl) (by kernel_rfl) (by kernel_rfl) ?q17 ?y17 (by assumption) ?r17
  case o17 => (simp only [List.getElem?_toArray, List.getElem?_cons_succ, List.getElem?_cons_zero]; rfl)
  case q17 => (exact fun _ _ _ h => h)
  case y17 => (refine Or.inl ⟨by rfl, ?_⟩; intro w hSw; (try dsimp only at hSw); go_simp; (try with_reducible rfl))
  simp only [Act.put, List.setIfInBounds_toArray, List.set_cons_zero, List.set_cons_succ]
  refine wpAnyH_take (i := 18) (oi := ?p18) (v := ?v18) ?o18 (by kernel_rfl) (by kernel_rfl) (by kernel_rfl) ?q18 ?y18 (by assumption) ?r18
  case o18 => (simp only [List.getElem?_toArray, List.getElem?_cons_succ, List.getElem?_cons_zero]; rfl)
  case q18 => (exact fun _ _ _ h => h)
  case y18 => (refine Or.inl ⟨by rfl, ?_⟩; intro w hSw; (try dsimp only at hSw); go_simp; (try with_reducible rfl))
  simp only [Act.put, List.setIfInBounds_toArray, List.set_cons_zero, List.set_cons_succ]
  refine wpAnyH_take (i := 19) (oi := ?p19) (v := ?v19) ?o19 (by kernel_rfl) (by kernel_rfl) (by kernel_rfl) ?q19 ?y19 (by assumption) ?r19
  case o19 => (simp only [List.getElem?_toArray, List.getElem?_cons_succ, List.getElem?_cons_zero]; rfl)
  case q19 => (exact fun _ _ _ h => h)
  case y19 => (refine Or.inl ⟨by rfl, ?_⟩; intro w hSw; (try dsimp only at hSw); go_simp; (try with_reducible rfl))
  simp only [Act.put, List.setIfInBounds_toArray, List.set_cons_zero, List.set_cons_succ]
  refine wpAnyH_ready (rs := [15]) (by kernel_rfl) (by simp) ?_
  refine AllReadyH.cons (o := ?p15) ?o15 (fun K hK => ?w15) AllReadyH.nil
  case o15 => (simp only [List.getElem?_toArray, List.getElem?_cons_succ, List.getElem?_cons_zero]; rfl)
  rw [if_pos (by rfl)]
  go_simp
  refine (hits_any 1 a 0 b p f r _).mono ?_; rintro e w' ⟨rfl, hg⟩
  rw [VA.out]
  (try go_wp2_with fail)
  refine hK.out _ _ ((HP.kp hH4.2.2.2.2.2.2.2.2.2.2.2.2.2.2.2.2.2 hg).cells) (fun hH5 => ?_)
  clear hK hg K
  refine wpAnyH_take (i := 20) (oi := ?p20) (v := ?v20) ?o20 (by kernel_rfl) (by kernel_rfl) (by kernel_rfl) ?q20 ?y20 (by assumption) ?r20
  case o20 => (simp only [List.getElem?_toArray, List.getElem?_cons_succ, List.getElem?_cons_zero]; rfl)
  case q20 => (exact fun _ _ _ h => h)
  case y20 => (refine Or.inl ⟨by rfl, ?_⟩; intro w hSw; (try dsimp only at hSw); go_simp; (try with_reducible rfl))
  simp only [Act.put, List.setIfInBounds_toArray, List.set_cons_zero, List.set_cons_succ]
  refine wpAnyH_take (i := 21) (oi := ?p21) (v := ?v21) ?o21 (by kernel_rfl) (by kernel_rfl) (by kernel_rfl) ?q21 ?y21 (by assumption) ?r21
  case o21 => (simp only [List.getElem?_toArray, List.getElem?_cons_succ, List.getElem?_cons_zero]; rfl)
  case q21 => (exact fun _ _ _ h => h)
  case y21 => (refine Or.inl ⟨by rfl, ?_⟩; intro w hSw; (try dsimp only at hSw); go_simp; (try with_reducible rfl))
  simp only [Act.put, List.setIfInBounds_toArray, List.set_cons_zero, List.set_cons_succ]
  refine wpAnyH_take (i := 22) (oi := ?p22) (v := ?v22) ?o22 (by kernel_rfl) (by kernel_rfl) (by kernel_rfl) ?q22 ?y22 (by assumption) ?r22
  case o22 => (simp only [List.getElem?_toArray, List.getElem?_cons_succ, List.getElem?_cons_zero]; rfl)
  case q22 => (exact fun _ _ _ h => h)
  case y22 => (refine Or.inl ⟨by rfl, ?_⟩; intro w hSw; (try dsimp only at hSw); go_simp; (try with_reducible rfl))
  simp only [Act.put, List.setIfInBounds_toArray, List.set_cons_zero, List.set_cons_succ]
  refine wpAnyH_take (i := 23) (oi := ?p23) (v := ?v23) ?o23 (by kernel_rfl) (by kernel_rfl) (by kernel_rfl) ?q23 ?y23 (by assumption) ?r23
  case o23 => (simp only [List.getElem?_toArray, List.getElem?_cons_succ, List.getElem?_cons_zero]; rfl)
  case q23 => (exact fun _ _ _ h => h)
  case y23 => (refine Or.inl ⟨by rfl, ?_⟩; intro w hSw; (try dsimp only at hSw); go_simp; (try with_reducible rfl))
  simp only [Act.put, List.setIfInBounds_toArray, List.set_cons_zero, List.set_cons_succ]
  refine wpAnyH_take (i := 24) (oi := ?p24) (v := ?v24) ?o24 (by kernel_rfl) (by kernel_rfl) (by kernel_rfl) ?q24 ?y24 (by assumption) ?r24
  case o24 => (simp only [List.getElem?_toArray, List.getElem?_cons_succ, List.getElem?_cons_zero]; rfl)
  case q24 => (exact fun _ _ _ h => h)
  case y24 => (refine Or.inl ⟨by rfl, ?_⟩; intro w hSw; (try dsimp only at hSw); go_simp; (try with_reducible rfl))
  simp only [Act.put, List.setIfInBounds_toArray, List.set_cons_zero, List.set_cons_succ]
  refine wpAnyH_ready (rs := [25]) (by kernel_rfl) (by simp) ?_
  refine AllReadyH.cons (o := ?p25) ?o25 (fun K hK => ?w25) AllReadyH.nil
  case o25 => (simp only [List.getElem?_toArray, List.getElem?_cons_succ, List.getElem?_cons_zero]; rfl)
  rw [if_pos (by rfl)]
  go_simp
  refine (step_any 2 a p b' l p' f' _).mono ?_; rintro e w' ⟨rfl, hg⟩
  rw [VS.out]
  (try go_wp2_with fail)
  refine hK.out _ _ ((HP.kp hH5.2.2.2.2.2.2.2.2.2.2.2.2.2.2.2.2.2 hg).cells) (fun hH6 => ?_)
  clear hK hg K
  refine wpAnyH_take (i := 26) (oi := ?p26) (v := ?v26) ?o26 (by kernel_rfl) (by kernel_rfl) (by kernel_rfl) ?q26 ?y26 (by assumption) ?r26
  case o26 => (simp only [List.getElem?_toArray, List.getElem?_cons_succ, List.getElem?_cons_zero]; rfl)
  case q26 => (exact fun _ _ _ h => h)
  case y26 => (refine Or.inl ⟨by rfl, ?_⟩; intro w hSw; (try dsimp only at hSw); go_simp; (try with_reducible rfl))
  simp only [Act.put, List.setIfInBounds_toArray, List.set_cons_zero, List.set_cons_succ]
  refine wpAnyH_take (i := 27) (oi := ?p27) (v := ?v27) ?o27 (by kernel_rfl) (by kernel_rfl) (by kernel_rfl) ?q27 ?y27 (by assumption) ?r27
  case o27 => (simp only [List.getElem?_toArray, List.getElem?_cons_succ, List.getElem?_cons_zero]; rfl)
  case q27 => (exact fun _ _ _ h => h)
  case y27 => (refine Or.inl ⟨by rfl, ?_⟩; intro w hSw; (try dsimp only at hSw); go_simp; (try with_reducible rfl))
  simp only [Act.put, List.setIfInBounds_toArray, List.set_cons_zero, List.set_cons_succ]
  refine wpAnyH_take (i := 28) (oi := ?p28) (v := undef) ?o28 (by kernel_rfl) (by kernel_rfl) (by kernel_rfl) ?q28 ?y28 (by assumption) ?r28
  case o28 => (simp only [List.getElem?_toArray, List.getElem?_cons_succ, List.getElem?_cons_zero]; rfl)
  case q28 => (exact fun _ _ _ h => h)
  case y28 => (exact Or.inr ⟨by rfl, rfl⟩)
  simp only [Act.put, List.setIfInBounds_toArray, List.set_cons_zero, List.set_cons_succ]
  refine wpAnyH_take (i := 29) (oi := ?p29) (v := undef) ?o29 (by kernel_rfl) (by kernel_rfl) (by kernel_rfl) ?q29 ?y29 (by assumption) ?r29
  case o29 => (simp only [List.getElem?_toArray, List.getElem?_cons_succ, List.getElem?_cons_zero]; rfl)
  case q29 => (exact fun _ _ _ h => h)
  case y29 => (exact Or.inr ⟨by rfl, rfl⟩)
  simp only [Act.put, List.setIfInBounds_toArray, List.set_cons_zero, List.set_cons_succ]
  refine wpAnyH_take (i := 30) (oi := ?p30) (v := undef) ?o30 (by kernel_rfl) (by kernel_rfl) (by kernel_rfl) ?q30 ?y30 (by assumption) ?r30
  case o30 => (simp only [List.getElem?_toArray, List.getElem?_cons_succ, List.getElem?_cons_zero]; rfl)
  case q30 => (exact fun _ _ _ h => h)
  case y30 => (exact Or.inr ⟨by rfl, rfl⟩)
  simp only [Act.put, List.setIfInBounds_toArray, List.set_cons_zero, List.set_cons_succ]
  refine wpAnyH_take (i := 31) (oi := ?p31) (v := ?v31) ?o31 (by kernel_rfl) (by kernel_rfl) (by kernel_rfl) ?q31 ?y31 (by assumption) ?r31
  case o31 => (simp only [List.getElem?_toArray, List.getElem?_cons_succ, List.getElem?_cons_zero]; rfl)
  case q31 => (exact fun _ _ _ h => h)
  case y31 => (refine Or.inl ⟨by rfl, ?_⟩; intro w hSw; (try dsimp only at hSw); go_simp; (try with_reducible rfl))
  simp only [Act.put, List.setIfInBounds_toArray, List.set_cons_zero, List.set_cons_succ]
  refine wpAnyH_take (i := 32) (oi := ?p32) (v := ?v32) ?o32 (by kernel_rfl) (by kernel_rfl) (by kernel_rfl) ?q32 ?y32 (by assumption) ?r32
  case o32 => (simp only [List.getElem?_toArray, List.getElem?_cons_succ, List.getElem?_cons_zero]; rfl)
  case q32 => (exact fun _ _ _ h => h)
  case y32 => (refine Or.inl ⟨by rfl, ?_⟩; intro w hSw; (try dsimp only at hSw); go_simp; (try with_reducible rfl))
  simp only [Act.put, List.setIfInBounds_toArray, List.set_cons_zero, List.set_cons_succ]
  refine wpAnyH_take (i := 33) (oi := ?p33) (v := ?v33) ?o33 (by kernel_rfl) (by kernel_rfl) (by kernel_rfl) ?q33 ?y33 (by assumption) ?r33
  case o33 => (simp only [List.getElem?_toArray, List.getElem?_cons_succ, List.getElem?_cons_zero]; rfl)
  case q33 => (exact fun _ _ _ h => h)
  case y33 => (refine Or.inl ⟨by rfl, ?_⟩; intro w hSw; (try dsimp only at hSw); go_simp; (try with_reducible rfl))
  simp only [Act.put, List.setIfInBounds_toArray, List.set_cons_zero, List.set_cons_succ]
  refine wpAnyH_ready (rs := [34]) (by kernel_rfl) (by simp) ?_
  refine AllReadyH.cons (o := ?p34) ?o34 (fun K hK => ?w34) AllReadyH.nil
  case o34 => (simp only [List.getElem?_toArray, List.getElem?_cons_succ, List.getElem?_cons_zero]; rfl)
  rw [if_pos (by rfl)]
  go_simp
  refine (wakes_any _).mono ?_; rintro e w' ⟨rfl, hg⟩
  (try go_wp2_with fail)
  refine hK.out _ _ ((HP.kp hH6.2.2.2.2.2.2.2.2.2.2.2.2.2.2.2.2.2 hg).cells) (fun hH8 => ?_)
  clear hK hg K
  refine wpAnyH_take (i := 35) (oi := ?p35) (v := ?v35) ?o35 (by kernel_rfl) (by kernel_rfl) (by kernel_rfl) ?q35 ?y35 (by assumption) ?r35
  case o35 => (simp only [List.getElem?_toArray, List.getElem?_cons_succ, List.getElem?_cons_zero]; rfl)
  case q35 => (exact fun _ _ _ h => h)
  case y35 => (refine Or.inl ⟨by rfl, ?_⟩; intro w hSw; (try dsimp only at hSw); go_simp; (try with_reducible rfl))
  simp only [Act.put, List.setIfInBounds_toArray, List.set_cons_zero, List.set_cons_succ]
  refine wpAnyH_take (i := 36) (oi := ?p36) (v := ?v36) ?o36 (by kernel_rfl) (by kernel_rfl) (by kernel_rfl) ?q36 ?y36 (by assumption) ?r36
  case o36 => (simp only [List.getElem?_toArray, List.getElem?_cons_succ, List.getElem?_cons_zero]; rfl)
  case q36 => (exact fun _ _ _ h => h)
  case y36 => (refine Or.inl ⟨by rfl, ?_⟩; intro w hSw; (try dsimp only at hSw); go_simp; (try with_reducible rfl))
  simp only [Act.put, List.setIfInBounds_toArray, List.set_cons_zero, List.set_cons_succ]
  refine wpAnyH_done (by kernel_rfl) ?_ _
  have HK : Hid (Kp w _) := Lib.hid hH8.2.2.2.2.2.2.2.2.2.2.2.2.2.2.2.2.2.2.2.2.2.2
  clear hHeld hH2 hH3 hH4 hH5 hH6 hH8
  go_wp2_with fail
  go_ret
  exact ⟨rfl, HK.out⟩

set_option maxRecDepth 100000 in
set_option maxHeartbeats 4000000 in
theorem split_01 (a b : Int) (p : Nat) (f : Int) (r : Bool) (b' l : Int) (p' : Nat) (f' : Int) (w : World) (h0 : ¬ b < 0) (h1 : ¬ 255 < b) (h2 : p < 34359738368) (h3 : ¬ a < 0) (h4 : ¬ 255 < a) (hq : (a == b) = false) (hs : stepB 2 a p b' l p' = true) :
    Calls Try.prog 6 #[.int .i64 a, .agg #[.int .i64 b, .int .u64 p, .int .i64 f, .bool r], .agg #[.int .i64 b', .int .i8 l, .int .u64 p', .int .i64 f']] w fun e w' => e = .returned (.bool true) ∧ Kp w w' := by
  have VA : Hid (hitsB 1 a 0 b p 0 = false) := Lib.hid ((sp_all (by omega) (by omega)).trans hq)
  have VP : Hid (hitsB 2 a p b p 0 = false) := Lib.hid ((sp_page (by omega) (by omega) h2).trans hq)
  have VO : Hid (hitsB 1 b 0 b p 0 = true) := Lib.hid ((sp_all (by omega) (by omega)).trans (by simp))
  have VS := Lib.hid hs
  have VT := Lib.hid (sp_step (by omega) (by omega) hs)
  have d0 : decide (b < 0) = false := by simp; omega
  have d1 : decide (255 < b) = false := by simp; omega
  have d2 : decide (34359738368 ≤ (p : Int)) = false := by simp only [decide_eq_false_iff_not]; omega
  have d3 : decide (a < 0) = false := by simp; omega
  have d4 : decide (255 < a) = false := by simp; omega
  have HC := Lib.hid (HP.new w a b p f r b' l p' f').cells
  clear h0 h1 h2 h3 h4 hs
  go_enter Try.func6, Try.ntmps6
  go_wp2_with fail
  refine wp_region_held_drew (S := fun w' => w'.cell? ⟨w.heap.size, 0, none⟩ = some (.int .i64 b) ∧ w'.cell? ⟨w.heap.size, 1, none⟩ = some (.int .u64 p) ∧ w'.cell? ⟨w.heap.size, 2, none⟩ = some (.int .i64 f) ∧ w'.cell? ⟨w.heap.size, 3, none⟩ = some (.bool r) ∧ w'.cell? ⟨w.heap.size + 1, 0, none⟩ = some (.int .i64 b') ∧ w'.cell? ⟨w.heap.size + 1, 1, none⟩ = some (.int .i8 l) ∧ w'.cell? ⟨w.heap.size + 1, 2, none⟩ = some (.int .u64 p') ∧ w'.cell? ⟨w.heap.size + 1, 3, none⟩ = some (.int .i64 f') ∧ w'.cell? ⟨w.heap.size + 2, 0, none⟩ = some (.int .i8 2) ∧ w'.cell? ⟨w.heap.size + 2, 1, none⟩ = some (.int .i64 a) ∧ w'.cell? ⟨w.heap.size + 2, 2, none⟩ = some (.int .u64 p) ∧ w'.cell? ⟨w.heap.size + 3, 0, none⟩ = some (.int .i8 1) ∧ w'.cell? ⟨w.heap.size + 3, 1, none⟩ = some (.int .i64 a) ∧ w'.cell? ⟨w.heap.size + 3, 2, none⟩ = some (.int .u64 0) ∧ w'.cell? ⟨w.heap.size + 4, 0, none⟩ = some (.int .i8 1) ∧ w'.cell? ⟨w.heap.size + 4, 1, none⟩ = some (.int .i64 b) ∧ w'.cell? ⟨w.heap.size + 4, 2, none⟩ = some (.int .u64 0) ∧ HP w w' a b p f r b' l p' f') (by kernel_rfl) (HP.kp HC.out.2.2.2.2.2.2.2.2.2.2.2.2.2.2.2.2.2 (Kp.refl _).drew).cells (fun hHeld => ?_)
  refine wpAnyH_take (i := 0) (oi := ?p0) (v := ?v0) ?o0 (by kernel_rfl) (by kernel_rfl) (by kernel_rfl) ?q0 ?y0 (by assumption) ?r0
  case o0 => (simp only [List.getElem?_toArray, List.getElem?_cons_zero]; rfl)
  case q0 => (exact fun _ _ _ h => h)
  case y0 => (refine Or.inl ⟨by rfl, ?_⟩; intro w hSw; (try dsimp only at hSw); go_simp; (try with_reducible rfl))
  simp only [Act.put, List.setIfInBounds_toArray, List.set_cons_zero, List.set_cons_succ]
  refine wpAnyH_take (i := 1) (oi := ?p1) (v := ?v1) ?o1 (by kernel_rfl) (by kernel_rfl) (by kernel_rfl) ?q1 ?y1 (by assumption) ?r1
  case o1 => (simp only [List.getElem?_toArray, List.getElem?_cons_succ, List.getElem?_cons_zero]; rfl)
  case q1 => (exact fun _ _ _ h => h)
  case y1 => (refine Or.inl ⟨by rfl, ?_⟩; intro w hSw; (try dsimp only at hSw); go_simp; (try with_reducible rfl))
  simp only [Act.put, List.setIfInBounds_toArray, List.set_cons_zero, List.set_cons_succ]
  refine wpAnyH_take (i := 3) (oi := ?p3) (v := ?v3) ?o3 (by kernel_rfl) (by kernel_rfl) (by kernel_rfl) ?q3 ?y3 (by assumption) ?r3
  case o3 => (simp only [List.getElem?_toArray, List.getElem?_cons_succ, List.getElem?_cons_zero]; rfl)
  case q3 => (exact fun _ _ _ h => h)
  case y3 => (refine Or.inl ⟨by rfl, ?_⟩; intro w hSw; (try dsimp only at hSw); go_simp; (try with_reducible rfl))
  simp only [Act.put, List.setIfInBounds_toArray, List.set_cons_zero, List.set_cons_succ]
  refine wpAnyH_take (i := 4) (oi := ?p4) (v := ?v4) ?o4 (by kernel_rfl) (by kernel_rfl) (by kernel_rfl) ?q4 ?y4 (by assumption) ?r4
  case o4 => (simp only [List.getElem?_toArray, List.getElem?_cons_succ, List.getElem?_cons_zero]; rfl)
  case q4 => (exact fun _ _ _ h => h)
  case y4 => (refine Or.inl ⟨by rfl, ?_⟩; intro w hSw; (try dsimp only at hSw); go_simp; (try with_reducible rfl))
  simp only [Act.put, List.setIfInBounds_toArray, List.set_cons_zero, List.set_cons_succ]
  refine wpAnyH_ready (rs := [2]) (by kernel_rfl) (by simp) ?_
  refine AllReadyH.cons (o := ?p2) ?o2 (fun K hK => ?w2) AllReadyH.nil
  case o2 => (simp only [List.getElem?_toArray, List.getElem?_cons_succ, List.getElem?_cons_zero]; rfl)
  rw [if_pos (by rfl)]
  go_simp
  refine (hits_any 1 a 0 b p f r _).mono ?_; rintro e w' ⟨rfl, hg⟩
  rw [VA.out]
  (try go_wp2_with fail)
  refine hK.out _ _ ((HP.kp hHeld.2.2.2.2.2.2.2.2.2.2.2.2.2.2.2.2.2 hg).cells) (fun hH2 => ?_)
  clear hK hg K
  refine wpAnyH_ready (rs := [5]) (by kernel_rfl) (by simp) ?_
  refine AllReadyH.cons (o := ?p5) ?o5 (fun K hK => ?w5) AllReadyH.nil
  case o5 => (simp only [List.getElem?_toArray, List.getElem?_cons_succ, List.getElem?_cons_zero]; rfl)
  rw [if_pos (by rfl)]
  go_simp
  refine (hits_any 2 a p b p f r _).mono ?_; rintro e w' ⟨rfl, hg⟩
  rw [VP.out]
  (try go_wp2_with fail)
  refine hK.out _ _ ((HP.kp hH2.2.2.2.2.2.2.2.2.2.2.2.2.2.2.2.2.2 hg).cells) (fun hH3 => ?_)
  clear hK hg K
  refine wpAnyH_take (i := 6) (oi := ?p6) (v := ?v6) ?o6 (by kernel_rfl) (by kernel_rfl) (by kernel_rfl) ?q6 ?y6 (by assumption) ?r6
  case o6 => (simp only [List.getElem?_toArray, List.getElem?_cons_succ, List.getElem?_cons_zero]; rfl)
  case q6 => (exact fun _ _ _ h => h)
  case y6 => (refine Or.inl ⟨by rfl, ?_⟩; intro w hSw; (try dsimp only at hSw); go_simp; (try with_reducible rfl))
  simp only [Act.put, List.setIfInBounds_toArray, List.set_cons_zero, List.set_cons_succ]
  refine wpAnyH_take (i := 7) (oi := ?p7) (v := ?v7) ?o7 (by kernel_rfl) (by kernel_rfl) (by kernel_rfl) ?q7 ?y7 (by assumption) ?r7
  case o7 => (simp only [List.getElem?_toArray, List.getElem?_cons_succ, List.getElem?_cons_zero]; rfl)
  case q7 => (exact fun _ _ _ h => h)
  case y7 => (refine Or.inl ⟨by rfl, ?_⟩; intro w hSw; (try dsimp only at hSw); go_simp; (try with_reducible rfl))
  simp only [Act.put, List.setIfInBounds_toArray, List.set_cons_zero, List.set_cons_succ]
  refine wpAnyH_take (i := 8) (oi := ?p8) (v := ?v8) ?o8 (by kernel_rfl) (by kernel_rfl) (by kernel_rfl) ?q8 ?y8 (by assumption) ?r8
  case o8 => (simp only [List.getElem?_toArray, List.getElem?_cons_succ, List.getElem?_cons_zero]; rfl)
  case q8 => (exact fun _ _ _ h => h)
  case y8 => (refine Or.inl ⟨by rfl, ?_⟩; intro w hSw; (try dsimp only at hSw); go_simp; (try with_reducible rfl))
  simp only [Act.put, List.setIfInBounds_toArray, List.set_cons_zero, List.set_cons_succ]
  refine wpAnyH_take (i := 9) (oi := ?p9) (v := ?v9) ?o9 (by kernel_rfl) (by kernel_rfl) (by kernel_rfl) ?q9 ?y9 (by assumption) ?r9
  case o9 => (simp only [List.getElem?_toArray, List.getElem?_cons_succ, List.getElem?_cons_zero]; rfl)
  case q9 => (exact fun _ _ _ h => h)
  case y9 => (refine Or.inl ⟨by rfl, ?_⟩; intro w hSw; (try dsimp only at hSw); go_simp; (try with_reducible rfl))
  simp only [Act.put, List.setIfInBounds_toArray, List.set_cons_zero, List.set_cons_succ]
  refine wpAnyH_ready (rs := [10]) (by kernel_rfl) (by simp) ?_
  refine AllReadyH.cons (o := ?p10) ?o10 (fun K hK => ?w10) AllReadyH.nil
  case o10 => (simp only [List.getElem?_toArray, List.getElem?_cons_succ, List.getElem?_cons_zero]; rfl)
  rw [if_pos (by rfl)]
  go_simp
  refine (hits_any 1 b 0 b p f r _).mono ?_; rintro e w' ⟨rfl, hg⟩
  rw [VO.out]
  (try go_wp2_with fail)
  refine hK.out _ _ ((HP.kp hH3.2.2.2.2.2.2.2.2.2.2.2.2.2.2.2.2.2 hg).cells) (fun hH4 => ?_)
  clear hK hg K
  refine wpAnyH_take (i := 11) (oi := ?p11) (v := ?v11) ?o11 (by kernel_rfl) (by kernel_rfl) (by kernel_rfl) ?q11 ?y11 (by assumption) ?r11
  case o11 => (simp only [List.getElem?_toArray, List.getElem?_cons_succ, List.getElem?_cons_zero]; rfl)
  case q11 => (exact fun _ _ _ h => h)
  case y11 => (refine Or.inl ⟨by rfl, ?_⟩; intro w hSw; (try dsimp only at hSw); go_simp; (try with_reducible rfl))
  simp only [Act.put, List.setIfInBounds_toArray, List.set_cons_zero, List.set_cons_succ]
  refine wpAnyH_take (i := 12) (oi := ?p12) (v := ?v12) ?o12 (by kernel_rfl) (by kernel_rfl) (by kernel_rfl) ?q12 ?y12 (by assumption) ?r12
  case o12 => (simp only [List.getElem?_toArray, List.getElem?_cons_succ, List.getElem?_cons_zero]; rfl)
  case q12 => (exact fun _ _ _ h => h)
  case y12 => (refine Or.inl ⟨by rfl, ?_⟩; intro w hSw; (try dsimp only at hSw); go_simp; (try with_reducible rfl))
  simp only [Act.put, List.setIfInBounds_toArray, List.set_cons_zero, List.set_cons_succ]
  refine wpAnyH_take (i := 13) (oi := ?p13) (v := ?v13) ?o13 (by kernel_rfl) (by kernel_rfl) (by kernel_rfl) ?q13 ?y13 (by assumption) ?r13
  case o13 => (simp only [List.getElem?_toArray, List.getElem?_cons_succ, List.getElem?_cons_zero]; rfl)
  case q13 => (exact fun _ _ _ h => h)
  case y13 => (refine Or.inl ⟨by rfl, ?_⟩; intro w hSw; (try dsimp only at hSw); go_simp; (try with_reducible rfl))
  simp only [Act.put, List.setIfInBounds_toArray, List.set_cons_zero, List.set_cons_succ]
  refine wpAnyH_take (i := 14) (oi := ?p14) (v := ?v14) ?o14 (by kernel_rfl) (by kernel_rfl) (by kernel_rfl) ?q14 ?y14 (by assumption) ?r14
  case o14 => (simp only [List.getElem?_toArray, List.getElem?_cons_succ, List.getElem?_cons_zero]; rfl)
  case q14 => (exact fun _ _ _ h => h)
  case y14 => (refine Or.inl ⟨by rfl, ?_⟩; intro w hSw; (try dsimp only at hSw); go_simp; (try with_reducible rfl))
  simp only [Act.put, List.setIfInBounds_toArray, List.set_cons_zero, List.set_cons_succ]
  refine wpAnyH_take (i := 16) (oi := ?p16) (v := ?v16) ?o16 (by kernel_rfl) (by kernel_rfl) (by kernel_rfl) ?q16 ?y16 (by assumption) ?r16
  case o16 => (simp only [List.getElem?_toArray, List.getElem?_cons_succ, List.getElem?_cons_zero]; rfl)
  case q16 => (exact fun _ _ _ h => h)
  case y16 => (refine Or.inl ⟨by rfl, ?_⟩; intro w hSw; (try dsimp only at hSw); go_simp; (try with_reducible rfl))
  simp only [Act.put, List.setIfInBounds_toArray, List.set_cons_zero, List.set_cons_succ]
  refine wpAnyH_take (i := 17) (oi := ?p17) (v := ?v17) ?o17 (by kernel_rfl) (by kernel_rfl) (by kernel_rfl) ?q17 ?y17 (by assumption) ?r17
  case o17 => (simp only [List.getElem?_toArray, List.getElem?_cons_succ, List.getElem?_cons_zero]; rfl)
  case q17 => (exact fun _ _ _ h => h)
  case y17 => (refine Or.inl ⟨by rfl, ?_⟩; intro w hSw; (try dsimp only at hSw); go_simp; (try with_reducible rfl))
  simp only [Act.put, List.setIfInBounds_toArray, List.set_cons_zero, List.set_cons_succ]
  refine wpAnyH_take (i := 18) (oi := ?p18) (v := ?v18) ?o18 (by kernel_rfl) (by kernel_rfl) (by kernel_rfl) ?q18 ?y18 (by assumption) ?r18
  case o18 => (simp only [List.getElem?_toArray, List.getElem?_cons_succ, List.getElem?_cons_zero]; rfl)
  case q18 => (exact fun _ _ _ h => h)
  case y18 => (refine Or.inl ⟨by rfl, ?_⟩; intro w hSw; (try dsimp only at hSw); go_simp; (try with_reducible rfl))
  simp only [Act.put, List.setIfInBounds_toArray, List.set_cons_zero, List.set_cons_succ]
  refine wpAnyH_take (i := 19) (oi := ?p19) (v := ?v19) ?o19 (by kernel_rfl) (by kernel_rfl) (by kernel_rfl) ?q19 ?y19 (by assumption) ?r19
  case o19 => (simp only [List.getElem?_toArray, List.getElem?_cons_succ, List.getElem?_cons_zero]; rfl)
  case q19 => (exact fun _ _ _ h => h)
  case y19 => (refine Or.inl ⟨by rfl, ?_⟩; intro w hSw; (try dsimp only at hSw); go_simp; (try with_reducible rfl))
  simp only [Act.put, List.setIfInBounds_toArray, List.set_cons_zero, List.set_cons_succ]
  refine wpAnyH_ready (rs := [15]) (by kernel_rfl) (by simp) ?_
  refine AllReadyH.cons (o := ?p15) ?o15 (fun K hK => ?w15) AllReadyH.nil
  case o15 => (simp only [List.getElem?_toArray, List.getElem?_cons_succ, List.getElem?_cons_zero]; rfl)
  rw [if_pos (by rfl)]
  go_simp
  refine (hits_any 1 a 0 b p f r _).mono ?_; rintro e w' ⟨rfl, hg⟩
  rw [VA.out]
  (try go_wp2_with fail)
  refine hK.out _ _ ((HP.kp hH4.2.2.2.2.2.2.2.2.2.2.2.2.2.2.2.2.2 hg).cells) (fun hH5 => ?_)
  clear hK hg K
  refine wpAnyH_take (i := 20) (oi := ?p20) (v := ?v20) ?o20 (by kernel_rfl) (by kernel_rfl) (by kernel_rfl) ?q20 ?y20 (by assumption) ?r20
  case o20 => (simp only [List.getElem?_toArray, List.getElem?_cons_succ, List.getElem?_cons_zero]; rfl)
  case q20 => (exact fun _ _ _ h => h)
  case y20 => (refine Or.inl ⟨by rfl, ?_⟩; intro w hSw; (try dsimp only at hSw); go_simp; (try with_reducible rfl))
  simp only [Act.put, List.setIfInBounds_toArray, List.set_cons_zero, List.set_cons_succ]
  refine wpAnyH_take (i := 21) (oi := ?p21) (v := ?v21) ?o21 (by kernel_rfl) (by kernel_rfl) (by kernel_rfl) ?q21 ?y21 (by assumption) ?r21
  case o21 => (simp only [List.getElem?_toArray, List.getElem?_cons_succ, List.getElem?_cons_zero]; rfl)
  case q21 => (exact fun _ _ _ h => h)
  case y21 => (refine Or.inl ⟨by rfl, ?_⟩; intro w hSw; (try dsimp only at hSw); go_simp; (try with_reducible rfl))
  simp only [Act.put, List.setIfInBounds_toArray, List.set_cons_zero, List.set_cons_succ]
  refine wpAnyH_take (i := 22) (oi := ?p22) (v := ?v22) ?o22 (by kernel_rfl) (by kernel_rfl) (by kernel_rfl) ?q22 ?y22 (by assumption) ?r22
  case o22 => (simp only [List.getElem?_toArray, List.getElem?_cons_succ, List.getElem?_cons_zero]; rfl)
  case q22 => (exact fun _ _ _ h => h)
  case y22 => (refine Or.inl ⟨by rfl, ?_⟩; intro w hSw; (try dsimp only at hSw); go_simp; (try with_reducible rfl))
  simp only [Act.put, List.setIfInBounds_toArray, List.set_cons_zero, List.set_cons_succ]
  refine wpAnyH_take (i := 23) (oi := ?p23) (v := ?v23) ?o23 (by kernel_rfl) (by kernel_rfl) (by kernel_rfl) ?q23 ?y23 (by assumption) ?r23
  case o23 => (simp only [List.getElem?_toArray, List.getElem?_cons_succ, List.getElem?_cons_zero]; rfl)
  case q23 => (exact fun _ _ _ h => h)
  case y23 => (refine Or.inl ⟨by rfl, ?_⟩; intro w hSw; (try dsimp only at hSw); go_simp; (try with_reducible rfl))
  simp only [Act.put, List.setIfInBounds_toArray, List.set_cons_zero, List.set_cons_succ]
  refine wpAnyH_take (i := 24) (oi := ?p24) (v := ?v24) ?o24 (by kernel_rfl) (by kernel_rfl) (by kernel_rfl) ?q24 ?y24 (by assumption) ?r24
  case o24 => (simp only [List.getElem?_toArray, List.getElem?_cons_succ, List.getElem?_cons_zero]; rfl)
  case q24 => (exact fun _ _ _ h => h)
  case y24 => (refine Or.inl ⟨by rfl, ?_⟩; intro w hSw; (try dsimp only at hSw); go_simp; (try with_reducible rfl))
  simp only [Act.put, List.setIfInBounds_toArray, List.set_cons_zero, List.set_cons_succ]
  refine wpAnyH_ready (rs := [25]) (by kernel_rfl) (by simp) ?_
  refine AllReadyH.cons (o := ?p25) ?o25 (fun K hK => ?w25) AllReadyH.nil
  case o25 => (simp only [List.getElem?_toArray, List.getElem?_cons_succ, List.getElem?_cons_zero]; rfl)
  rw [if_pos (by rfl)]
  go_simp
  refine (step_any 2 a p b' l p' f' _).mono ?_; rintro e w' ⟨rfl, hg⟩
  rw [VS.out]
  (try go_wp2_with fail)
  refine hK.out _ _ ((HP.kp hH5.2.2.2.2.2.2.2.2.2.2.2.2.2.2.2.2.2 hg).cells) (fun hH6 => ?_)
  clear hK hg K
  refine wpAnyH_take (i := 26) (oi := ?p26) (v := ?v26) ?o26 (by kernel_rfl) (by kernel_rfl) (by kernel_rfl) ?q26 ?y26 (by assumption) ?r26
  case o26 => (simp only [List.getElem?_toArray, List.getElem?_cons_succ, List.getElem?_cons_zero]; rfl)
  case q26 => (exact fun _ _ _ h => h)
  case y26 => (refine Or.inl ⟨by rfl, ?_⟩; intro w hSw; (try dsimp only at hSw); go_simp; (try with_reducible rfl))
  simp only [Act.put, List.setIfInBounds_toArray, List.set_cons_zero, List.set_cons_succ]
  refine wpAnyH_take (i := 27) (oi := ?p27) (v := ?v27) ?o27 (by kernel_rfl) (by kernel_rfl) (by kernel_rfl) ?q27 ?y27 (by assumption) ?r27
  case o27 => (simp only [List.getElem?_toArray, List.getElem?_cons_succ, List.getElem?_cons_zero]; rfl)
  case q27 => (exact fun _ _ _ h => h)
  case y27 => (refine Or.inl ⟨by rfl, ?_⟩; intro w hSw; (try dsimp only at hSw); go_simp; (try with_reducible rfl))
  simp only [Act.put, List.setIfInBounds_toArray, List.set_cons_zero, List.set_cons_succ]
  refine wpAnyH_take (i := 28) (oi := ?p28) (v := ?v28) ?o28 (by kernel_rfl) (by kernel_rfl) (by kernel_rfl) ?q28 ?y28 (by assumption) ?r28
  case o28 => (simp only [List.getElem?_toArray, List.getElem?_cons_succ, List.getElem?_cons_zero]; rfl)
  case q28 => (exact fun _ _ _ h => h)
  case y28 => (refine Or.inl ⟨by rfl, ?_⟩; intro w hSw; (try dsimp only at hSw); go_simp; (try with_reducible rfl))
  simp only [Act.put, List.setIfInBounds_toArray, List.set_cons_zero, List.set_cons_succ]
  refine wpAnyH_take (i := 29) (oi := ?p29) (v := ?v29) ?o29 (by kernel_rfl) (by kernel_rfl) (by kernel_rfl) ?q29 ?y29 (by assumption) ?r29
  case o29 => (simp only [List.getElem?_toArray, List.getElem?_cons_succ, List.getElem?_cons_zero]; rfl)
  case q29 => (exact fun _ _ _ h => h)
  case y29 => (refine Or.inl ⟨by rfl, ?_⟩; intro w hSw; (try dsimp only at hSw); go_simp; (try with_reducible rfl))
  simp only [Act.put, List.setIfInBounds_toArray, List.set_cons_zero, List.set_cons_succ]
  refine wpAnyH_ready (rs := [30]) (by kernel_rfl) (by simp) ?_
  refine AllReadyH.cons (o := ?p30) ?o30 (fun K hK => ?w30) AllReadyH.nil
  case o30 => (simp only [List.getElem?_toArray, List.getElem?_cons_succ, List.getElem?_cons_zero]; rfl)
  rw [if_pos (by rfl)]
  go_simp
  refine (step_any 1 a 0 b' l p' f' _).mono ?_; rintro e w' ⟨rfl, hg⟩
  rw [VT.out]
  (try go_wp2_with fail)
  refine hK.out _ _ ((HP.kp hH6.2.2.2.2.2.2.2.2.2.2.2.2.2.2.2.2.2 hg).cells) (fun hH7 => ?_)
  clear hK hg K
  refine wpAnyH_take (i := 31) (oi := ?p31) (v := ?v31) ?o31 (by kernel_rfl) (by kernel_rfl) (by kernel_rfl) ?q31 ?y31 (by assumption) ?r31
  case o31 => (simp only [List.getElem?_toArray, List.getElem?_cons_succ, List.getElem?_cons_zero]; rfl)
  case q31 => (exact fun _ _ _ h => h)
  case y31 => (refine Or.inl ⟨by rfl, ?_⟩; intro w hSw; (try dsimp only at hSw); go_simp; (try with_reducible rfl))
  simp only [Act.put, List.setIfInBounds_toArray, List.set_cons_zero, List.set_cons_succ]
  refine wpAnyH_take (i := 32) (oi := ?p32) (v := ?v32) ?o32 (by kernel_rfl) (by kernel_rfl) (by kernel_rfl) ?q32 ?y32 (by assumption) ?r32
  case o32 => (simp only [List.getElem?_toArray, List.getElem?_cons_succ, List.getElem?_cons_zero]; rfl)
  case q32 => (exact fun _ _ _ h => h)
  case y32 => (refine Or.inl ⟨by rfl, ?_⟩; intro w hSw; (try dsimp only at hSw); go_simp; (try with_reducible rfl))
  simp only [Act.put, List.setIfInBounds_toArray, List.set_cons_zero, List.set_cons_succ]
  refine wpAnyH_take (i := 33) (oi := ?p33) (v := ?v33) ?o33 (by kernel_rfl) (by kernel_rfl) (by kernel_rfl) ?q33 ?y33 (by assumption) ?r33
  case o33 => (simp only [List.getElem?_toArray, List.getElem?_cons_succ, List.getElem?_cons_zero]; rfl)
  case q33 => (exact fun _ _ _ h => h)
  case y33 => (refine Or.inl ⟨by rfl, ?_⟩; intro w hSw; (try dsimp only at hSw); go_simp; (try with_reducible rfl))
  simp only [Act.put, List.setIfInBounds_toArray, List.set_cons_zero, List.set_cons_succ]
  refine wpAnyH_ready (rs := [34]) (by kernel_rfl) (by simp) ?_
  refine AllReadyH.cons (o := ?p34) ?o34 (fun K hK => ?w34) AllReadyH.nil
  case o34 => (simp only [List.getElem?_toArray, List.getElem?_cons_succ, List.getElem?_cons_zero]; rfl)
  rw [if_pos (by rfl)]
  go_simp
  refine (wakes_any _).mono ?_; rintro e w' ⟨rfl, hg⟩
  (try go_wp2_with fail)
  refine hK.out _ _ ((HP.kp hH7.2.2.2.2.2.2.2.2.2.2.2.2.2.2.2.2.2 hg).cells) (fun hH8 => ?_)
  clear hK hg K
  refine wpAnyH_take (i := 35) (oi := ?p35) (v := ?v35) ?o35 (by kernel_rfl) (by kernel_rfl) (by kernel_rfl) ?q35 ?y35 (by assumption) ?r35
  case o35 => (simp only [List.getElem?_toArray, List.getElem?_cons_succ, List.getElem?_cons_zero]; rfl)
  case q35 => (exact fun _ _ _ h => h)
  case y35 => (refine Or.inl ⟨by rfl, ?_⟩; intro w hSw; (try dsimp only at hSw); go_simp; (try with_reducible rfl))
  simp only [Act.put, List.setIfInBounds_toArray, List.set_cons_zero, List.set_cons_succ]
  refine wpAnyH_take (i := 36) (oi := ?p36) (v := ?v36) ?o36 (by kernel_rfl) (by kernel_rfl) (by kernel_rfl) ?q36 ?y36 (by assumption) ?r36
  case o36 => (simp only [List.getElem?_toArray, List.getElem?_cons_succ, List.getElem?_cons_zero]; rfl)
  case q36 => (exact fun _ _ _ h => h)
  case y36 => (refine Or.inl ⟨by rfl, ?_⟩; intro w hSw; (try dsimp only at hSw); go_simp; (try with_reducible rfl))
  simp only [Act.put, List.setIfInBounds_toArray, List.set_cons_zero, List.set_cons_succ]
  refine wpAnyH_done (by kernel_rfl) ?_ _
  have HK : Hid (Kp w _) := Lib.hid hH8.2.2.2.2.2.2.2.2.2.2.2.2.2.2.2.2.2.2.2.2.2.2
  clear hHeld hH2 hH3 hH4 hH5 hH6 hH8 hH7
  go_wp2_with fail
  go_ret
  exact ⟨rfl, HK.out⟩

set_option maxRecDepth 100000 in
set_option maxHeartbeats 4000000 in
theorem split_00 (a b : Int) (p : Nat) (f : Int) (r : Bool) (b' l : Int) (p' : Nat) (f' : Int) (w : World) (h0 : ¬ b < 0) (h1 : ¬ 255 < b) (h2 : p < 34359738368) (h3 : ¬ a < 0) (h4 : ¬ 255 < a) (hq : (a == b) = false) (hs : stepB 2 a p b' l p' = false) :
    Calls Try.prog 6 #[.int .i64 a, .agg #[.int .i64 b, .int .u64 p, .int .i64 f, .bool r], .agg #[.int .i64 b', .int .i8 l, .int .u64 p', .int .i64 f']] w fun e w' => e = .returned (.bool true) ∧ Kp w w' := by
  have VA : Hid (hitsB 1 a 0 b p 0 = false) := Lib.hid ((sp_all (by omega) (by omega)).trans hq)
  have VP : Hid (hitsB 2 a p b p 0 = false) := Lib.hid ((sp_page (by omega) (by omega) h2).trans hq)
  have VO : Hid (hitsB 1 b 0 b p 0 = true) := Lib.hid ((sp_all (by omega) (by omega)).trans (by simp))
  have VS := Lib.hid hs
  have d0 : decide (b < 0) = false := by simp; omega
  have d1 : decide (255 < b) = false := by simp; omega
  have d2 : decide (34359738368 ≤ (p : Int)) = false := by simp only [decide_eq_false_iff_not]; omega
  have d3 : decide (a < 0) = false := by simp; omega
  have d4 : decide (255 < a) = false := by simp; omega
  have HC := Lib.hid (HP.new w a b p f r b' l p' f').cells
  clear h0 h1 h2 h3 h4 hs
  go_enter Try.func6, Try.ntmps6
  go_wp2_with fail
  refine wp_region_held_drew (S := fun w' => w'.cell? ⟨w.heap.size, 0, none⟩ = some (.int .i64 b) ∧ w'.cell? ⟨w.heap.size, 1, none⟩ = some (.int .u64 p) ∧ w'.cell? ⟨w.heap.size, 2, none⟩ = some (.int .i64 f) ∧ w'.cell? ⟨w.heap.size, 3, none⟩ = some (.bool r) ∧ w'.cell? ⟨w.heap.size + 1, 0, none⟩ = some (.int .i64 b') ∧ w'.cell? ⟨w.heap.size + 1, 1, none⟩ = some (.int .i8 l) ∧ w'.cell? ⟨w.heap.size + 1, 2, none⟩ = some (.int .u64 p') ∧ w'.cell? ⟨w.heap.size + 1, 3, none⟩ = some (.int .i64 f') ∧ w'.cell? ⟨w.heap.size + 2, 0, none⟩ = some (.int .i8 2) ∧ w'.cell? ⟨w.heap.size + 2, 1, none⟩ = some (.int .i64 a) ∧ w'.cell? ⟨w.heap.size + 2, 2, none⟩ = some (.int .u64 p) ∧ w'.cell? ⟨w.heap.size + 3, 0, none⟩ = some (.int .i8 1) ∧ w'.cell? ⟨w.heap.size + 3, 1, none⟩ = some (.int .i64 a) ∧ w'.cell? ⟨w.heap.size + 3, 2, none⟩ = some (.int .u64 0) ∧ w'.cell? ⟨w.heap.size + 4, 0, none⟩ = some (.int .i8 1) ∧ w'.cell? ⟨w.heap.size + 4, 1, none⟩ = some (.int .i64 b) ∧ w'.cell? ⟨w.heap.size + 4, 2, none⟩ = some (.int .u64 0) ∧ HP w w' a b p f r b' l p' f') (by kernel_rfl) (HP.kp HC.out.2.2.2.2.2.2.2.2.2.2.2.2.2.2.2.2.2 (Kp.refl _).drew).cells (fun hHeld => ?_)
  refine wpAnyH_take (i := 0) (oi := ?p0) (v := ?v0) ?o0 (by kernel_rfl) (by kernel_rfl) (by kernel_rfl) ?q0 ?y0 (by assumption) ?r0
  case o0 => (simp only [List.getElem?_toArray, List.getElem?_cons_zero]; rfl)
  case q0 => (exact fun _ _ _ h => h)
  case y0 => (refine Or.inl ⟨by rfl, ?_⟩; intro w hSw; (try dsimp only at hSw); go_simp; (try with_reducible rfl))
  simp only [Act.put, List.setIfInBounds_toArray, List.set_cons_zero, List.set_cons_succ]
  refine wpAnyH_take (i := 1) (oi := ?p1) (v := ?v1) ?o1 (by kernel_rfl) (by kernel_rfl) (by kernel_rfl) ?q1 ?y1 (by assumption) ?r1
  case o1 => (simp only [List.getElem?_toArray, List.getElem?_cons_succ, List.getElem?_cons_zero]; rfl)
  case q1 => (exact fun _ _ _ h => h)
  case y1 => (refine Or.inl ⟨by rfl, ?_⟩; intro w hSw; (try dsimp only at hSw); go_simp; (try with_reducible rfl))
  simp only [Act.put, List.setIfInBounds_toArray, List.set_cons_zero, List.set_cons_succ]
  refine wpAnyH_take (i := 3) (oi := ?p3) (v := ?v3) ?o3 (by kernel_rfl) (by kernel_rfl) (by kernel_rfl) ?q3 ?y3 (by assumption) ?r3
  case o3 => (simp only [List.getElem?_toArray, List.getElem?_cons_succ, List.getElem?_cons_zero]; rfl)
  case q3 => (exact fun _ _ _ h => h)
  case y3 => (refine Or.inl ⟨by rfl, ?_⟩; intro w hSw; (try dsimp only at hSw); go_simp; (try with_reducible rfl))
  simp only [Act.put, List.setIfInBounds_toArray, List.set_cons_zero, List.set_cons_succ]
  refine wpAnyH_take (i := 4) (oi := ?p4) (v := ?v4) ?o4 (by kernel_rfl) (by kernel_rfl) (by kernel_rfl) ?q4 ?y4 (by assumption) ?r4
  case o4 => (simp only [List.getElem?_toArray, List.getElem?_cons_succ, List.getElem?_cons_zero]; rfl)
  case q4 => (exact fun _ _ _ h => h)
  case y4 => (refine Or.inl ⟨by rfl, ?_⟩; intro w hSw; (try dsimp only at hSw); go_simp; (try with_reducible rfl))
  simp only [Act.put, List.setIfInBounds_toArray, List.set_cons_zero, List.set_cons_succ]
  refine wpAnyH_ready (rs := [2]) (by kernel_rfl) (by simp) ?_
  refine AllReadyH.cons (o := ?p2) ?o2 (fun K hK => ?w2) AllReadyH.nil
  case o2 => (simp only [List.getElem?_toArray, List.getElem?_cons_succ, List.getElem?_cons_zero]; rfl)
  rw [if_pos (by rfl)]
  go_simp
  refine (hits_any 1 a 0 b p f r _).mono ?_; rintro e w' ⟨rfl, hg⟩
  rw [VA.out]
  (try go_wp2_with fail)
  refine hK.out _ _ ((HP.kp hHeld.2.2.2.2.2.2.2.2.2.2.2.2.2.2.2.2.2 hg).cells) (fun hH2 => ?_)
  clear hK hg K
  refine wpAnyH_ready (rs := [5]) (by kernel_rfl) (by simp) ?_
  refine AllReadyH.cons (o := ?p5) ?o5 (fun K hK => ?w5) AllReadyH.nil
  case o5 => (simp only [List.getElem?_toArray, List.getElem?_cons_succ, List.getElem?_cons_zero]; rfl)
  rw [if_pos (by rfl)]
  go_simp
  refine (hits_any 2 a p b p f r _).mono ?_; rintro e w' ⟨rfl, hg⟩
  rw [VP.out]
  (try go_wp2_with fail)
  refine hK.out _ _ ((HP.kp hH2.2.2.2.2.2.2.2.2.2.2.2.2.2.2.2.2.2 hg).cells) (fun hH3 => ?_)
  clear hK hg K
  refine wpAnyH_take (i := 6) (oi := ?p6) (v := ?v6) ?o6 (by kernel_rfl) (by kernel_rfl) (by kernel_rfl) ?q6 ?y6 (by assumption) ?r6
  case o6 => (simp only [List.getElem?_toArray, List.getElem?_cons_succ, List.getElem?_cons_zero]; rfl)
  case q6 => (exact fun _ _ _ h => h)
  case y6 => (refine Or.inl ⟨by rfl, ?_⟩; intro w hSw; (try dsimp only at hSw); go_simp; (try with_reducible rfl))
  simp only [Act.put, List.setIfInBounds_toArray, List.set_cons_zero, List.set_cons_succ]
  refine wpAnyH_take (i := 7) (oi := ?p7) (v := ?v7) ?o7 (by kernel_rfl) (by kernel_rfl) (by kernel_rfl) ?q7 ?y7 (by assumption) ?r7
  case o7 => (simp only [List.getElem?_toArray, List.getElem?_cons_succ, List.getElem?_cons_zero]; rfl)
  case q7 => (exact fun _ _ _ h => h)
  case y7 => (refine Or.inl ⟨by rfl, ?_⟩; intro w hSw; (try dsimp only at hSw); go_simp; (try with_reducible rfl))
  simp only [Act.put, List.setIfInBounds_toArray, List.set_cons_zero, List.set_cons_succ]
  refine wpAnyH_take (i := 8) (oi := ?p8) (v := ?v8) ?o8 (by kernel_rfl) (by kernel_rfl) (by kernel_rfl) ?q8 ?y8 (by assumption) ?r8
  case o8 => (simp only [List.getElem?_toArray, List.getElem?_cons_succ, List.getElem?_cons_zero]; rfl)
  case q8 => (exact fun _ _ _ h => h)
  case y8 => (refine Or.inl ⟨by rfl, ?_⟩; intro w hSw; (try dsimp only at hSw); go_simp; (try with_reducible rfl))
  simp only [Act.put, List.setIfInBounds_toArray, List.set_cons_zero, List.set_cons_succ]
  refine wpAnyH_take (i := 9) (oi := ?p9) (v := ?v9) ?o9 (by kernel_rfl) (by kernel_rfl) (by kernel_rfl) ?q9 ?y9 (by assumption) ?r9
  case o9 => (simp only [List.getElem?_toArray, List.getElem?_cons_succ, List.getElem?_cons_zero]; rfl)
  case q9 => (exact fun _ _ _ h => h)
  case y9 => (refine Or.inl ⟨by rfl, ?_⟩; intro w hSw; (try dsimp only at hSw); go_simp; (try with_reducible rfl))
  simp only [Act.put, List.setIfInBounds_toArray, List.set_cons_zero, List.set_cons_succ]
  refine wpAnyH_ready (rs := [10]) (by kernel_rfl) (by simp) ?_
  refine AllReadyH.cons (o := ?p10) ?o10 (fun K hK => ?w10) AllReadyH.nil
  case o10 => (simp only [List.getElem?_toArray, List.getElem?_cons_succ, List.getElem?_cons_zero]; rfl)
  rw [if_pos (by rfl)]
  go_simp
  refine (hits_any 1 b 0 b p f r _).mono ?_; rintro e w' ⟨rfl, hg⟩
  rw [VO.out]
  (try go_wp2_with fail)
  refine hK.out _ _ ((HP.kp hH3.2.2.2.2.2.2.2.2.2.2.2.2.2.2.2.2.2 hg).cells) (fun hH4 => ?_)
  clear hK hg K
  refine wpAnyH_take (i := 11) (oi := ?p11) (v := ?v11) ?o11 (by kernel_rfl) (by kernel_rfl) (by kernel_rfl) ?q11 ?y11 (by assumption) ?r11
  case o11 => (simp only [List.getElem?_toArray, List.getElem?_cons_succ, List.getElem?_cons_zero]; rfl)
  case q11 => (exact fun _ _ _ h => h)
  case y11 => (refine Or.inl ⟨by rfl, ?_⟩; intro w hSw; (try dsimp only at hSw); go_simp; (try with_reducible rfl))
  simp only [Act.put, List.setIfInBounds_toArray, List.set_cons_zero, List.set_cons_succ]
  refine wpAnyH_take (i := 12) (oi := ?p12) (v := ?v12) ?o12 (by kernel_rfl) (by kernel_rfl) (by kernel_rfl) ?q12 ?y12 (by assumption) ?r12
  case o12 => (simp only [List.getElem?_toArray, List.getElem?_cons_succ, List.getElem?_cons_zero]; rfl)
  case q12 => (exact fun _ _ _ h => h)
  case y12 => (refine Or.inl ⟨by rfl, ?_⟩; intro w hSw; (try dsimp only at hSw); go_simp; (try with_reducible rfl))
  simp only [Act.put, List.setIfInBounds_toArray, List.set_cons_zero, List.set_cons_succ]
  refine wpAnyH_take (i := 13) (oi := ?p13) (v := ?v13) ?o13 (by kernel_rfl) (by kernel_rfl) (by kernel_rfl) ?q13 ?y13 (by assumption) ?r13
  case o13 => (simp only [List.getElem?_toArray, List.getElem?_cons_succ, List.getElem?_cons_zero]; rfl)
  case q13 => (exact fun _ _ _ h => h)
  case y13 => (refine Or.inl ⟨by rfl, ?_⟩; intro w hSw; (try dsimp only at hSw); go_simp; (try with_reducible rfl))
  simp only [Act.put, List.setIfInBounds_toArray, List.set_cons_zero, List.set_cons_succ]
  refine wpAnyH_take (i := 14) (oi := ?p14) (v := ?v14) ?o14 (by kernel_rfl) (by kernel_rfl) (by kernel_rfl) ?q14 ?y14 (by assumption) ?r14
  case o14 => (simp only [List.getElem?_toArray, List.getElem?_cons_succ, List.getElem?_cons_zero]; rfl)
  case q14 => (exact fun _ _ _ h => h)
  case y14 => (refine Or.inl ⟨by rfl, ?_⟩; intro w hSw; (try dsimp only at hSw); go_simp; (try with_reducible rfl))
  simp only [Act.put, List.setIfInBounds_toArray, List.set_cons_zero, List.set_cons_succ]
  refine wpAnyH_take (i := 16) (oi := ?p16) (v := ?v16) ?o16 (by kernel_rfl) (by kernel_rfl) (by kernel_rfl) ?q16 ?y16 (by assumption) ?r16
  case o16 => (simp only [List.getElem?_toArray, List.getElem?_cons_succ, List.getElem?_cons_zero]; rfl)
  case q16 => (exact fun _ _ _ h => h)
  case y16 => (refine Or.inl ⟨by rfl, ?_⟩; intro w hSw; (try dsimp only at hSw); go_simp; (try with_reducible rfl))
  simp only [Act.put, List.setIfInBounds_toArray, List.set_cons_zero, List.set_cons_succ]
  refine wpAnyH_take (i := 17) (oi := ?p17) (v := ?v17) ?o17 (by kernel_rfl) (by kernel_rfl) (by kernel_rfl) ?q17 ?y17 (by assumption) ?r17
  case o17 => (simp only [List.getElem?_toArray, List.getElem?_cons_succ, List.getElem?_cons_zero]; rfl)
  case q17 => (exact fun _ _ _ h => h)
  case y17 => (refine Or.inl ⟨by rfl, ?_⟩; intro w hSw; (try dsimp only at hSw); go_simp; (try with_reducible rfl))
  simp only [Act.put, List.setIfInBounds_toArray, List.set_cons_zero, List.set_cons_succ]
  refine wpAnyH_take (i := 18) (oi := ?p18) (v := ?v18) ?o18 (by kernel_rfl) (by kernel_rfl) (by kernel_rfl) ?q18 ?y18 (by assumption) ?r18
  case o18 => (simp only [List.getElem?_toArray, List.getElem?_cons_succ, List.getElem?_cons_zero]; rfl)
  case q18 => (exact fun _ _ _ h => h)
  case y18 => (refine Or.inl ⟨by rfl, ?_⟩; intro w hSw; (try dsimp only at hSw); go_simp; (try with_reducible rfl))
  simp only [Act.put, List.setIfInBounds_toArray, List.set_cons_zero, List.set_cons_succ]
  refine wpAnyH_take (i := 19) (oi := ?p19) (v := ?v19) ?o19 (by kernel_rfl) (by kernel_rfl) (by kernel_rfl) ?q19 ?y19 (by assumption) ?r19
  case o19 => (simp only [List.getElem?_toArray, List.getElem?_cons_succ, List.getElem?_cons_zero]; rfl)
  case q19 => (exact fun _ _ _ h => h)
  case y19 => (refine Or.inl ⟨by rfl, ?_⟩; intro w hSw; (try dsimp only at hSw); go_simp; (try with_reducible rfl))
  simp only [Act.put, List.setIfInBounds_toArray, List.set_cons_zero, List.set_cons_succ]
  refine wpAnyH_ready (rs := [15]) (by kernel_rfl) (by simp) ?_
  refine AllReadyH.cons (o := ?p15) ?o15 (fun K hK => ?w15) AllReadyH.nil
  case o15 => (simp only [List.getElem?_toArray, List.getElem?_cons_succ, List.getElem?_cons_zero]; rfl)
  rw [if_pos (by rfl)]
  go_simp
  refine (hits_any 1 a 0 b p f r _).mono ?_; rintro e w' ⟨rfl, hg⟩
  rw [VA.out]
  (try go_wp2_with fail)
  refine hK.out _ _ ((HP.kp hH4.2.2.2.2.2.2.2.2.2.2.2.2.2.2.2.2.2 hg).cells) (fun hH5 => ?_)
  clear hK hg K
  refine wpAnyH_take (i := 20) (oi := ?p20) (v := ?v20) ?o20 (by kernel_rfl) (by kernel_rfl) (by kernel_rfl) ?q20 ?y20 (by assumption) ?r20
  case o20 => (simp only [List.getElem?_toArray, List.getElem?_cons_succ, List.getElem?_cons_zero]; rfl)
  case q20 => (exact fun _ _ _ h => h)
  case y20 => (refine Or.inl ⟨by rfl, ?_⟩; intro w hSw; (try dsimp only at hSw); go_simp; (try with_reducible rfl))
  simp only [Act.put, List.setIfInBounds_toArray, List.set_cons_zero, List.set_cons_succ]
  refine wpAnyH_take (i := 21) (oi := ?p21) (v := ?v21) ?o21 (by kernel_rfl) (by kernel_rfl) (by kernel_rfl) ?q21 ?y21 (by assumption) ?r21
  case o21 => (simp only [List.getElem?_toArray, List.getElem?_cons_succ, List.getElem?_cons_zero]; rfl)
  case q21 => (exact fun _ _ _ h => h)
  case y21 => (refine Or.inl ⟨by rfl, ?_⟩; intro w hSw; (try dsimp only at hSw); go_simp; (try with_reducible rfl))
  simp only [Act.put, List.setIfInBounds_toArray, List.set_cons_zero, List.set_cons_succ]
  refine wpAnyH_take (i := 22) (oi := ?p22) (v := ?v22) ?o22 (by kernel_rfl) (by kernel_rfl) (by kernel_rfl) ?q22 ?y22 (by assumption) ?r22
  case o22 => (simp only [List.getElem?_toArray, List.getElem?_cons_succ, List.getElem?_cons_zero]; rfl)
  case q22 => (exact fun _ _ _ h => h)
  case y22 => (refine Or.inl ⟨by rfl, ?_⟩; intro w hSw; (try dsimp only at hSw); go_simp; (try with_reducible rfl))
  simp only [Act.put, List.setIfInBounds_toArray, List.set_cons_zero, List.set_cons_succ]
  refine wpAnyH_take (i := 23) (oi := ?p23) (v := ?v23) ?o23 (by kernel_rfl) (by kernel_rfl) (by kernel_rfl) ?q23 ?y23 (by assumption) ?r23
  case o23 => (simp only [List.getElem?_toArray, List.getElem?_cons_succ, List.getElem?_cons_zero]; rfl)
  case q23 => (exact fun _ _ _ h => h)
  case y23 => (refine Or.inl ⟨by rfl, ?_⟩; intro w hSw; (try dsimp only at hSw); go_simp; (try with_reducible rfl))
  simp only [Act.put, List.setIfInBounds_toArray, List.set_cons_zero, List.set_cons_succ]
  refine wpAnyH_take (i := 24) (oi := ?p24) (v := ?v24) ?o24 (by kernel_rfl) (by kernel_rfl) (by kernel_rfl) ?q24 ?y24 (by assumption) ?r24
  case o24 => (simp only [List.getElem?_toArray, List.getElem?_cons_succ, List.getElem?_cons_zero]; rfl)
  case q24 => (exact fun _ _ _ h => h)
  case y24 => (refine Or.inl ⟨by rfl, ?_⟩; intro w hSw; (try dsimp only at hSw); go_simp; (try with_reducible rfl))
  simp only [Act.put, List.setIfInBounds_toArray, List.set_cons_zero, List.set_cons_succ]
  refine wpAnyH_ready (rs := [25]) (by kernel_rfl) (by simp) ?_
  refine AllReadyH.cons (o := ?p25) ?o25 (fun K hK => ?w25) AllReadyH.nil
  case o25 => (simp only [List.getElem?_toArray, List.getElem?_cons_succ, List.getElem?_cons_zero]; rfl)
  rw [if_pos (by rfl)]
  go_simp
  refine (step_any 2 a p b' l p' f' _).mono ?_; rintro e w' ⟨rfl, hg⟩
  rw [VS.out]
  (try go_wp2_with fail)
  refine hK.out _ _ ((HP.kp hH5.2.2.2.2.2.2.2.2.2.2.2.2.2.2.2.2.2 hg).cells) (fun hH6 => ?_)
  clear hK hg K
  refine wpAnyH_take (i := 26) (oi := ?p26) (v := ?v26) ?o26 (by kernel_rfl) (by kernel_rfl) (by kernel_rfl) ?q26 ?y26 (by assumption) ?r26
  case o26 => (simp only [List.getElem?_toArray, List.getElem?_cons_succ, List.getElem?_cons_zero]; rfl)
  case q26 => (exact fun _ _ _ h => h)
  case y26 => (refine Or.inl ⟨by rfl, ?_⟩; intro w hSw; (try dsimp only at hSw); go_simp; (try with_reducible rfl))
  simp only [Act.put, List.setIfInBounds_toArray, List.set_cons_zero, List.set_cons_succ]
  refine wpAnyH_take (i := 27) (oi := ?p27) (v := ?v27) ?o27 (by kernel_rfl) (by kernel_rfl) (by kernel_rfl) ?q27 ?y27 (by assumption) ?r27
  case o27 => (simp only [List.getElem?_toArray, List.getElem?_cons_succ, List.getElem?_cons_zero]; rfl)
  case q27 => (exact fun _ _ _ h => h)
  case y27 => (refine Or.inl ⟨by rfl, ?_⟩; intro w hSw; (try dsimp only at hSw); go_simp; (try with_reducible rfl))
  simp only [Act.put, List.setIfInBounds_toArray, List.set_cons_zero, List.set_cons_succ]
  refine wpAnyH_take (i := 28) (oi := ?p28) (v := undef) ?o28 (by kernel_rfl) (by kernel_rfl) (by kernel_rfl) ?q28 ?y28 (by assumption) ?r28
  case o28 => (simp only [List.getElem?_toArray, List.getElem?_cons_succ, List.getElem?_cons_zero]; rfl)
  case q28 => (exact fun _ _ _ h => h)
  case y28 => (exact Or.inr ⟨by rfl, rfl⟩)
  simp only [Act.put, List.setIfInBounds_toArray, List.set_cons_zero, List.set_cons_succ]
  refine wpAnyH_take (i := 29) (oi := ?p29) (v := undef) ?o29 (by kernel_rfl) (by kernel_rfl) (by kernel_rfl) ?q29 ?y29 (by assumption) ?r29
  case o29 => (simp only [List.getElem?_toArray, List.getElem?_cons_succ, List.getElem?_cons_zero]; rfl)
  case q29 => (exact fun _ _ _ h => h)
  case y29 => (exact Or.inr ⟨by rfl, rfl⟩)
  simp only [Act.put, List.setIfInBounds_toArray, List.set_cons_zero, List.set_cons_succ]
  refine wpAnyH_take (i := 30) (oi := ?p30) (v := undef) ?o30 (by kernel_rfl) (by kernel_rfl) (by kernel_rfl) ?q30 ?y30 (by assumption) ?r30
  case o30 => (simp only [List.getElem?_toArray, List.getElem?_cons_succ, List.getElem?_cons_zero]; rfl)
  case q30 => (exact fun _ _ _ h => h)
  case y30 => (exact Or.inr ⟨by rfl, rfl⟩)
  simp only [Act.put, List.setIfInBounds_toArray, List.set_cons_zero, List.set_cons_succ]
  refine wpAnyH_take (i := 31) (oi := ?p31) (v := ?v31) ?o31 (by kernel_rfl) (by kernel_rfl) (by kernel_rfl) ?q31 ?y31 (by assumption) ?r31
  case o31 => (simp only [List.getElem?_toArray, List.getElem?_cons_succ, List.getElem?_cons_zero]; rfl)
  case q31 => (exact fun _ _ _ h => h)
  case y31 => (refine Or.inl ⟨by rfl, ?_⟩; intro w hSw; (try dsimp only at hSw); go_simp; (try with_reducible rfl))
  simp only [Act.put, List.setIfInBounds_toArray, List.set_cons_zero, List.set_cons_succ]
  refine wpAnyH_take (i := 32) (oi := ?p32) (v := ?v32) ?o32 (by kernel_rfl) (by kernel_rfl) (by kernel_rfl) ?q32 ?y32 (by assumption) ?r32
  case o32 => (simp only [List.getElem?_toArray, List.getElem?_cons_succ, List.getElem?_cons_zero]; rfl)
  case q32 => (exact fun _ _ _ h => h)
  case y32 => (refine Or.inl ⟨by rfl, ?_⟩; intro w hSw; (try dsimp only at hSw); go_simp; (try with_reducible rfl))
  simp only [Act.put, List.setIfInBounds_toArray, List.set_cons_zero, List.set_cons_succ]
  refine wpAnyH_take (i := 33) (oi := ?p33) (v := ?v33) ?o33 (by kernel_rfl) (by kernel_rfl) (by kernel_rfl) ?q33 ?y33 (by assumption) ?r33
  case o33 => (simp only [List.getElem?_toArray, List.getElem?_cons_succ, List.getElem?_cons_zero]; rfl)
  case q33 => (exact fun _ _ _ h => h)
  case y33 => (refine Or.inl ⟨by rfl, ?_⟩; intro w hSw; (try dsimp only at hSw); go_simp; (try with_reducible rfl))
  simp only [Act.put, List.setIfInBounds_toArray, List.set_cons_zero, List.set_cons_succ]
  refine wpAnyH_ready (rs := [34]) (by kernel_rfl) (by simp) ?_
  refine AllReadyH.cons (o := ?p34) ?o34 (fun K hK => ?w34) AllReadyH.nil
  case o34 => (simp only [List.getElem?_toArray, List.getElem?_cons_succ, List.getElem?_cons_zero]; rfl)
  rw [if_pos (by rfl)]
  go_simp
  refine (wakes_any _).mono ?_; rintro e w' ⟨rfl, hg⟩
  (try go_wp2_with fail)
  refine hK.out _ _ ((HP.kp hH6.2.2.2.2.2.2.2.2.2.2.2.2.2.2.2.2.2 hg).cells) (fun hH8 => ?_)
  clear hK hg K
  refine wpAnyH_take (i := 35) (oi := ?p35) (v := ?v35) ?o35 (by kernel_rfl) (by kernel_rfl) (by kernel_rfl) ?q35 ?y35 (by assumption) ?r35
  case o35 => (simp only [List.getElem?_toArray, List.getElem?_cons_succ, List.getElem?_cons_zero]; rfl)
  case q35 => (exact fun _ _ _ h => h)
  case y35 => (refine Or.inl ⟨by rfl, ?_⟩; intro w hSw; (try dsimp only at hSw); go_simp; (try with_reducible rfl))
  simp only [Act.put, List.setIfInBounds_toArray, List.set_cons_zero, List.set_cons_succ]
  refine wpAnyH_take (i := 36) (oi := ?p36) (v := ?v36) ?o36 (by kernel_rfl) (by kernel_rfl) (by kernel_rfl) ?q36 ?y36 (by assumption) ?r36
  case o36 => (simp only [List.getElem?_toArray, List.getElem?_cons_succ, List.getElem?_cons_zero]; rfl)
  case q36 => (exact fun _ _ _ h => h)
  case y36 => (refine Or.inl ⟨by rfl, ?_⟩; intro w hSw; (try dsimp only at hSw); go_simp; (try with_reducible rfl))
  simp only [Act.put, List.setIfInBounds_toArray, List.set_cons_zero, List.set_cons_succ]
  refine wpAnyH_done (by kernel_rfl) ?_ _
  have HK : Hid (Kp w _) := Lib.hid hH8.2.2.2.2.2.2.2.2.2.2.2.2.2.2.2.2.2.2.2.2.2.2
  clear hHeld hH2 hH3 hH4 hH5 hH6 hH8
  go_wp2_with fail
  go_ret
  exact ⟨rfl, HK.out⟩

theorem walkSplit (a b p f : Int) (r : Bool) (b' l p' f' : Int) (wp : (Lit.int .u64 p).wf = true) (wp' : (Lit.int .u64 p').wf = true) (w : World) :
    Calls Try.prog 6 #[.int .i64 a, .agg #[.int .i64 b, .int .u64 p, .int .i64 f, .bool r], .agg #[.int .i64 b', .int .i8 l, .int .u64 p', .int .i64 f']] w fun e w' => e = .returned (.bool true) ∧ Kp w w' := by
  obtain ⟨p, rfl, -⟩ := nat_of p wp
  obtain ⟨p', rfl, -⟩ := nat_of p' wp'
  by_cases h0 : b < 0
  · exact split_o0 a b p f r b' l p' f' w h0
  by_cases h1 : 255 < b
  · exact split_o1 a b p f r b' l p' f' w h0 h1
  by_cases h2 : p < 34359738368
  · by_cases h3 : a < 0
    · exact split_o3 a b p f r b' l p' f' w h0 h1 h2 h3
    by_cases h4 : 255 < a
    · exact split_o4 a b p f r b' l p' f' w h0 h1 h2 h3 h4
    cases hq : (a == b) <;> cases hs : stepB 2 a p b' l p'
    · exact split_00 a b p f r b' l p' f' w h0 h1 h2 h3 h4 hq hs
    · exact split_01 a b p f r b' l p' f' w h0 h1 h2 h3 h4 hq hs
    · exact split_10 a b p f r b' l p' f' w h0 h1 h2 h3 h4 hq hs
    · exact split_11 a b p f r b' l p' f' w h0 h1 h2 h3 h4 hq hs
  · exact split_o2 a b p f r b' l p' f' w h0 h1 h2
end Go.Proofs.Ytgchpicfhbhikaa
