/-
  AluBack returns true. No condition but the table.
-/
import Derived.Test.YtieffpgiliebmaaDoorDoes06
namespace Go.Proofs.YtieffpgiliebmaaDoor
open Go Go.RowKit

theorem upd_same (R : Regs) (d : Nat) (x : BitVec 64) : upd R d x d = x := if_pos rfl
theorem upd_other (R : Regs) (d k : Nat) (x : BitVec 64) (h : k ≠ d) : upd R d x k = R k := if_neg h
theorem ins_three {o d n m : Nat} (ho : o = 2 ∨ o = 3 ∨ o = 6) (hd : d < 8) (hn : n < 8) (hm : m < 8) : InsA o d n m 0 := by
  have hd' : (0 : Int) ≤ (d : Int) ∧ (d : Int) < 8 := by omega
  have hn' : (0 : Int) ≤ (n : Int) ∧ (n : Int) < 8 := by omega
  have hm' : (0 : Int) ≤ (m : Int) ∧ (m : Int) < 8 := by omega
  rcases ho with rfl | rfl | rfl
  all_goals exact ⟨by decide, by decide, ⟨by decide, by decide⟩, .inr ⟨by decide, hd'⟩, .inr ⟨by decide, hn'⟩, .inr ⟨by decide, hm'⟩⟩
theorem ins_addi {d n : Nat} {imm : Int} (hd : d < 8) (hn : n < 8) (hi : -2048 ≤ imm ∧ imm ≤ 2047) : InsA 7 d n 0 imm := by
  have hd' : (0 : Int) ≤ (d : Int) ∧ (d : Int) < 8 := by omega
  have hn' : (0 : Int) ≤ (n : Int) ∧ (n : Int) < 8 := by omega
  exact ⟨by decide, by decide, hi, .inr ⟨by decide, hd'⟩, .inr ⟨by decide, hn'⟩, .inl ⟨by decide, rfl⟩⟩
theorem wrap6 : wrap64 (5 + 1) = 6 := by decide +kernel
theorem wrap7 : wrap64 (6 + 1) = 7 := by decide +kernel
theorem bk_add5 (d n m : Nat) (R : Regs) (w : World) (hT : TabsOk w) (hd : d < 8) (hn : n < 8) (hm : m < 8) :
    Calls Tryd.prog 17 #[.agg #[.int .i8 2, .int .i8 d, .int .i8 n, .int .i8 m, .int .i64 0], .agg (regV R), .int .i64 5] w fun e w' => e = .returned (.tuple #[.agg (regV (upd R d (R n + R m))), .int .i64 6, .int .i64 0]) ∧ Kp w w' := by
  have h := do_add d n m 0 R 5 w hT (ins_three (by decide) hd hn hm)
  rw [wrap6] at h
  exact h
theorem bk_sub6 (d n m : Nat) (R : Regs) (w : World) (hT : TabsOk w) (hd : d < 8) (hn : n < 8) (hm : m < 8) :
    Calls Tryd.prog 17 #[.agg #[.int .i8 3, .int .i8 d, .int .i8 n, .int .i8 m, .int .i64 0], .agg (regV R), .int .i64 6] w fun e w' => e = .returned (.tuple #[.agg (regV (upd R d (R n - R m))), .int .i64 7, .int .i64 0]) ∧ Kp w w' := by
  have h := do_sub d n m 0 R 6 w hT (ins_three (by decide) hd hn hm)
  rw [wrap7] at h
  exact h
theorem bk_eor5 (d n m : Nat) (R : Regs) (w : World) (hT : TabsOk w) (hd : d < 8) (hn : n < 8) (hm : m < 8) :
    Calls Tryd.prog 17 #[.agg #[.int .i8 6, .int .i8 d, .int .i8 n, .int .i8 m, .int .i64 0], .agg (regV R), .int .i64 5] w fun e w' => e = .returned (.tuple #[.agg (regV (upd R d (R n ^^^ R m))), .int .i64 6, .int .i64 0]) ∧ Kp w w' := by
  have h := do_eor d n m 0 R 5 w hT (ins_three (by decide) hd hn hm)
  rw [wrap6] at h
  exact h
theorem bk_eor6 (d n m : Nat) (R : Regs) (w : World) (hT : TabsOk w) (hd : d < 8) (hn : n < 8) (hm : m < 8) :
    Calls Tryd.prog 17 #[.agg #[.int .i8 6, .int .i8 d, .int .i8 n, .int .i8 m, .int .i64 0], .agg (regV R), .int .i64 6] w fun e w' => e = .returned (.tuple #[.agg (regV (upd R d (R n ^^^ R m))), .int .i64 7, .int .i64 0]) ∧ Kp w w' := by
  have h := do_eor d n m 0 R 6 w hT (ins_three (by decide) hd hn hm)
  rw [wrap7] at h
  exact h
theorem bk_addi5 (d n : Nat) (imm : Int) (R : Regs) (w : World) (hT : TabsOk w) (hd : d < 8) (hn : n < 8) (hi : -2048 ≤ imm ∧ imm ≤ 2047) :
    Calls Tryd.prog 17 #[.agg #[.int .i8 7, .int .i8 d, .int .i8 n, .int .i8 0, .int .i64 imm], .agg (regV R), .int .i64 5] w fun e w' => e = .returned (.tuple #[.agg (regV (upd R d (R n + BitVec.ofInt 64 imm))), .int .i64 6, .int .i64 0]) ∧ Kp w w' := by
  have h := do_addi d n 0 imm R 5 w hT (ins_addi hd hn hi)
  rw [wrap6] at h
  exact h
theorem bk_addi6 (d n : Nat) (imm : Int) (R : Regs) (w : World) (hT : TabsOk w) (hd : d < 8) (hn : n < 8) (hi : -2048 ≤ imm ∧ imm ≤ 2047) :
    Calls Tryd.prog 17 #[.agg #[.int .i8 7, .int .i8 d, .int .i8 n, .int .i8 0, .int .i64 imm], .agg (regV R), .int .i64 6] w fun e w' => e = .returned (.tuple #[.agg (regV (upd R d (R n + BitVec.ofInt 64 imm))), .int .i64 7, .int .i64 0]) ∧ Kp w w' := by
  have h := do_addi d n 0 imm R 6 w hT (ins_addi hd hn hi)
  rw [wrap7] at h
  exact h
theorem back_add (R : Regs) (d n m : Nat) (h : d ≠ m) : upd (upd R d (R n + R m)) d (upd R d (R n + R m) d - upd R d (R n + R m) m) d = R n := by
  rw [upd_same, upd_same, upd_other R d m _ (Ne.symm h), BitVec.add_sub_cancel]
theorem back_eor (R : Regs) (d n m : Nat) (h : d ≠ m) : upd (upd R d (R n ^^^ R m)) d (upd R d (R n ^^^ R m) d ^^^ upd R d (R n ^^^ R m) m) d = R n := by
  rw [upd_same, upd_same, upd_other R d m _ (Ne.symm h), BitVec.xor_assoc, BitVec.xor_self, BitVec.xor_zero]
theorem back_addi (R : Regs) (d n : Nat) (imm : Int) : upd (upd R d (R n + BitVec.ofInt 64 imm)) d (upd R d (R n + BitVec.ofInt 64 imm) d + BitVec.ofInt 64 (-imm)) d = R n := by
  rw [upd_same, upd_same, BitVec.ofInt_neg, ← BitVec.sub_eq_add_neg, BitVec.add_sub_cancel]
abbrev pairsV (d n m : Nat) (imm : Int) : Array Value := #[.int .i8 2, .int .i8 d, .int .i8 n, .int .i8 m, .int .i64 0, .int .i8 3, .int .i8 d, .int .i8 d, .int .i8 m, .int .i64 0, .int .i8 6, .int .i8 d, .int .i8 n, .int .i8 m, .int .i64 0, .int .i8 6, .int .i8 d, .int .i8 d, .int .i8 m, .int .i64 0, .int .i8 7, .int .i8 d, .int .i8 n, .int .i8 0, .int .i64 imm, .int .i8 7, .int .i8 d, .int .i8 d, .int .i8 0, .int .i64 (-imm)]
def InBack (d n m imm : Int) : Prop := (0 ≤ d ∧ d < 8) ∧ (0 ≤ n ∧ n < 8) ∧ (0 ≤ m ∧ m < 8) ∧ d ≠ m ∧ d ≠ n ∧ -2047 ≤ imm ∧ imm ≤ 2047
set_option maxHeartbeats 4000000 in
theorem walkBackOut (d n m imm : Int) (R : Regs) (w : World) (hT : TabsOk w) (h : ¬ InBack d n m imm) :
    Calls Tryd.prog 6 #[.int .i8 d, .int .i8 n, .int .i8 m, .int .i64 imm, .agg (regV R)] w fun e w' => e = .returned (.bool true) ∧ Kp w w' := by
  have HT := Lib.hid hT; clear hT
  have H := Lib.hid h; clear h
  go_enter Tryd.func6, Tryd.ntmps6
  go_wp2_with fail
  all_goals first
    | (refine (wakes_any _ (HT.out.kp (kpA _ _ _))).mono ?_; rintro e w1 ⟨rfl, hg⟩; have K1 : Hid (Kp w w1) := Lib.hid ((kpA w _ _).trans hg); clear hg; go_wp2; go_ret; exact ⟨rfl, K1.out⟩)
    | (exfalso; rename_i hx _ _; have h := H.out; unfold InBack at h; simp only [beq_eq_false_iff_ne] at hx; omega)
set_option maxHeartbeats 4000000 in
theorem walkBackIn (d n m : Nat) (imm : Int) (R : Regs) (w : World) (hT : TabsOk w) (hd : d < 8) (hn : n < 8) (hm : m < 8) (hdm : d ≠ m) (hdn : d ≠ n) (hi : -2047 ≤ imm ∧ imm ≤ 2047) :
    Calls Tryd.prog 6 #[.int .i8 d, .int .i8 n, .int .i8 m, .int .i64 imm, .agg (regV R)] w fun e w' => e = .returned (.bool true) ∧ Kp w w' := by
  have HT := Lib.hid hT; clear hT
  have D8 := Lib.hid hd
  have N8 := Lib.hid hn
  have M8 := Lib.hid hm
  have DM := Lib.hid hdm
  have HI := Lib.hid hi
  have b0 : decide ((d : Int) < 0) = false := decide_eq_false (by omega)
  have b1 : decide ((8 : Int) ≤ (d : Int)) = false := decide_eq_false (by omega)
  have b2 : decide ((n : Int) < 0) = false := decide_eq_false (by omega)
  have b3 : decide ((8 : Int) ≤ (n : Int)) = false := decide_eq_false (by omega)
  have b4 : decide ((m : Int) < 0) = false := decide_eq_false (by omega)
  have b5 : decide ((8 : Int) ≤ (m : Int)) = false := decide_eq_false (by omega)
  have b6 : ((d : Int) == (m : Int)) = false := by rw [beq_eq_false_iff_ne]; omega
  have b7 : ((d : Int) == (n : Int)) = false := by rw [beq_eq_false_iff_ne]; omega
  have b8 : decide (imm < -2047) = false := decide_eq_false (by omega)
  have b9 : decide ((2047 : Int) < imm) = false := decide_eq_false (by omega)
  have i0 : -2047 ≤ imm := hi.1
  have i1 : imm ≤ 2047 := hi.2
  clear hd hn hm hdm hdn hi
  go_enter Tryd.func6, Tryd.ntmps6
  go_wp2_with fail
  have T0 : Hid (Blk ((w.alloc (.cells (regV R) 35)).alloc (.cells (pairsV d n m imm) 40)) w.heap.size (regV R) 35) := Lib.hid ((Blk.new w _ _).alloc _)
  have U0 : Hid (Blk ((w.alloc (.cells (regV R) 35)).alloc (.cells (pairsV d n m imm) 40)) (w.heap.size + 1) (pairsV d n m imm) 40) := Lib.hid (Blk.new2 w _ _ _)
  have K0 : Hid (Kp w ((w.alloc (.cells (regV R) 35)).alloc (.cells (pairsV d n m imm) 40))) := Lib.hid ((kpA _ _ _).alloc _ _)
  generalize ((w.alloc (.cells (regV R) 35)).alloc (.cells (pairsV d n m imm) 40)) = w0 at T0 U0 K0 ⊢
  clear b0 b1 b2 b3 b4 b5 b6 b7 b8 b9 i0 i1
  have n0 : (0 : Int) ≤ (n : Int) := by omega
  have n8 : (n : Int) < 8 := by have := N8.out; omega
  have d0 : (0 : Int) ≤ (d : Int) := by omega
  have d8 : (d : Int) < 8 := by have := D8.out; omega
  refine wp_loop_rounds 4 ?_
  rw [rounds_succ]
  have c0 : w0.cell? ⟨w.heap.size + 1, 0, none⟩ = some (.int .i8 2) := U0.out.cell 0
  have c1 : w0.cell? ⟨w.heap.size + 1, 1, none⟩ = some (.int .i8 d) := U0.out.cell 1
  have c2 : w0.cell? ⟨w.heap.size + 1, 2, none⟩ = some (.int .i8 n) := U0.out.cell 2
  have c3 : w0.cell? ⟨w.heap.size + 1, 3, none⟩ = some (.int .i8 m) := U0.out.cell 3
  have c4 : w0.cell? ⟨w.heap.size + 1, 4, none⟩ = some (.int .i64 0) := U0.out.cell 4
  have c5 : w0.cell? ⟨w.heap.size + 1, 5, none⟩ = some (.int .i8 3) := U0.out.cell 5
  have c6 : w0.cell? ⟨w.heap.size + 1, 6, none⟩ = some (.int .i8 d) := U0.out.cell 6
  have c7 : w0.cell? ⟨w.heap.size + 1, 7, none⟩ = some (.int .i8 d) := U0.out.cell 7
  have c8 : w0.cell? ⟨w.heap.size + 1, 8, none⟩ = some (.int .i8 m) := U0.out.cell 8
  have c9 : w0.cell? ⟨w.heap.size + 1, 9, none⟩ = some (.int .i64 0) := U0.out.cell 9
  have hl : w.heap.size + 1 < w0.heap.size := U0.out.lt
  go_wp2_with (refine wpList_load_row rfl 35 (.tmp 9) rfl w.heap.size rfl _ _ _ _ (T0.out.alloc _) Tryd.underlying35 rfl (by kernel_rfl) ?_)
  refine (bk_add5 d n m R _ (HT.out.kp (K0.out.alloc _ _)) D8.out N8.out M8.out).mono ?_; rintro e w1 ⟨rfl, hg⟩
  have T1 := Lib.hid ((T0.out.alloc (.cells #[.int .i8 2, .int .i8 d, .int .i8 n, .int .i8 m, .int .i64 0, .int .i8 3, .int .i8 d, .int .i8 d, .int .i8 m, .int .i64 0] 40)).kp hg)
  have U1 := Lib.hid ((U0.out.alloc (.cells #[.int .i8 2, .int .i8 d, .int .i8 n, .int .i8 m, .int .i64 0, .int .i8 3, .int .i8 d, .int .i8 d, .int .i8 m, .int .i64 0] 40)).kp hg)
  have V1 := Lib.hid ((Blk.new w0 #[.int .i8 2, .int .i8 d, .int .i8 n, .int .i8 m, .int .i64 0, .int .i8 3, .int .i8 d, .int .i8 d, .int .i8 m, .int .i64 0] 40).kp hg)
  have K1 : Hid (Kp w w1) := Lib.hid ((K0.out.alloc _ _).trans hg)
  clear hg c0 c1 c2 c3 c4 c5 c6 c7 c8 c9 hl
  have b5 : w1.cell? ⟨w0.heap.size, 5, none⟩ = some (.int .i8 3) := V1.out.cell 5
  have b6 : w1.cell? ⟨w0.heap.size, 6, none⟩ = some (.int .i8 d) := V1.out.cell 6
  have b7 : w1.cell? ⟨w0.heap.size, 7, none⟩ = some (.int .i8 d) := V1.out.cell 7
  have b8 : w1.cell? ⟨w0.heap.size, 8, none⟩ = some (.int .i8 m) := V1.out.cell 8
  have b9 : w1.cell? ⟨w0.heap.size, 9, none⟩ = some (.int .i64 0) := V1.out.cell 9
  have hl : w0.heap.size < w1.heap.size := V1.out.lt
  go_wp2_with (first
    | (refine wpList_store_row rfl 35 (.tmp 13) (.tmp 99) rfl w1.heap.size (regV (upd R d (R n + R m))) rfl rfl 35 _ (heap_alloc_last _ _) (by kernel_rfl) rfl (regV_one _) ?_; rw [World.setRow_alloc_new])
    | (refine wpList_load_row rfl 35 (.tmp 13) rfl w1.heap.size rfl _ _ _ _ (Blk.new w1 (regV (upd R d (R n + R m))) _) Tryd.underlying35 rfl (by kernel_rfl) ?_))
  refine (bk_sub6 d d m (upd R d (R n + R m)) _ (HT.out.kp (K1.out.alloc _ _)) D8.out D8.out M8.out).mono ?_; rintro e w2 ⟨rfl, hg⟩
  have T2 := Lib.hid ((T1.out.alloc (.cells (regV (upd R d (R n + R m))) 35)).kp hg)
  have U2 := Lib.hid ((U1.out.alloc (.cells (regV (upd R d (R n + R m))) 35)).kp hg)
  have K2 : Hid (Kp w w2) := Lib.hid ((K1.out.alloc _ _).trans hg)
  clear hg b5 b6 b7 b8 b9 hl
  go_wp2_with (refine wpList_store_row rfl 35 (.tmp 16) (.tmp 108) rfl w2.heap.size (regV (upd (upd R d (R n + R m)) d ((upd R d (R n + R m)) d - (upd R d (R n + R m)) m))) rfl rfl 35 _ (heap_alloc_last _ _) (by kernel_rfl) rfl (regV_one _) ?_; rw [World.setRow_alloc_new])
  have X : Hid (Blk (w2.alloc (.cells (regV (upd (upd R d (R n + R m)) d ((upd R d (R n + R m)) d - (upd R d (R n + R m)) m))) 35)) w2.heap.size (regV (upd (upd R d (R n + R m)) d ((upd R d (R n + R m)) d - (upd R d (R n + R m)) m))) 35) := Lib.hid (Blk.new _ _ _)
  have T3 := Lib.hid (T2.out.alloc (.cells (regV (upd (upd R d (R n + R m)) d ((upd R d (R n + R m)) d - (upd R d (R n + R m)) m))) 35))
  have U3 := Lib.hid (U2.out.alloc (.cells (regV (upd (upd R d (R n + R m)) d ((upd R d (R n + R m)) d - (upd R d (R n + R m)) m))) 35))
  have K3 : Hid (Kp w (w2.alloc (.cells (regV (upd (upd R d (R n + R m)) d ((upd R d (R n + R m)) d - (upd R d (R n + R m)) m))) 35))) := Lib.hid (K2.out.alloc _ _)
  generalize hG : w2.heap.size = G at X ⊢
  clear hG
  generalize w2.alloc (.cells (regV (upd (upd R d (R n + R m)) d ((upd R d (R n + R m)) d - (upd R d (R n + R m)) m))) 35) = w3 at X T3 U3 K3 ⊢
  have hb : w3.cell? ⟨G, d, none⟩ = some (.int .u64 (R n).toNat) := by
    rw [X.out.cell, regV_at _ d D8.out, back_add R d n m DM.out]
  have hr : w3.cell? ⟨w.heap.size, n, none⟩ = some (.int .u64 (R n).toNat) := (T3.out.cell n).trans (regV_at R n N8.out)
  go_region
  clear hb hr X
  have T3 := Lib.hid T3.out.drew
  have U3 := Lib.hid U3.out.drew
  have K3 := Lib.hid K3.out.drew
  generalize w3.drew = w3 at T3 U3 K3 ⊢
  go_wp2_with fail
  rw [rounds_succ]
  have c10 : w3.cell? ⟨w.heap.size + 1, 10, none⟩ = some (.int .i8 6) := U3.out.cell 10
  have c11 : w3.cell? ⟨w.heap.size + 1, 11, none⟩ = some (.int .i8 d) := U3.out.cell 11
  have c12 : w3.cell? ⟨w.heap.size + 1, 12, none⟩ = some (.int .i8 n) := U3.out.cell 12
  have c13 : w3.cell? ⟨w.heap.size + 1, 13, none⟩ = some (.int .i8 m) := U3.out.cell 13
  have c14 : w3.cell? ⟨w.heap.size + 1, 14, none⟩ = some (.int .i64 0) := U3.out.cell 14
  have c15 : w3.cell? ⟨w.heap.size + 1, 15, none⟩ = some (.int .i8 6) := U3.out.cell 15
  have c16 : w3.cell? ⟨w.heap.size + 1, 16, none⟩ = some (.int .i8 d) := U3.out.cell 16
  have c17 : w3.cell? ⟨w.heap.size + 1, 17, none⟩ = some (.int .i8 d) := U3.out.cell 17
  have c18 : w3.cell? ⟨w.heap.size + 1, 18, none⟩ = some (.int .i8 m) := U3.out.cell 18
  have c19 : w3.cell? ⟨w.heap.size + 1, 19, none⟩ = some (.int .i64 0) := U3.out.cell 19
  have hl : w.heap.size + 1 < w3.heap.size := U3.out.lt
  go_wp2_with (refine wpList_load_row rfl 35 (.tmp 9) rfl w.heap.size rfl _ _ _ _ (T3.out.alloc _) Tryd.underlying35 rfl (by kernel_rfl) ?_)
  refine (bk_eor5 d n m R _ (HT.out.kp (K3.out.alloc _ _)) D8.out N8.out M8.out).mono ?_; rintro e w4 ⟨rfl, hg⟩
  have T4 := Lib.hid ((T3.out.alloc (.cells #[.int .i8 6, .int .i8 d, .int .i8 n, .int .i8 m, .int .i64 0, .int .i8 6, .int .i8 d, .int .i8 d, .int .i8 m, .int .i64 0] 40)).kp hg)
  have U4 := Lib.hid ((U3.out.alloc (.cells #[.int .i8 6, .int .i8 d, .int .i8 n, .int .i8 m, .int .i64 0, .int .i8 6, .int .i8 d, .int .i8 d, .int .i8 m, .int .i64 0] 40)).kp hg)
  have V4 := Lib.hid ((Blk.new w3 #[.int .i8 6, .int .i8 d, .int .i8 n, .int .i8 m, .int .i64 0, .int .i8 6, .int .i8 d, .int .i8 d, .int .i8 m, .int .i64 0] 40).kp hg)
  have K4 : Hid (Kp w w4) := Lib.hid ((K3.out.alloc _ _).trans hg)
  clear hg c10 c11 c12 c13 c14 c15 c16 c17 c18 c19 hl
  have b5 : w4.cell? ⟨w3.heap.size, 5, none⟩ = some (.int .i8 6) := V4.out.cell 5
  have b6 : w4.cell? ⟨w3.heap.size, 6, none⟩ = some (.int .i8 d) := V4.out.cell 6
  have b7 : w4.cell? ⟨w3.heap.size, 7, none⟩ = some (.int .i8 d) := V4.out.cell 7
  have b8 : w4.cell? ⟨w3.heap.size, 8, none⟩ = some (.int .i8 m) := V4.out.cell 8
  have b9 : w4.cell? ⟨w3.heap.size, 9, none⟩ = some (.int .i64 0) := V4.out.cell 9
  have hl : w3.heap.size < w4.heap.size := V4.out.lt
  go_wp2_with (first
    | (refine wpList_store_row rfl 35 (.tmp 13) (.tmp 99) rfl w4.heap.size (regV (upd R d (R n ^^^ R m))) rfl rfl 35 _ (heap_alloc_last _ _) (by kernel_rfl) rfl (regV_one _) ?_; rw [World.setRow_alloc_new])
    | (refine wpList_load_row rfl 35 (.tmp 13) rfl w4.heap.size rfl _ _ _ _ (Blk.new w4 (regV (upd R d (R n ^^^ R m))) _) Tryd.underlying35 rfl (by kernel_rfl) ?_))
  refine (bk_eor6 d d m (upd R d (R n ^^^ R m)) _ (HT.out.kp (K4.out.alloc _ _)) D8.out D8.out M8.out).mono ?_; rintro e w5 ⟨rfl, hg⟩
  have T5 := Lib.hid ((T4.out.alloc (.cells (regV (upd R d (R n ^^^ R m))) 35)).kp hg)
  have U5 := Lib.hid ((U4.out.alloc (.cells (regV (upd R d (R n ^^^ R m))) 35)).kp hg)
  have K5 : Hid (Kp w w5) := Lib.hid ((K4.out.alloc _ _).trans hg)
  clear hg b5 b6 b7 b8 b9 hl
  go_wp2_with (refine wpList_store_row rfl 35 (.tmp 16) (.tmp 108) rfl w5.heap.size (regV (upd (upd R d (R n ^^^ R m)) d ((upd R d (R n ^^^ R m)) d ^^^ (upd R d (R n ^^^ R m)) m))) rfl rfl 35 _ (heap_alloc_last _ _) (by kernel_rfl) rfl (regV_one _) ?_; rw [World.setRow_alloc_new])
  have X : Hid (Blk (w5.alloc (.cells (regV (upd (upd R d (R n ^^^ R m)) d ((upd R d (R n ^^^ R m)) d ^^^ (upd R d (R n ^^^ R m)) m))) 35)) w5.heap.size (regV (upd (upd R d (R n ^^^ R m)) d ((upd R d (R n ^^^ R m)) d ^^^ (upd R d (R n ^^^ R m)) m))) 35) := Lib.hid (Blk.new _ _ _)
  have T6 := Lib.hid (T5.out.alloc (.cells (regV (upd (upd R d (R n ^^^ R m)) d ((upd R d (R n ^^^ R m)) d ^^^ (upd R d (R n ^^^ R m)) m))) 35))
  have U6 := Lib.hid (U5.out.alloc (.cells (regV (upd (upd R d (R n ^^^ R m)) d ((upd R d (R n ^^^ R m)) d ^^^ (upd R d (R n ^^^ R m)) m))) 35))
  have K6 : Hid (Kp w (w5.alloc (.cells (regV (upd (upd R d (R n ^^^ R m)) d ((upd R d (R n ^^^ R m)) d ^^^ (upd R d (R n ^^^ R m)) m))) 35))) := Lib.hid (K5.out.alloc _ _)
  generalize hG : w5.heap.size = G at X ⊢
  clear hG
  generalize w5.alloc (.cells (regV (upd (upd R d (R n ^^^ R m)) d ((upd R d (R n ^^^ R m)) d ^^^ (upd R d (R n ^^^ R m)) m))) 35) = w6 at X T6 U6 K6 ⊢
  have hb : w6.cell? ⟨G, d, none⟩ = some (.int .u64 (R n).toNat) := by
    rw [X.out.cell, regV_at _ d D8.out, back_eor R d n m DM.out]
  have hr : w6.cell? ⟨w.heap.size, n, none⟩ = some (.int .u64 (R n).toNat) := (T6.out.cell n).trans (regV_at R n N8.out)
  go_region
  clear hb hr X
  have T6 := Lib.hid T6.out.drew
  have U6 := Lib.hid U6.out.drew
  have K6 := Lib.hid K6.out.drew
  generalize w6.drew = w6 at T6 U6 K6 ⊢
  go_wp2_with fail
  rw [rounds_succ]
  have c20 : w6.cell? ⟨w.heap.size + 1, 20, none⟩ = some (.int .i8 7) := U6.out.cell 20
  have c21 : w6.cell? ⟨w.heap.size + 1, 21, none⟩ = some (.int .i8 d) := U6.out.cell 21
  have c22 : w6.cell? ⟨w.heap.size + 1, 22, none⟩ = some (.int .i8 n) := U6.out.cell 22
  have c23 : w6.cell? ⟨w.heap.size + 1, 23, none⟩ = some (.int .i8 0) := U6.out.cell 23
  have c24 : w6.cell? ⟨w.heap.size + 1, 24, none⟩ = some (.int .i64 imm) := U6.out.cell 24
  have c25 : w6.cell? ⟨w.heap.size + 1, 25, none⟩ = some (.int .i8 7) := U6.out.cell 25
  have c26 : w6.cell? ⟨w.heap.size + 1, 26, none⟩ = some (.int .i8 d) := U6.out.cell 26
  have c27 : w6.cell? ⟨w.heap.size + 1, 27, none⟩ = some (.int .i8 d) := U6.out.cell 27
  have c28 : w6.cell? ⟨w.heap.size + 1, 28, none⟩ = some (.int .i8 0) := U6.out.cell 28
  have c29 : w6.cell? ⟨w.heap.size + 1, 29, none⟩ = some (.int .i64 (-imm)) := U6.out.cell 29
  have hl : w.heap.size + 1 < w6.heap.size := U6.out.lt
  go_wp2_with (refine wpList_load_row rfl 35 (.tmp 9) rfl w.heap.size rfl _ _ _ _ (T6.out.alloc _) Tryd.underlying35 rfl (by kernel_rfl) ?_)
  refine (bk_addi5 d n imm R _ (HT.out.kp (K6.out.alloc _ _)) D8.out N8.out ⟨by have := HI.out; omega, by have := HI.out; omega⟩).mono ?_; rintro e w7 ⟨rfl, hg⟩
  have T7 := Lib.hid ((T6.out.alloc (.cells #[.int .i8 7, .int .i8 d, .int .i8 n, .int .i8 0, .int .i64 imm, .int .i8 7, .int .i8 d, .int .i8 d, .int .i8 0, .int .i64 (-imm)] 40)).kp hg)
  have U7 := Lib.hid ((U6.out.alloc (.cells #[.int .i8 7, .int .i8 d, .int .i8 n, .int .i8 0, .int .i64 imm, .int .i8 7, .int .i8 d, .int .i8 d, .int .i8 0, .int .i64 (-imm)] 40)).kp hg)
  have V7 := Lib.hid ((Blk.new w6 #[.int .i8 7, .int .i8 d, .int .i8 n, .int .i8 0, .int .i64 imm, .int .i8 7, .int .i8 d, .int .i8 d, .int .i8 0, .int .i64 (-imm)] 40).kp hg)
  have K7 : Hid (Kp w w7) := Lib.hid ((K6.out.alloc _ _).trans hg)
  clear hg c20 c21 c22 c23 c24 c25 c26 c27 c28 c29 hl
  have b5 : w7.cell? ⟨w6.heap.size, 5, none⟩ = some (.int .i8 7) := V7.out.cell 5
  have b6 : w7.cell? ⟨w6.heap.size, 6, none⟩ = some (.int .i8 d) := V7.out.cell 6
  have b7 : w7.cell? ⟨w6.heap.size, 7, none⟩ = some (.int .i8 d) := V7.out.cell 7
  have b8 : w7.cell? ⟨w6.heap.size, 8, none⟩ = some (.int .i8 0) := V7.out.cell 8
  have b9 : w7.cell? ⟨w6.heap.size, 9, none⟩ = some (.int .i64 (-imm)) := V7.out.cell 9
  have hl : w6.heap.size < w7.heap.size := V7.out.lt
  go_wp2_with (first
    | (refine wpList_store_row rfl 35 (.tmp 13) (.tmp 99) rfl w7.heap.size (regV (upd R d (R n + BitVec.ofInt 64 imm))) rfl rfl 35 _ (heap_alloc_last _ _) (by kernel_rfl) rfl (regV_one _) ?_; rw [World.setRow_alloc_new])
    | (refine wpList_load_row rfl 35 (.tmp 13) rfl w7.heap.size rfl _ _ _ _ (Blk.new w7 (regV (upd R d (R n + BitVec.ofInt 64 imm))) _) Tryd.underlying35 rfl (by kernel_rfl) ?_))
  refine (bk_addi6 d d (-imm) (upd R d (R n + BitVec.ofInt 64 imm)) _ (HT.out.kp (K7.out.alloc _ _)) D8.out D8.out ⟨by have := HI.out; omega, by have := HI.out; omega⟩).mono ?_; rintro e w8 ⟨rfl, hg⟩
  have T8 := Lib.hid ((T7.out.alloc (.cells (regV (upd R d (R n + BitVec.ofInt 64 imm))) 35)).kp hg)
  have U8 := Lib.hid ((U7.out.alloc (.cells (regV (upd R d (R n + BitVec.ofInt 64 imm))) 35)).kp hg)
  have K8 : Hid (Kp w w8) := Lib.hid ((K7.out.alloc _ _).trans hg)
  clear hg b5 b6 b7 b8 b9 hl
  go_wp2_with (refine wpList_store_row rfl 35 (.tmp 16) (.tmp 108) rfl w8.heap.size (regV (upd (upd R d (R n + BitVec.ofInt 64 imm)) d ((upd R d (R n + BitVec.ofInt 64 imm)) d + BitVec.ofInt 64 (-imm)))) rfl rfl 35 _ (heap_alloc_last _ _) (by kernel_rfl) rfl (regV_one _) ?_; rw [World.setRow_alloc_new])
  have X : Hid (Blk (w8.alloc (.cells (regV (upd (upd R d (R n + BitVec.ofInt 64 imm)) d ((upd R d (R n + BitVec.ofInt 64 imm)) d + BitVec.ofInt 64 (-imm)))) 35)) w8.heap.size (regV (upd (upd R d (R n + BitVec.ofInt 64 imm)) d ((upd R d (R n + BitVec.ofInt 64 imm)) d + BitVec.ofInt 64 (-imm)))) 35) := Lib.hid (Blk.new _ _ _)
  have T9 := Lib.hid (T8.out.alloc (.cells (regV (upd (upd R d (R n + BitVec.ofInt 64 imm)) d ((upd R d (R n + BitVec.ofInt 64 imm)) d + BitVec.ofInt 64 (-imm)))) 35))
  have U9 := Lib.hid (U8.out.alloc (.cells (regV (upd (upd R d (R n + BitVec.ofInt 64 imm)) d ((upd R d (R n + BitVec.ofInt 64 imm)) d + BitVec.ofInt 64 (-imm)))) 35))
  have K9 : Hid (Kp w (w8.alloc (.cells (regV (upd (upd R d (R n + BitVec.ofInt 64 imm)) d ((upd R d (R n + BitVec.ofInt 64 imm)) d + BitVec.ofInt 64 (-imm)))) 35))) := Lib.hid (K8.out.alloc _ _)
  generalize hG : w8.heap.size = G at X ⊢
  clear hG
  generalize w8.alloc (.cells (regV (upd (upd R d (R n + BitVec.ofInt 64 imm)) d ((upd R d (R n + BitVec.ofInt 64 imm)) d + BitVec.ofInt 64 (-imm)))) 35) = w9 at X T9 U9 K9 ⊢
  have hb : w9.cell? ⟨G, d, none⟩ = some (.int .u64 (R n).toNat) := by
    rw [X.out.cell, regV_at _ d D8.out, back_addi R d n imm]
  have hr : w9.cell? ⟨w.heap.size, n, none⟩ = some (.int .u64 (R n).toNat) := (T9.out.cell n).trans (regV_at R n N8.out)
  go_region
  clear hb hr X
  have T9 := Lib.hid T9.out.drew
  have U9 := Lib.hid U9.out.drew
  have K9 := Lib.hid K9.out.drew
  generalize w9.drew = w9 at T9 U9 K9 ⊢
  go_wp2_with fail
  rw [rounds_succ]
  go_wp2_with fail
  refine (wakes_any _ (HT.out.kp K9.out)).mono ?_; rintro e w10 ⟨rfl, hg⟩
  have K10 := Lib.hid (K9.out.trans hg)
  clear hg
  go_wp2
  go_ret
  exact ⟨rfl, K10.out⟩
theorem walkBackA (d n m imm : Int) (a0 a1 a2 a3 a4 a5 a6 a7 : Int) (w : World) (hT : TabsOk w) (h0 : (Lit.int .u64 a0).wf = true) (h1 : (Lit.int .u64 a1).wf = true) (h2 : (Lit.int .u64 a2).wf = true) (h3 : (Lit.int .u64 a3).wf = true) (h4 : (Lit.int .u64 a4).wf = true) (h5 : (Lit.int .u64 a5).wf = true) (h6 : (Lit.int .u64 a6).wf = true) (h7 : (Lit.int .u64 a7).wf = true) :
    Calls Tryd.prog 6 #[.int .i8 d, .int .i8 n, .int .i8 m, .int .i64 imm, .agg #[.int .u64 a0, .int .u64 a1, .int .u64 a2, .int .u64 a3, .int .u64 a4, .int .u64 a5, .int .u64 a6, .int .u64 a7]] w fun e w' => e = .returned (.bool true) ∧ Kp w w' := by
  obtain ⟨R, e⟩ := regs_of a0 a1 a2 a3 a4 a5 a6 a7 h0 h1 h2 h3 h4 h5 h6 h7
  rw [e]
  by_cases h : InBack d n m imm
  · obtain ⟨⟨d0, d8⟩, ⟨n0, n8⟩, ⟨m0, m8⟩, hdm, hdn, hi⟩ := h
    obtain ⟨d, rfl⟩ := Int.eq_ofNat_of_zero_le d0
    obtain ⟨n, rfl⟩ := Int.eq_ofNat_of_zero_le n0
    obtain ⟨m, rfl⟩ := Int.eq_ofNat_of_zero_le m0
    exact walkBackIn d n m imm R w hT (by omega) (by omega) (by omega) (by omega) (by omega) hi
  · exact walkBackOut d n m imm R w hT h
end Go.Proofs.YtieffpgiliebmaaDoor
