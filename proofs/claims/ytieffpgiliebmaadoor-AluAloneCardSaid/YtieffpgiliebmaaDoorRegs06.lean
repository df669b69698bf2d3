/-
  Eight registers by value: what is read of them and what they are behind a store; the operations of package alu, one by one. No condition.
-/
import Derived.Test.YtieffpgiliebmaaDoorUsed06
import Derived.StillTailTactics
namespace Go.Proofs.YtieffpgiliebmaaDoor
open Go Go.RowKit

abbrev Regs := Nat → BitVec 64
abbrev regL (R : Regs) : List Value := [.int .u64 (R 0).toNat, .int .u64 (R 1).toNat, .int .u64 (R 2).toNat, .int .u64 (R 3).toNat, .int .u64 (R 4).toNat, .int .u64 (R 5).toNat, .int .u64 (R 6).toNat, .int .u64 (R 7).toNat]
abbrev regV (R : Regs) : Array Value := (regL R).toArray
theorem regL_at (R : Regs) (k : Nat) (h : k < 8) : (regL R)[k]? = some (.int .u64 (R k).toNat) := by
  obtain rfl | rfl | rfl | rfl | rfl | rfl | rfl | rfl : k = 0 ∨ k = 1 ∨ k = 2 ∨ k = 3 ∨ k = 4 ∨ k = 5 ∨ k = 6 ∨ k = 7 := by omega
  all_goals rfl
def upd (R : Regs) (d : Nat) (x : BitVec 64) : Regs := fun j => if j = d then x else R j
theorem regL_set (R : Regs) (d : Nat) (x : BitVec 64) (h : d < 8) : (regL R).set d (.int .u64 x.toNat) = regL (upd R d x) := by
  obtain rfl | rfl | rfl | rfl | rfl | rfl | rfl | rfl : d = 0 ∨ d = 1 ∨ d = 2 ∨ d = 3 ∨ d = 4 ∨ d = 5 ∨ d = 6 ∨ d = 7 := by omega
  all_goals rfl
theorem regL_put (R : Regs) (d : Nat) (a : Int) (x : BitVec 64) (h : d < 8) (e : a = (x.toNat : Int)) : (regL R).set d (.int .u64 a) = [.int .u64 (upd R d x 0).toNat, .int .u64 (upd R d x 1).toNat, .int .u64 (upd R d x 2).toNat, .int .u64 (upd R d x 3).toNat, .int .u64 (upd R d x 4).toNat, .int .u64 (upd R d x 5).toNat, .int .u64 (upd R d x 6).toNat, .int .u64 (upd R d x 7).toNat] := by
  rw [e]
  exact regL_set R d x h
theorem Blk.new3 (w : World) (o o' : Obj) (cs : Array Value) (t : TypeId) : Blk (((w.alloc o).alloc o').alloc (.cells cs t)) (w.heap.size + 1 + 1) cs t := by
  have := Blk.new ((w.alloc o).alloc o') cs t
  simpa using this
theorem wrap_u64 (a : Int) : IntKind.u64.wrap a = ((BitVec.ofInt 64 a).toNat : Int) := by
  rw [BitVec.toNat_ofInt, IntKind.wrap_u64]
  omega
theorem nop_any (op d n m : Nat) (imm : Int) (R : Regs) (pc : Int) (w : World) :
    Calls Tryd.prog 30 #[.agg #[.int .i8 op, .int .i8 d, .int .i8 n, .int .i8 m, .int .i64 imm], .agg (regV R), .int .i64 pc] w fun e w' => e = .returned (.tuple #[.agg (regV R), .int .i64 (wrap64 (pc + 1))]) ∧ Kp w w' := by
  go_enter Tryd.func30, Tryd.ntmps30
  go_wp2
  refine bodyPost_ret (results_cell_tmp rfl _ _ _ _ _ _ rfl (Blk.new3 _ _ _ _ _) Tryd.underlying35 rfl (by kernel_rfl)) rfl ?_
  exact ⟨rfl, by repeat (first | exact Kp.refl _ | apply Kp.alloc)⟩
theorem mov_any (op d n m : Nat) (imm : Int) (R : Regs) (pc : Int) (w : World) (hd : d < 8) :
    Calls Tryd.prog 31 #[.agg #[.int .i8 op, .int .i8 d, .int .i8 n, .int .i8 m, .int .i64 imm], .agg (regV R), .int .i64 pc] w fun e w' => e = .returned (.tuple #[.agg (regV (upd R d (BitVec.ofInt 64 imm))), .int .i64 (wrap64 (pc + 1))]) ∧ Kp w w' := by
  have zD := regL_at R d hd
  have d0 : (0 : Int) ≤ (d : Int) := by omega
  have d8 : (d : Int) < 8 := by omega
  have hset := regL_put R d (IntKind.u64.wrap imm) _ hd (wrap_u64 imm)
  have HD := Lib.hid hd; clear hd
  go_enter Tryd.func31, Tryd.ntmps31
  go_wp2
  refine bodyPost_ret (results_cell_tmp rfl _ _ _ _ _ _ rfl (Blk.new3 _ _ _ _ _) Tryd.underlying35 rfl (by kernel_rfl)) rfl ?_
  exact ⟨rfl, by repeat (first | exact Kp.refl _ | apply Kp.alloc)⟩
theorem regL_get (R : Regs) (k : Nat) (hk : k < 8) (h : k < (regL R).length) : (regL R)[k]'h = .int .u64 (R k).toNat := by
  have := regL_at R k hk
  rw [List.getElem?_eq_getElem h] at this
  exact Option.some.inj this
theorem bv_add (x y : BitVec 64) : IntKind.u64.wrap ((x.toNat : Int) + (y.toNat : Int)) = ((x + y).toNat : Int) := by
  rw [IntKind.wrap_u64, BitVec.toNat_add]
  omega
theorem bv_sub (x y : BitVec 64) : IntKind.u64.wrap ((x.toNat : Int) - (y.toNat : Int)) = ((x - y).toNat : Int) := by
  have hx := x.isLt
  have hy := y.isLt
  rw [IntKind.wrap_u64, BitVec.toNat_sub]
  omega
theorem bv_addi (x : BitVec 64) (a : Int) : IntKind.u64.wrap ((x.toNat : Int) + IntKind.u64.wrap a) = ((x + BitVec.ofInt 64 a).toNat : Int) := by
  rw [wrap_u64 a, bv_add]
theorem add_any (op d n m : Nat) (imm : Int) (R : Regs) (pc : Int) (w : World) (hd : d < 8) (hn : n < 8) (hm : m < 8) :
    Calls Tryd.prog 32 #[.agg #[.int .i8 op, .int .i8 d, .int .i8 n, .int .i8 m, .int .i64 imm], .agg (regV R), .int .i64 pc] w fun e w' => e = .returned (.tuple #[.agg (regV (upd R d (R n + R m))), .int .i64 (wrap64 (pc + 1))]) ∧ Kp w w' := by
  have zD := regL_at R d hd
  have yN := regL_get R n hn
  have d0 : (0 : Int) ≤ (d : Int) := by omega
  have d8 : (d : Int) < 8 := by omega
  have n0 : (0 : Int) ≤ (n : Int) := by omega
  have n8 : (n : Int) < 8 := by omega
  have yM := regL_get R m hm
  have m0 : (0 : Int) ≤ (m : Int) := by omega
  have m8 : (m : Int) < 8 := by omega
  have hset := regL_put R d (IntKind.u64.wrap (((R n).toNat : Int) + ((R m).toNat : Int))) (R n + R m) hd (bv_add _ _)
  have HD := Lib.hid hd
  go_enter Tryd.func32, Tryd.ntmps32
  go_wp2
  go_region
  clear yN yM
  go_wp2
  refine bodyPost_ret (results_cell_tmp rfl _ _ _ _ _ _ rfl (Blk.new3 _ _ _ _ _).drew Tryd.underlying35 rfl (by kernel_rfl)) rfl ?_
  exact ⟨rfl, by repeat (first | exact Kp.refl _ | apply Kp.alloc | apply Kp.drew)⟩
theorem sub_any (op d n m : Nat) (imm : Int) (R : Regs) (pc : Int) (w : World) (hd : d < 8) (hn : n < 8) (hm : m < 8) :
    Calls Tryd.prog 33 #[.agg #[.int .i8 op, .int .i8 d, .int .i8 n, .int .i8 m, .int .i64 imm], .agg (regV R), .int .i64 pc] w fun e w' => e = .returned (.tuple #[.agg (regV (upd R d (R n - R m))), .int .i64 (wrap64 (pc + 1))]) ∧ Kp w w' := by
  have zD := regL_at R d hd
  have yN := regL_get R n hn
  have d0 : (0 : Int) ≤ (d : Int) := by omega
  have d8 : (d : Int) < 8 := by omega
  have n0 : (0 : Int) ≤ (n : Int) := by omega
  have n8 : (n : Int) < 8 := by omega
  have yM := regL_get R m hm
  have m0 : (0 : Int) ≤ (m : Int) := by omega
  have m8 : (m : Int) < 8 := by omega
  have hset := regL_put R d (IntKind.u64.wrap (((R n).toNat : Int) - ((R m).toNat : Int))) (R n - R m) hd (bv_sub _ _)
  have HD := Lib.hid hd
  go_enter Tryd.func33, Tryd.ntmps33
  go_wp2
  go_region
  clear yN yM
  go_wp2
  refine bodyPost_ret (results_cell_tmp rfl _ _ _ _ _ _ rfl (Blk.new3 _ _ _ _ _).drew Tryd.underlying35 rfl (by kernel_rfl)) rfl ?_
  exact ⟨rfl, by repeat (first | exact Kp.refl _ | apply Kp.alloc | apply Kp.drew)⟩
theorem and_any (op d n m : Nat) (imm : Int) (R : Regs) (pc : Int) (w : World) (hd : d < 8) (hn : n < 8) (hm : m < 8) :
    Calls Tryd.prog 34 #[.agg #[.int .i8 op, .int .i8 d, .int .i8 n, .int .i8 m, .int .i64 imm], .agg (regV R), .int .i64 pc] w fun e w' => e = .returned (.tuple #[.agg (regV (upd R d (R n &&& R m))), .int .i64 (wrap64 (pc + 1))]) ∧ Kp w w' := by
  have zD := regL_at R d hd
  have yN := regL_get R n hn
  have d0 : (0 : Int) ≤ (d : Int) := by omega
  have d8 : (d : Int) < 8 := by omega
  have n0 : (0 : Int) ≤ (n : Int) := by omega
  have n8 : (n : Int) < 8 := by omega
  have yM := regL_get R m hm
  have m0 : (0 : Int) ≤ (m : Int) := by omega
  have m8 : (m : Int) < 8 := by omega
  have hset := regL_put R d (bits .and .u64 ((R n).toNat : Int) ((R m).toNat : Int)) (R n &&& R m) hd (bv_and _ _)
  have HD := Lib.hid hd
  go_enter Tryd.func34, Tryd.ntmps34
  go_wp2
  go_region
  clear yN yM
  go_wp2
  refine bodyPost_ret (results_cell_tmp rfl _ _ _ _ _ _ rfl (Blk.new3 _ _ _ _ _).drew Tryd.underlying35 rfl (by kernel_rfl)) rfl ?_
  exact ⟨rfl, by repeat (first | exact Kp.refl _ | apply Kp.alloc | apply Kp.drew)⟩
theorem orr_any (op d n m : Nat) (imm : Int) (R : Regs) (pc : Int) (w : World) (hd : d < 8) (hn : n < 8) (hm : m < 8) :
    Calls Tryd.prog 35 #[.agg #[.int .i8 op, .int .i8 d, .int .i8 n, .int .i8 m, .int .i64 imm], .agg (regV R), .int .i64 pc] w fun e w' => e = .returned (.tuple #[.agg (regV (upd R d (R n ||| R m))), .int .i64 (wrap64 (pc + 1))]) ∧ Kp w w' := by
  have zD := regL_at R d hd
  have yN := regL_get R n hn
  have d0 : (0 : Int) ≤ (d : Int) := by omega
  have d8 : (d : Int) < 8 := by omega
  have n0 : (0 : Int) ≤ (n : Int) := by omega
  have n8 : (n : Int) < 8 := by omega
  have yM := regL_get R m hm
  have m0 : (0 : Int) ≤ (m : Int) := by omega
  have m8 : (m : Int) < 8 := by omega
  have hset := regL_put R d (bits .or .u64 ((R n).toNat : Int) ((R m).toNat : Int)) (R n ||| R m) hd (bv_or _ _)
  have HD := Lib.hid hd
  go_enter Tryd.func35, Tryd.ntmps35
  go_wp2
  go_region
  clear yN yM
  go_wp2
  refine bodyPost_ret (results_cell_tmp rfl _ _ _ _ _ _ rfl (Blk.new3 _ _ _ _ _).drew Tryd.underlying35 rfl (by kernel_rfl)) rfl ?_
  exact ⟨rfl, by repeat (first | exact Kp.refl _ | apply Kp.alloc | apply Kp.drew)⟩
theorem eor_any (op d n m : Nat) (imm : Int) (R : Regs) (pc : Int) (w : World) (hd : d < 8) (hn : n < 8) (hm : m < 8) :
    Calls Tryd.prog 36 #[.agg #[.int .i8 op, .int .i8 d, .int .i8 n, .int .i8 m, .int .i64 imm], .agg (regV R), .int .i64 pc] w fun e w' => e = .returned (.tuple #[.agg (regV (upd R d (R n ^^^ R m))), .int .i64 (wrap64 (pc + 1))]) ∧ Kp w w' := by
  have zD := regL_at R d hd
  have yN := regL_get R n hn
  have d0 : (0 : Int) ≤ (d : Int) := by omega
  have d8 : (d : Int) < 8 := by omega
  have n0 : (0 : Int) ≤ (n : Int) := by omega
  have n8 : (n : Int) < 8 := by omega
  have yM := regL_get R m hm
  have m0 : (0 : Int) ≤ (m : Int) := by omega
  have m8 : (m : Int) < 8 := by omega
  have hset := regL_put R d (bits .xor .u64 ((R n).toNat : Int) ((R m).toNat : Int)) (R n ^^^ R m) hd (bv_xor _ _)
  have HD := Lib.hid hd
  go_enter Tryd.func36, Tryd.ntmps36
  go_wp2
  go_region
  clear yN yM
  go_wp2
  refine bodyPost_ret (results_cell_tmp rfl _ _ _ _ _ _ rfl (Blk.new3 _ _ _ _ _).drew Tryd.underlying35 rfl (by kernel_rfl)) rfl ?_
  exact ⟨rfl, by repeat (first | exact Kp.refl _ | apply Kp.alloc | apply Kp.drew)⟩
theorem addi_any (op d n m : Nat) (imm : Int) (R : Regs) (pc : Int) (w : World) (hd : d < 8) (hn : n < 8) :
    Calls Tryd.prog 37 #[.agg #[.int .i8 op, .int .i8 d, .int .i8 n, .int .i8 m, .int .i64 imm], .agg (regV R), .int .i64 pc] w fun e w' => e = .returned (.tuple #[.agg (regV (upd R d (R n + BitVec.ofInt 64 imm))), .int .i64 (wrap64 (pc + 1))]) ∧ Kp w w' := by
  have zD := regL_at R d hd
  have yN := regL_get R n hn
  have d0 : (0 : Int) ≤ (d : Int) := by omega
  have d8 : (d : Int) < 8 := by omega
  have n0 : (0 : Int) ≤ (n : Int) := by omega
  have n8 : (n : Int) < 8 := by omega
  have hset := regL_put R d (IntKind.u64.wrap (((R n).toNat : Int) + IntKind.u64.wrap imm)) (R n + BitVec.ofInt 64 imm) hd (bv_addi _ _)
  have HD := Lib.hid hd
  go_enter Tryd.func37, Tryd.ntmps37
  go_wp2
  go_region
  clear yN
  go_wp2
  refine bodyPost_ret (results_cell_tmp rfl _ _ _ _ _ _ rfl (Blk.new3 _ _ _ _ _).drew Tryd.underlying35 rfl (by kernel_rfl)) rfl ?_
  exact ⟨rfl, by repeat (first | exact Kp.refl _ | apply Kp.alloc | apply Kp.drew)⟩
theorem jump_any (op d n m : Nat) (imm : Int) (R : Regs) (pc : Int) (w : World) :
    Calls Tryd.prog 38 #[.agg #[.int .i8 op, .int .i8 d, .int .i8 n, .int .i8 m, .int .i64 imm], .agg (regV R), .int .i64 pc] w fun e w' => e = .returned (.tuple #[.agg (regV R), .int .i64 (wrap64 (pc + imm))]) ∧ Kp w w' := by
  go_enter Tryd.func38, Tryd.ntmps38
  go_wp2
  go_region
  go_wp2
  refine bodyPost_ret (results_cell_tmp rfl _ _ _ _ _ _ rfl (Blk.new3 _ _ _ _ _).drew Tryd.underlying35 rfl (by kernel_rfl)) rfl ?_
  exact ⟨rfl, by repeat (first | exact Kp.refl _ | apply Kp.alloc | apply Kp.drew)⟩
end Go.Proofs.YtieffpgiliebmaaDoor