/-
  The document's Do, for every instruction, every row of registers. No condition.
-/
import Derived.Test.YtieffpgiliebmaaDoorAluDo06
namespace Go.Proofs.YtieffpgiliebmaaDoor
open Go Go.RowKit

theorem regV_at (R : Regs) (k : Nat) (h : k < 8) : (regV R)[k]? = some (.int .u64 (R k).toNat) := by
  have := regL_at R k h
  simpa using this
theorem regV_put (R : Regs) (d : Nat) (a : Int) (x : BitVec 64) (h : d < 8) (e : a = (x.toNat : Int)) : (regV R).setIfInBounds d (.int .u64 a) = regV (upd R d x) := by
  have := regL_set R d x h
  rw [e]
  show ((regL R).toArray).setIfInBounds d _ = _
  rw [List.setIfInBounds_toArray, this]
theorem Blk.putR {w : World} {b : Nat} {R : Regs} {t : TypeId} (h : Blk w b (regV R) t) (d : Nat) (a : Int) (x : BitVec 64) (hd : d < 8) (e : a = (x.toNat : Int)) : Blk (w.setCell ⟨b, d, none⟩ (.int .u64 a)) b (regV (upd R d x)) t := by
  have := h.set d (.int .u64 a)
  rwa [regV_put R d a x hd e] at this
set_option maxHeartbeats 1000000 in
theorem rdo_nop (d n m : Nat) (imm : Int) (R : Regs) (pc : Int) (w : World) (g : InsA 0 d n m imm) :
    Calls Tryd.prog 18 #[.agg #[.int .i8 0, .int .i8 d, .int .i8 n, .int .i8 m, .int .i64 imm], .agg (regV R), .int .i64 pc] w fun e w' => e = .returned (.tuple #[.agg (regV (R)), .int .i64 (wrap64 (pc + 1)), .int .i64 0]) ∧ Kp w w' := by
  obtain ⟨⟨d0, d8⟩, ⟨n0, n8⟩, ⟨m0, m8⟩⟩ := g.rg
  have D8 : Hid (d < 8) := Lib.hid (by omega)
  have N8 : Hid (n < 8) := Lib.hid (by omega)
  have M8 : Hid (m < 8) := Lib.hid (by omega)
  have G := Lib.hid g; clear g
  go_enter Tryd.func18, Tryd.ntmps18
  go_wp2_with fail
  refine (rcheck_ok _ d n m imm _ G.out).mono ?_; rintro e w1 ⟨rfl, hg⟩
  have B0 := (((Blk.new w _ _).alloc _).alloc _).kp hg
  have B1 := ((Blk.new2 w _ _ _).alloc _).kp hg
  have B2 := (Blk.new3 w _ _ _ _).kp hg
  have K1 : Kp w w1 := by refine Kp.trans ?_ hg; repeat (first | exact Kp.refl _ | apply Kp.alloc)
  clear hg
  have c1 := B0.cell 1
  have c2 := B0.cell 2
  have c3 := B0.cell 3
  have cD := (B1.cell d).trans (regV_at R d D8.out)
  have cN := (B1.cell n).trans (regV_at R n N8.out)
  have cM := (B1.cell m).trans (regV_at R m M8.out)
  have Z0 := Lib.hid B0
  have Z1 := Lib.hid B1
  have Z2 := Lib.hid B2
  have ZK := Lib.hid K1
  clear B0 B1 B2 K1
  go_wp2_with fail
  go_region
  have Y0 := Lib.hid Z0.out.drew
  have Y1 := Lib.hid Z1.out.drew
  have Y2 := Lib.hid Z2.out.drew
  have YK := Lib.hid ZK.out.drew
  have c0 : w1.drew.cell? ⟨w.heap.size, 0, none⟩ = some (.int .i8 0) := Y0.out.cell 0
  have c1 : w1.drew.cell? ⟨w.heap.size, 1, none⟩ = some (.int .i8 d) := Y0.out.cell 1
  have c4 : w1.drew.cell? ⟨w.heap.size, 4, none⟩ = some (.int .i64 imm) := Y0.out.cell 4
  have cD : w1.drew.cell? ⟨w.heap.size + 1, d, none⟩ = some (.int .u64 (R d).toNat) := (Y1.out.cell d).trans (regV_at R d D8.out)
  have fD : w1.drew.frozen? ⟨w.heap.size + 1, d, none⟩ = false := Y1.out.frozen d
  clear Z0 Z1 Z2 ZK
  generalize w1.drew = w2 at *
  go_wp2_with (first
    | (refine wpList_load_row rfl 35 (.tmp 4) rfl (w.heap.size + 1) rfl _ _ _ _ Y1.out Tryd.underlying35 rfl (by kernel_rfl) ?_)
    | (refine wpList_store_row rfl 35 (.tmp 6) (.tmp 121) rfl (w.heap.size + 1 + 1) (regV (R)) rfl rfl _ _ Y2.out (by kernel_rfl) rfl (regV_one _) ?_; have E2 := Lib.hid (Blk.setRow Y2.out (regV (R))); have K5 := Lib.hid (Kp.setRow (g := w.heap.size + 1 + 1) YK.out (by omega) (regV (R)))))
  refine bodyPost_ret (results_cell_tmp2 rfl _ _ _ _ _ _ rfl E2.out Tryd.underlying35 rfl (by kernel_rfl)) rfl ?_
  exact ⟨rfl, K5.out⟩
set_option maxHeartbeats 1000000 in
theorem rdo_mov (d n m : Nat) (imm : Int) (R : Regs) (pc : Int) (w : World) (g : InsA 1 d n m imm) :
    Calls Tryd.prog 18 #[.agg #[.int .i8 1, .int .i8 d, .int .i8 n, .int .i8 m, .int .i64 imm], .agg (regV R), .int .i64 pc] w fun e w' => e = .returned (.tuple #[.agg (regV (upd R d (BitVec.ofInt 64 imm))), .int .i64 (wrap64 (pc + 1)), .int .i64 0]) ∧ Kp w w' := by
  obtain ⟨⟨d0, d8⟩, ⟨n0, n8⟩, ⟨m0, m8⟩⟩ := g.rg
  have D8 : Hid (d < 8) := Lib.hid (by omega)
  have N8 : Hid (n < 8) := Lib.hid (by omega)
  have M8 : Hid (m < 8) := Lib.hid (by omega)
  have G := Lib.hid g; clear g
  go_enter Tryd.func18, Tryd.ntmps18
  go_wp2_with fail
  refine (rcheck_ok _ d n m imm _ G.out).mono ?_; rintro e w1 ⟨rfl, hg⟩
  have B0 := (((Blk.new w _ _).alloc _).alloc _).kp hg
  have B1 := ((Blk.new2 w _ _ _).alloc _).kp hg
  have B2 := (Blk.new3 w _ _ _ _).kp hg
  have K1 : Kp w w1 := by refine Kp.trans ?_ hg; repeat (first | exact Kp.refl _ | apply Kp.alloc)
  clear hg
  have c1 := B0.cell 1
  have c2 := B0.cell 2
  have c3 := B0.cell 3
  have cD := (B1.cell d).trans (regV_at R d D8.out)
  have cN := (B1.cell n).trans (regV_at R n N8.out)
  have cM := (B1.cell m).trans (regV_at R m M8.out)
  have Z0 := Lib.hid B0
  have Z1 := Lib.hid B1
  have Z2 := Lib.hid B2
  have ZK := Lib.hid K1
  clear B0 B1 B2 K1
  go_wp2_with fail
  go_region
  have Y0 := Lib.hid Z0.out.drew
  have Y1 := Lib.hid Z1.out.drew
  have Y2 := Lib.hid Z2.out.drew
  have YK := Lib.hid ZK.out.drew
  have c0 : w1.drew.cell? ⟨w.heap.size, 0, none⟩ = some (.int .i8 1) := Y0.out.cell 0
  have c1 : w1.drew.cell? ⟨w.heap.size, 1, none⟩ = some (.int .i8 d) := Y0.out.cell 1
  have c4 : w1.drew.cell? ⟨w.heap.size, 4, none⟩ = some (.int .i64 imm) := Y0.out.cell 4
  have cD : w1.drew.cell? ⟨w.heap.size + 1, d, none⟩ = some (.int .u64 (R d).toNat) := (Y1.out.cell d).trans (regV_at R d D8.out)
  have fD : w1.drew.frozen? ⟨w.heap.size + 1, d, none⟩ = false := Y1.out.frozen d
  clear Z0 Z1 Z2 ZK
  generalize w1.drew = w2 at *
  go_wp2_with (first
    | (refine wpList_load_row rfl 35 (.tmp 4) rfl (w.heap.size + 1) rfl _ _ _ _ (Y1.out.putR d (IntKind.u64.wrap imm) _ D8.out (wrap_u64 imm)) Tryd.underlying35 rfl (by kernel_rfl) ?_)
    | (refine wpList_store_row rfl 35 (.tmp 6) (.tmp 121) rfl (w.heap.size + 1 + 1) (regV (upd R d (BitVec.ofInt 64 imm))) rfl rfl _ _ (Y2.out.other (a := ⟨w.heap.size + 1, d, none⟩) (by simp) (.int .u64 (IntKind.u64.wrap imm))) (by kernel_rfl) rfl (regV_one _) ?_; have E2 := Lib.hid (Blk.setRow (Y2.out.other (a := ⟨w.heap.size + 1, d, none⟩) (by simp) (.int .u64 (IntKind.u64.wrap imm))) (regV (upd R d (BitVec.ofInt 64 imm)))); have K5 := Lib.hid (Kp.setRow (g := w.heap.size + 1 + 1) (YK.out.setCell (a := ⟨w.heap.size + 1, d, none⟩) (Nat.le_succ _) (.int .u64 (IntKind.u64.wrap imm))) (by omega) (regV (upd R d (BitVec.ofInt 64 imm))))))
  refine bodyPost_ret (results_cell_tmp2 rfl _ _ _ _ _ _ rfl E2.out Tryd.underlying35 rfl (by kernel_rfl)) rfl ?_
  exact ⟨rfl, K5.out⟩
set_option maxHeartbeats 1000000 in
theorem rdo_add (d n m : Nat) (imm : Int) (R : Regs) (pc : Int) (w : World) (g : InsA 2 d n m imm) :
    Calls Tryd.prog 18 #[.agg #[.int .i8 2, .int .i8 d, .int .i8 n, .int .i8 m, .int .i64 imm], .agg (regV R), .int .i64 pc] w fun e w' => e = .returned (.tuple #[.agg (regV (upd R d (R n + R m))), .int .i64 (wrap64 (pc + 1)), .int .i64 0]) ∧ Kp w w' := by
  obtain ⟨⟨d0, d8⟩, ⟨n0, n8⟩, ⟨m0, m8⟩⟩ := g.rg
  have D8 : Hid (d < 8) := Lib.hid (by omega)
  have N8 : Hid (n < 8) := Lib.hid (by omega)
  have M8 : Hid (m < 8) := Lib.hid (by omega)
  have G := Lib.hid g; clear g
  go_enter Tryd.func18, Tryd.ntmps18
  go_wp2_with fail
  refine (rcheck_ok _ d n m imm _ G.out).mono ?_; rintro e w1 ⟨rfl, hg⟩
  have B0 := (((Blk.new w _ _).alloc _).alloc _).kp hg
  have B1 := ((Blk.new2 w _ _ _).alloc _).kp hg
  have B2 := (Blk.new3 w _ _ _ _).kp hg
  have K1 : Kp w w1 := by refine Kp.trans ?_ hg; repeat (first | exact Kp.refl _ | apply Kp.alloc)
  clear hg
  have c1 := B0.cell 1
  have c2 := B0.cell 2
  have c3 := B0.cell 3
  have cD := (B1.cell d).trans (regV_at R d D8.out)
  have cN := (B1.cell n).trans (regV_at R n N8.out)
  have cM := (B1.cell m).trans (regV_at R m M8.out)
  have Z0 := Lib.hid B0
  have Z1 := Lib.hid B1
  have Z2 := Lib.hid B2
  have ZK := Lib.hid K1
  clear B0 B1 B2 K1
  go_wp2_with fail
  go_region
  have Y0 := Lib.hid Z0.out.drew
  have Y1 := Lib.hid Z1.out.drew
  have Y2 := Lib.hid Z2.out.drew
  have YK := Lib.hid ZK.out.drew
  have c0 : w1.drew.cell? ⟨w.heap.size, 0, none⟩ = some (.int .i8 2) := Y0.out.cell 0
  have c1 : w1.drew.cell? ⟨w.heap.size, 1, none⟩ = some (.int .i8 d) := Y0.out.cell 1
  have c4 : w1.drew.cell? ⟨w.heap.size, 4, none⟩ = some (.int .i64 imm) := Y0.out.cell 4
  have cD : w1.drew.cell? ⟨w.heap.size + 1, d, none⟩ = some (.int .u64 (R d).toNat) := (Y1.out.cell d).trans (regV_at R d D8.out)
  have fD : w1.drew.frozen? ⟨w.heap.size + 1, d, none⟩ = false := Y1.out.frozen d
  clear Z0 Z1 Z2 ZK
  generalize w1.drew = w2 at *
  go_wp2_with (first
    | (refine wpList_load_row rfl 35 (.tmp 4) rfl (w.heap.size + 1) rfl _ _ _ _ (Y1.out.putR d (IntKind.u64.wrap (((R n).toNat : Int) + ((R m).toNat : Int))) _ D8.out (bv_add _ _)) Tryd.underlying35 rfl (by kernel_rfl) ?_)
    | (refine wpList_store_row rfl 35 (.tmp 6) (.tmp 121) rfl (w.heap.size + 1 + 1) (regV (upd R d (R n + R m))) rfl rfl _ _ (Y2.out.other (a := ⟨w.heap.size + 1, d, none⟩) (by simp) (.int .u64 (IntKind.u64.wrap (((R n).toNat : Int) + ((R m).toNat : Int))))) (by kernel_rfl) rfl (regV_one _) ?_; have E2 := Lib.hid (Blk.setRow (Y2.out.other (a := ⟨w.heap.size + 1, d, none⟩) (by simp) (.int .u64 (IntKind.u64.wrap (((R n).toNat : Int) + ((R m).toNat : Int))))) (regV (upd R d (R n + R m)))); have K5 := Lib.hid (Kp.setRow (g := w.heap.size + 1 + 1) (YK.out.setCell (a := ⟨w.heap.size + 1, d, none⟩) (Nat.le_succ _) (.int .u64 (IntKind.u64.wrap (((R n).toNat : Int) + ((R m).toNat : Int))))) (by omega) (regV (upd R d (R n + R m))))))
  refine bodyPost_ret (results_cell_tmp2 rfl _ _ _ _ _ _ rfl E2.out Tryd.underlying35 rfl (by kernel_rfl)) rfl ?_
  exact ⟨rfl, K5.out⟩
set_option maxHeartbeats 1000000 in
theorem rdo_sub (d n m : Nat) (imm : Int) (R : Regs) (pc : Int) (w : World) (g : InsA 3 d n m imm) :
    Calls Tryd.prog 18 #[.agg #[.int .i8 3, .int .i8 d, .int .i8 n, .int .i8 m, .int .i64 imm], .agg (regV R), .int .i64 pc] w fun e w' => e = .returned (.tuple #[.agg (regV (upd R d (R n - R m))), .int .i64 (wrap64 (pc + 1)), .int .i64 0]) ∧ Kp w w' := by
  obtain ⟨⟨d0, d8⟩, ⟨n0, n8⟩, ⟨m0, m8⟩⟩ := g.rg
  have D8 : Hid (d < 8) := Lib.hid (by omega)
  have N8 : Hid (n < 8) := Lib.hid (by omega)
  have M8 : Hid (m < 8) := Lib.hid (by omega)
  have G := Lib.hid g; clear g
  go_enter Tryd.func18, Tryd.ntmps18
  go_wp2_with fail
  refine (rcheck_ok _ d n m imm _ G.out).mono ?_; rintro e w1 ⟨rfl, hg⟩
  have B0 := (((Blk.new w _ _).alloc _).alloc _).kp hg
  have B1 := ((Blk.new2 w _ _ _).alloc _).kp hg
  have B2 := (Blk.new3 w _ _ _ _).kp hg
  have K1 : Kp w w1 := by refine Kp.trans ?_ hg; repeat (first | exact Kp.refl _ | apply Kp.alloc)
  clear hg
  have c1 := B0.cell 1
  have c2 := B0.cell 2
  have c3 := B0.cell 3
  have cD := (B1.cell d).trans (regV_at R d D8.out)
  have cN := (B1.cell n).trans (regV_at R n N8.out)
  have cM := (B1.cell m).trans (regV_at R m M8.out)
  have Z0 := Lib.hid B0
  have Z1 := Lib.hid B1
  have Z2 := Lib.hid B2
  have ZK := Lib.hid K1
  clear B0 B1 B2 K1
  go_wp2_with fail
  go_region
  have Y0 := Lib.hid Z0.out.drew
  have Y1 := Lib.hid Z1.out.drew
  have Y2 := Lib.hid Z2.out.drew
  have YK := Lib.hid ZK.out.drew
  have c0 : w1.drew.cell? ⟨w.heap.size, 0, none⟩ = some (.int .i8 3) := Y0.out.cell 0
  have c1 : w1.drew.cell? ⟨w.heap.size, 1, none⟩ = some (.int .i8 d) := Y0.out.cell 1
  have c4 : w1.drew.cell? ⟨w.heap.size, 4, none⟩ = some (.int .i64 imm) := Y0.out.cell 4
  have cD : w1.drew.cell? ⟨w.heap.size + 1, d, none⟩ = some (.int .u64 (R d).toNat) := (Y1.out.cell d).trans (regV_at R d D8.out)
  have fD : w1.drew.frozen? ⟨w.heap.size + 1, d, none⟩ = false := Y1.out.frozen d
  clear Z0 Z1 Z2 ZK
  generalize w1.drew = w2 at *
  go_wp2_with (first
    | (refine wpList_load_row rfl 35 (.tmp 4) rfl (w.heap.size + 1) rfl _ _ _ _ (Y1.out.putR d (IntKind.u64.wrap (((R n).toNat : Int) - ((R m).toNat : Int))) _ D8.out (bv_sub _ _)) Tryd.underlying35 rfl (by kernel_rfl) ?_)
    | (refine wpList_store_row rfl 35 (.tmp 6) (.tmp 121) rfl (w.heap.size + 1 + 1) (regV (upd R d (R n - R m))) rfl rfl _ _ (Y2.out.other (a := ⟨w.heap.size + 1, d, none⟩) (by simp) (.int .u64 (IntKind.u64.wrap (((R n).toNat : Int) - ((R m).toNat : Int))))) (by kernel_rfl) rfl (regV_one _) ?_; have E2 := Lib.hid (Blk.setRow (Y2.out.other (a := ⟨w.heap.size + 1, d, none⟩) (by simp) (.int .u64 (IntKind.u64.wrap (((R n).toNat : Int) - ((R m).toNat : Int))))) (regV (upd R d (R n - R m)))); have K5 := Lib.hid (Kp.setRow (g := w.heap.size + 1 + 1) (YK.out.setCell (a := ⟨w.heap.size + 1, d, none⟩) (Nat.le_succ _) (.int .u64 (IntKind.u64.wrap (((R n).toNat : Int) - ((R m).toNat : Int))))) (by omega) (regV (upd R d (R n - R m))))))
  refine bodyPost_ret (results_cell_tmp2 rfl _ _ _ _ _ _ rfl E2.out Tryd.underlying35 rfl (by kernel_rfl)) rfl ?_
  exact ⟨rfl, K5.out⟩
set_option maxHeartbeats 1000000 in
theorem rdo_and (d n m : Nat) (imm : Int) (R : Regs) (pc : Int) (w : World) (g : InsA 4 d n m imm) :
    Calls Tryd.prog 18 #[.agg #[.int .i8 4, .int .i8 d, .int .i8 n, .int .i8 m, .int .i64 imm], .agg (regV R), .int .i64 pc] w fun e w' => e = .returned (.tuple #[.agg (regV (upd R d (R n &&& R m))), .int .i64 (wrap64 (pc + 1)), .int .i64 0]) ∧ Kp w w' := by
  obtain ⟨⟨d0, d8⟩, ⟨n0, n8⟩, ⟨m0, m8⟩⟩ := g.rg
  have D8 : Hid (d < 8) := Lib.hid (by omega)
  have N8 : Hid (n < 8) := Lib.hid (by omega)
  have M8 : Hid (m < 8) := Lib.hid (by omega)
  have G := Lib.hid g; clear g
  go_enter Tryd.func18, Tryd.ntmps18
  go_wp2_with fail
  refine (rcheck_ok _ d n m imm _ G.out).mono ?_; rintro e w1 ⟨rfl, hg⟩
  have B0 := (((Blk.new w _ _).alloc _).alloc _).kp hg
  have B1 := ((Blk.new2 w _ _ _).alloc _).kp hg
  have B2 := (Blk.new3 w _ _ _ _).kp hg
  have K1 : Kp w w1 := by refine Kp.trans ?_ hg; repeat (first | exact Kp.refl _ | apply Kp.alloc)
  clear hg
  have c1 := B0.cell 1
  have c2 := B0.cell 2
  have c3 := B0.cell 3
  have cD := (B1.cell d).trans (regV_at R d D8.out)
  have cN := (B1.cell n).trans (regV_at R n N8.out)
  have cM := (B1.cell m).trans (regV_at R m M8.out)
  have Z0 := Lib.hid B0
  have Z1 := Lib.hid B1
  have Z2 := Lib.hid B2
  have ZK := Lib.hid K1
  clear B0 B1 B2 K1
  go_wp2_with fail
  go_region
  have Y0 := Lib.hid Z0.out.drew
  have Y1 := Lib.hid Z1.out.drew
  have Y2 := Lib.hid Z2.out.drew
  have YK := Lib.hid ZK.out.drew
  have c0 : w1.drew.cell? ⟨w.heap.size, 0, none⟩ = some (.int .i8 4) := Y0.out.cell 0
  have c1 : w1.drew.cell? ⟨w.heap.size, 1, none⟩ = some (.int .i8 d) := Y0.out.cell 1
  have c4 : w1.drew.cell? ⟨w.heap.size, 4, none⟩ = some (.int .i64 imm) := Y0.out.cell 4
  have cD : w1.drew.cell? ⟨w.heap.size + 1, d, none⟩ = some (.int .u64 (R d).toNat) := (Y1.out.cell d).trans (regV_at R d D8.out)
  have fD : w1.drew.frozen? ⟨w.heap.size + 1, d, none⟩ = false := Y1.out.frozen d
  clear Z0 Z1 Z2 ZK
  generalize w1.drew = w2 at *
  go_wp2_with (first
    | (refine wpList_load_row rfl 35 (.tmp 4) rfl (w.heap.size + 1) rfl _ _ _ _ (Y1.out.putR d (bits .and .u64 ((R n).toNat : Int) ((R m).toNat : Int)) _ D8.out (bv_and _ _)) Tryd.underlying35 rfl (by kernel_rfl) ?_)
    | (refine wpList_store_row rfl 35 (.tmp 6) (.tmp 121) rfl (w.heap.size + 1 + 1) (regV (upd R d (R n &&& R m))) rfl rfl _ _ (Y2.out.other (a := ⟨w.heap.size + 1, d, none⟩) (by simp) (.int .u64 (bits .and .u64 ((R n).toNat : Int) ((R m).toNat : Int)))) (by kernel_rfl) rfl (regV_one _) ?_; have E2 := Lib.hid (Blk.setRow (Y2.out.other (a := ⟨w.heap.size + 1, d, none⟩) (by simp) (.int .u64 (bits .and .u64 ((R n).toNat : Int) ((R m).toNat : Int)))) (regV (upd R d (R n &&& R m)))); have K5 := Lib.hid (Kp.setRow (g := w.heap.size + 1 + 1) (YK.out.setCell (a := ⟨w.heap.size + 1, d, none⟩) (Nat.le_succ _) (.int .u64 (bits .and .u64 ((R n).toNat : Int) ((R m).toNat : Int)))) (by omega) (regV (upd R d (R n &&& R m))))))
  refine bodyPost_ret (results_cell_tmp2 rfl _ _ _ _ _ _ rfl E2.out Tryd.underlying35 rfl (by kernel_rfl)) rfl ?_
  exact ⟨rfl, K5.out⟩
set_option maxHeartbeats 1000000 in
theorem rdo_orr (d n m : Nat) (imm : Int) (R : Regs) (pc : Int) (w : World) (g : InsA 5 d n m imm) :
    Calls Tryd.prog 18 #[.agg #[.int .i8 5, .int .i8 d, .int .i8 n, .int .i8 m, .int .i64 imm], .agg (regV R), .int .i64 pc] w fun e w' => e = .returned (.tuple #[.agg (regV (upd R d (R n ||| R m))), .int .i64 (wrap64 (pc + 1)), .int .i64 0]) ∧ Kp w w' := by
  obtain ⟨⟨d0, d8⟩, ⟨n0, n8⟩, ⟨m0, m8⟩⟩ := g.rg
  have D8 : Hid (d < 8) := Lib.hid (by omega)
  have N8 : Hid (n < 8) := Lib.hid (by omega)
  have M8 : Hid (m < 8) := Lib.hid (by omega)
  have G := Lib.hid g; clear g
  go_enter Tryd.func18, Tryd.ntmps18
  go_wp2_with fail
  refine (rcheck_ok _ d n m imm _ G.out).mono ?_; rintro e w1 ⟨rfl, hg⟩
  have B0 := (((Blk.new w _ _).alloc _).alloc _).kp hg
  have B1 := ((Blk.new2 w _ _ _).alloc _).kp hg
  have B2 := (Blk.new3 w _ _ _ _).kp hg
  have K1 : Kp w w1 := by refine Kp.trans ?_ hg; repeat (first | exact Kp.refl _ | apply Kp.alloc)
  clear hg
  have c1 := B0.cell 1
  have c2 := B0.cell 2
  have c3 := B0.cell 3
  have cD := (B1.cell d).trans (regV_at R d D8.out)
  have cN := (B1.cell n).trans (regV_at R n N8.out)
  have cM := (B1.cell m).trans (regV_at R m M8.out)
  have Z0 := Lib.hid B0
  have Z1 := Lib.hid B1
  have Z2 := Lib.hid B2
  have ZK := Lib.hid K1
  clear B0 B1 B2 K1
  go_wp2_with fail
  go_region
  have Y0 := Lib.hid Z0.out.drew
  have Y1 := Lib.hid Z1.out.drew
  have Y2 := Lib.hid Z2.out.drew
  have YK := Lib.hid ZK.out.drew
  have c0 : w1.drew.cell? ⟨w.heap.size, 0, none⟩ = some (.int .i8 5) := Y0.out.cell 0
  have c1 : w1.drew.cell? ⟨w.heap.size, 1, none⟩ = some (.int .i8 d) := Y0.out.cell 1
  have c4 : w1.drew.cell? ⟨w.heap.size, 4, none⟩ = some (.int .i64 imm) := Y0.out.cell 4
  have cD : w1.drew.cell? ⟨w.heap.size + 1, d, none⟩ = some (.int .u64 (R d).toNat) := (Y1.out.cell d).trans (regV_at R d D8.out)
  have fD : w1.drew.frozen? ⟨w.heap.size + 1, d, none⟩ = false := Y1.out.frozen d
  clear Z0 Z1 Z2 ZK
  generalize w1.drew = w2 at *
  go_wp2_with (first
    | (refine wpList_load_row rfl 35 (.tmp 4) rfl (w.heap.size + 1) rfl _ _ _ _ (Y1.out.putR d (bits .or .u64 ((R n).toNat : Int) ((R m).toNat : Int)) _ D8.out (bv_or _ _)) Tryd.underlying35 rfl (by kernel_rfl) ?_)
    | (refine wpList_store_row rfl 35 (.tmp 6) (.tmp 121) rfl (w.heap.size + 1 + 1) (regV (upd R d (R n ||| R m))) rfl rfl _ _ (Y2.out.other (a := ⟨w.heap.size + 1, d, none⟩) (by simp) (.int .u64 (bits .or .u64 ((R n).toNat : Int) ((R m).toNat : Int)))) (by kernel_rfl) rfl (regV_one _) ?_; have E2 := Lib.hid (Blk.setRow (Y2.out.other (a := ⟨w.heap.size + 1, d, none⟩) (by simp) (.int .u64 (bits .or .u64 ((R n).toNat : Int) ((R m).toNat : Int)))) (regV (upd R d (R n ||| R m)))); have K5 := Lib.hid (Kp.setRow (g := w.heap.size + 1 + 1) (YK.out.setCell (a := ⟨w.heap.size + 1, d, none⟩) (Nat.le_succ _) (.int .u64 (bits .or .u64 ((R n).toNat : Int) ((R m).toNat : Int)))) (by omega) (regV (upd R d (R n ||| R m))))))
  refine bodyPost_ret (results_cell_tmp2 rfl _ _ _ _ _ _ rfl E2.out Tryd.underlying35 rfl (by kernel_rfl)) rfl ?_
  exact ⟨rfl, K5.out⟩
set_option maxHeartbeats 1000000 in
theorem rdo_eor (d n m : Nat) (imm : Int) (R : Regs) (pc : Int) (w : World) (g : InsA 6 d n m imm) :
    Calls Tryd.prog 18 #[.agg #[.int .i8 6, .int .i8 d, .int .i8 n, .int .i8 m, .int .i64 imm], .agg (regV R), .int .i64 pc] w fun e w' => e = .returned (.tuple #[.agg (regV (upd R d (R n ^^^ R m))), .int .i64 (wrap64 (pc + 1)), .int .i64 0]) ∧ Kp w w' := by
  obtain ⟨⟨d0, d8⟩, ⟨n0, n8⟩, ⟨m0, m8⟩⟩ := g.rg
  have D8 : Hid (d < 8) := Lib.hid (by omega)
  have N8 : Hid (n < 8) := Lib.hid (by omega)
  have M8 : Hid (m < 8) := Lib.hid (by omega)
  have G := Lib.hid g; clear g
  go_enter Tryd.func18, Tryd.ntmps18
  go_wp2_with fail
  refine (rcheck_ok _ d n m imm _ G.out).mono ?_; rintro e w1 ⟨rfl, hg⟩
  have B0 := (((Blk.new w _ _).alloc _).alloc _).kp hg
  have B1 := ((Blk.new2 w _ _ _).alloc _).kp hg
  have B2 := (Blk.new3 w _ _ _ _).kp hg
  have K1 : Kp w w1 := by refine Kp.trans ?_ hg; repeat (first | exact Kp.refl _ | apply Kp.alloc)
  clear hg
  have c1 := B0.cell 1
  have c2 := B0.cell 2
  have c3 := B0.cell 3
  have cD := (B1.cell d).trans (regV_at R d D8.out)
  have cN := (B1.cell n).trans (regV_at R n N8.out)
  have cM := (B1.cell m).trans (regV_at R m M8.out)
  have Z0 := Lib.hid B0
  have Z1 := Lib.hid B1
  have Z2 := Lib.hid B2
  have ZK := Lib.hid K1
  clear B0 B1 B2 K1
  go_wp2_with fail
  go_region
  have Y0 := Lib.hid Z0.out.drew
  have Y1 := Lib.hid Z1.out.drew
  have Y2 := Lib.hid Z2.out.drew
  have YK := Lib.hid ZK.out.drew
  have c0 : w1.drew.cell? ⟨w.heap.size, 0, none⟩ = some (.int .i8 6) := Y0.out.cell 0
  have c1 : w1.drew.cell? ⟨w.heap.size, 1, none⟩ = some (.int .i8 d) := Y0.out.cell 1
  have c4 : w1.drew.cell? ⟨w.heap.size, 4, none⟩ = some (.int .i64 imm) := Y0.out.cell 4
  have cD : w1.drew.cell? ⟨w.heap.size + 1, d, none⟩ = some (.int .u64 (R d).toNat) := (Y1.out.cell d).trans (regV_at R d D8.out)
  have fD : w1.drew.frozen? ⟨w.heap.size + 1, d, none⟩ = false := Y1.out.frozen d
  clear Z0 Z1 Z2 ZK
  generalize w1.drew = w2 at *
  go_wp2_with (first
    | (refine wpList_load_row rfl 35 (.tmp 4) rfl (w.heap.size + 1) rfl _ _ _ _ (Y1.out.putR d (bits .xor .u64 ((R n).toNat : Int) ((R m).toNat : Int)) _ D8.out (bv_xor _ _)) Tryd.underlying35 rfl (by kernel_rfl) ?_)
    | (refine wpList_store_row rfl 35 (.tmp 6) (.tmp 121) rfl (w.heap.size + 1 + 1) (regV (upd R d (R n ^^^ R m))) rfl rfl _ _ (Y2.out.other (a := ⟨w.heap.size + 1, d, none⟩) (by simp) (.int .u64 (bits .xor .u64 ((R n).toNat : Int) ((R m).toNat : Int)))) (by kernel_rfl) rfl (regV_one _) ?_; have E2 := Lib.hid (Blk.setRow (Y2.out.other (a := ⟨w.heap.size + 1, d, none⟩) (by simp) (.int .u64 (bits .xor .u64 ((R n).toNat : Int) ((R m).toNat : Int)))) (regV (upd R d (R n ^^^ R m)))); have K5 := Lib.hid (Kp.setRow (g := w.heap.size + 1 + 1) (YK.out.setCell (a := ⟨w.heap.size + 1, d, none⟩) (Nat.le_succ _) (.int .u64 (bits .xor .u64 ((R n).toNat : Int) ((R m).toNat : Int)))) (by omega) (regV (upd R d (R n ^^^ R m))))))
  refine bodyPost_ret (results_cell_tmp2 rfl _ _ _ _ _ _ rfl E2.out Tryd.underlying35 rfl (by kernel_rfl)) rfl ?_
  exact ⟨rfl, K5.out⟩
set_option maxHeartbeats 1000000 in
theorem rdo_addi (d n m : Nat) (imm : Int) (R : Regs) (pc : Int) (w : World) (g : InsA 7 d n m imm) :
    Calls Tryd.prog 18 #[.agg #[.int .i8 7, .int .i8 d, .int .i8 n, .int .i8 m, .int .i64 imm], .agg (regV R), .int .i64 pc] w fun e w' => e = .returned (.tuple #[.agg (regV (upd R d (R n + BitVec.ofInt 64 imm))), .int .i64 (wrap64 (pc + 1)), .int .i64 0]) ∧ Kp w w' := by
  obtain ⟨⟨d0, d8⟩, ⟨n0, n8⟩, ⟨m0, m8⟩⟩ := g.rg
  have D8 : Hid (d < 8) := Lib.hid (by omega)
  have N8 : Hid (n < 8) := Lib.hid (by omega)
  have M8 : Hid (m < 8) := Lib.hid (by omega)
  have G := Lib.hid g; clear g
  go_enter Tryd.func18, Tryd.ntmps18
  go_wp2_with fail
  refine (rcheck_ok _ d n m imm _ G.out).mono ?_; rintro e w1 ⟨rfl, hg⟩
  have B0 := (((Blk.new w _ _).alloc _).alloc _).kp hg
  have B1 := ((Blk.new2 w _ _ _).alloc _).kp hg
  have B2 := (Blk.new3 w _ _ _ _).kp hg
  have K1 : Kp w w1 := by refine Kp.trans ?_ hg; repeat (first | exact Kp.refl _ | apply Kp.alloc)
  clear hg
  have c1 := B0.cell 1
  have c2 := B0.cell 2
  have c3 := B0.cell 3
  have cD := (B1.cell d).trans (regV_at R d D8.out)
  have cN := (B1.cell n).trans (regV_at R n N8.out)
  have cM := (B1.cell m).trans (regV_at R m M8.out)
  have Z0 := Lib.hid B0
  have Z1 := Lib.hid B1
  have Z2 := Lib.hid B2
  have ZK := Lib.hid K1
  clear B0 B1 B2 K1
  go_wp2_with fail
  go_region
  have Y0 := Lib.hid Z0.out.drew
  have Y1 := Lib.hid Z1.out.drew
  have Y2 := Lib.hid Z2.out.drew
  have YK := Lib.hid ZK.out.drew
  have c0 : w1.drew.cell? ⟨w.heap.size, 0, none⟩ = some (.int .i8 7) := Y0.out.cell 0
  have c1 : w1.drew.cell? ⟨w.heap.size, 1, none⟩ = some (.int .i8 d) := Y0.out.cell 1
  have c4 : w1.drew.cell? ⟨w.heap.size, 4, none⟩ = some (.int .i64 imm) := Y0.out.cell 4
  have cD : w1.drew.cell? ⟨w.heap.size + 1, d, none⟩ = some (.int .u64 (R d).toNat) := (Y1.out.cell d).trans (regV_at R d D8.out)
  have fD : w1.drew.frozen? ⟨w.heap.size + 1, d, none⟩ = false := Y1.out.frozen d
  clear Z0 Z1 Z2 ZK
  generalize w1.drew = w2 at *
  go_wp2_with (first
    | (refine wpList_load_row rfl 35 (.tmp 4) rfl (w.heap.size + 1) rfl _ _ _ _ (Y1.out.putR d (IntKind.u64.wrap (((R n).toNat : Int) + IntKind.u64.wrap imm)) _ D8.out (bv_addi _ _)) Tryd.underlying35 rfl (by kernel_rfl) ?_)
    | (refine wpList_store_row rfl 35 (.tmp 6) (.tmp 121) rfl (w.heap.size + 1 + 1) (regV (upd R d (R n + BitVec.ofInt 64 imm))) rfl rfl _ _ (Y2.out.other (a := ⟨w.heap.size + 1, d, none⟩) (by simp) (.int .u64 (IntKind.u64.wrap (((R n).toNat : Int) + IntKind.u64.wrap imm)))) (by kernel_rfl) rfl (regV_one _) ?_; have E2 := Lib.hid (Blk.setRow (Y2.out.other (a := ⟨w.heap.size + 1, d, none⟩) (by simp) (.int .u64 (IntKind.u64.wrap (((R n).toNat : Int) + IntKind.u64.wrap imm)))) (regV (upd R d (R n + BitVec.ofInt 64 imm)))); have K5 := Lib.hid (Kp.setRow (g := w.heap.size + 1 + 1) (YK.out.setCell (a := ⟨w.heap.size + 1, d, none⟩) (Nat.le_succ _) (.int .u64 (IntKind.u64.wrap (((R n).toNat : Int) + IntKind.u64.wrap imm)))) (by omega) (regV (upd R d (R n + BitVec.ofInt 64 imm))))))
  refine bodyPost_ret (results_cell_tmp2 rfl _ _ _ _ _ _ rfl E2.out Tryd.underlying35 rfl (by kernel_rfl)) rfl ?_
  exact ⟨rfl, K5.out⟩
set_option maxHeartbeats 1000000 in
theorem rdo_jump (d n m : Nat) (imm : Int) (R : Regs) (pc : Int) (w : World) (g : InsA 14 d n m imm) :
    Calls Tryd.prog 18 #[.agg #[.int .i8 14, .int .i8 d, .int .i8 n, .int .i8 m, .int .i64 imm], .agg (regV R), .int .i64 pc] w fun e w' => e = .returned (.tuple #[.agg (regV (R)), .int .i64 (wrap64 (pc + imm)), .int .i64 0]) ∧ Kp w w' := by
  obtain ⟨⟨d0, d8⟩, ⟨n0, n8⟩, ⟨m0, m8⟩⟩ := g.rg
  have D8 : Hid (d < 8) := Lib.hid (by omega)
  have N8 : Hid (n < 8) := Lib.hid (by omega)
  have M8 : Hid (m < 8) := Lib.hid (by omega)
  have G := Lib.hid g; clear g
  go_enter Tryd.func18, Tryd.ntmps18
  go_wp2_with fail
  refine (rcheck_ok _ d n m imm _ G.out).mono ?_; rintro e w1 ⟨rfl, hg⟩
  have B0 := (((Blk.new w _ _).alloc _).alloc _).kp hg
  have B1 := ((Blk.new2 w _ _ _).alloc _).kp hg
  have B2 := (Blk.new3 w _ _ _ _).kp hg
  have K1 : Kp w w1 := by refine Kp.trans ?_ hg; repeat (first | exact Kp.refl _ | apply Kp.alloc)
  clear hg
  have c1 := B0.cell 1
  have c2 := B0.cell 2
  have c3 := B0.cell 3
  have cD := (B1.cell d).trans (regV_at R d D8.out)
  have cN := (B1.cell n).trans (regV_at R n N8.out)
  have cM := (B1.cell m).trans (regV_at R m M8.out)
  have Z0 := Lib.hid B0
  have Z1 := Lib.hid B1
  have Z2 := Lib.hid B2
  have ZK := Lib.hid K1
  clear B0 B1 B2 K1
  go_wp2_with fail
  go_region
  have Y0 := Lib.hid Z0.out.drew
  have Y1 := Lib.hid Z1.out.drew
  have Y2 := Lib.hid Z2.out.drew
  have YK := Lib.hid ZK.out.drew
  have c0 : w1.drew.cell? ⟨w.heap.size, 0, none⟩ = some (.int .i8 14) := Y0.out.cell 0
  have c1 : w1.drew.cell? ⟨w.heap.size, 1, none⟩ = some (.int .i8 d) := Y0.out.cell 1
  have c4 : w1.drew.cell? ⟨w.heap.size, 4, none⟩ = some (.int .i64 imm) := Y0.out.cell 4
  have cD : w1.drew.cell? ⟨w.heap.size + 1, d, none⟩ = some (.int .u64 (R d).toNat) := (Y1.out.cell d).trans (regV_at R d D8.out)
  have fD : w1.drew.frozen? ⟨w.heap.size + 1, d, none⟩ = false := Y1.out.frozen d
  clear Z0 Z1 Z2 ZK
  generalize w1.drew = w2 at *
  go_wp2_with (first
    | (refine wpList_load_row rfl 35 (.tmp 4) rfl (w.heap.size + 1) rfl _ _ _ _ Y1.out Tryd.underlying35 rfl (by kernel_rfl) ?_)
    | (refine wpList_store_row rfl 35 (.tmp 6) (.tmp 121) rfl (w.heap.size + 1 + 1) (regV (R)) rfl rfl _ _ Y2.out (by kernel_rfl) rfl (regV_one _) ?_; have E2 := Lib.hid (Blk.setRow Y2.out (regV (R))); have K5 := Lib.hid (Kp.setRow (g := w.heap.size + 1 + 1) YK.out (by omega) (regV (R)))))
  refine bodyPost_ret (results_cell_tmp2 rfl _ _ _ _ _ _ rfl E2.out Tryd.underlying35 rfl (by kernel_rfl)) rfl ?_
  exact ⟨rfl, K5.out⟩
set_option maxHeartbeats 1000000 in
theorem rdo_jzy (d n m : Nat) (imm : Int) (R : Regs) (pc : Int) (w : World) (g : InsA 15 d n m imm) (h0 : R d = 0#64) :
    Calls Tryd.prog 18 #[.agg #[.int .i8 15, .int .i8 d, .int .i8 n, .int .i8 m, .int .i64 imm], .agg (regV R), .int .i64 pc] w fun e w' => e = .returned (.tuple #[.agg (regV (R)), .int .i64 (wrap64 (pc + imm)), .int .i64 0]) ∧ Kp w w' := by
  obtain ⟨⟨d0, d8⟩, ⟨n0, n8⟩, ⟨m0, m8⟩⟩ := g.rg
  have D8 : Hid (d < 8) := Lib.hid (by omega)
  have N8 : Hid (n < 8) := Lib.hid (by omega)
  have M8 : Hid (m < 8) := Lib.hid (by omega)
  have G := Lib.hid g; clear g
  have hz : ((R d).toNat : Int) = 0 := by rw [h0]; rfl
  clear h0
  go_enter Tryd.func18, Tryd.ntmps18
  go_wp2_with fail
  refine (rcheck_ok _ d n m imm _ G.out).mono ?_; rintro e w1 ⟨rfl, hg⟩
  have B0 := (((Blk.new w _ _).alloc _).alloc _).kp hg
  have B1 := ((Blk.new2 w _ _ _).alloc _).kp hg
  have B2 := (Blk.new3 w _ _ _ _).kp hg
  have K1 : Kp w w1 := by refine Kp.trans ?_ hg; repeat (first | exact Kp.refl _ | apply Kp.alloc)
  clear hg
  have c1 := B0.cell 1
  have c2 := B0.cell 2
  have c3 := B0.cell 3
  have cD := (B1.cell d).trans (regV_at R d D8.out)
  have cN := (B1.cell n).trans (regV_at R n N8.out)
  have cM := (B1.cell m).trans (regV_at R m M8.out)
  have Z0 := Lib.hid B0
  have Z1 := Lib.hid B1
  have Z2 := Lib.hid B2
  have ZK := Lib.hid K1
  clear B0 B1 B2 K1
  go_wp2_with fail
  go_region
  have Y0 := Lib.hid Z0.out.drew
  have Y1 := Lib.hid Z1.out.drew
  have Y2 := Lib.hid Z2.out.drew
  have YK := Lib.hid ZK.out.drew
  have c0 : w1.drew.cell? ⟨w.heap.size, 0, none⟩ = some (.int .i8 15) := Y0.out.cell 0
  have c1 : w1.drew.cell? ⟨w.heap.size, 1, none⟩ = some (.int .i8 d) := Y0.out.cell 1
  have c4 : w1.drew.cell? ⟨w.heap.size, 4, none⟩ = some (.int .i64 imm) := Y0.out.cell 4
  have cD : w1.drew.cell? ⟨w.heap.size + 1, d, none⟩ = some (.int .u64 (R d).toNat) := (Y1.out.cell d).trans (regV_at R d D8.out)
  have fD : w1.drew.frozen? ⟨w.heap.size + 1, d, none⟩ = false := Y1.out.frozen d
  clear Z0 Z1 Z2 ZK
  generalize w1.drew = w2 at *
  go_wp2_with (first
    | (refine wpList_load_row rfl 35 (.tmp 4) rfl (w.heap.size + 1) rfl _ _ _ _ Y1.out Tryd.underlying35 rfl (by kernel_rfl) ?_)
    | (refine wpList_store_row rfl 35 (.tmp 6) (.tmp 121) rfl (w.heap.size + 1 + 1) (regV (R)) rfl rfl _ _ Y2.out (by kernel_rfl) rfl (regV_one _) ?_; have E2 := Lib.hid (Blk.setRow Y2.out (regV (R))); have K5 := Lib.hid (Kp.setRow (g := w.heap.size + 1 + 1) YK.out (by omega) (regV (R)))))
  refine bodyPost_ret (results_cell_tmp2 rfl _ _ _ _ _ _ rfl E2.out Tryd.underlying35 rfl (by kernel_rfl)) rfl ?_
  exact ⟨rfl, K5.out⟩
set_option maxHeartbeats 1000000 in
theorem rdo_jzn (d n m : Nat) (imm : Int) (R : Regs) (pc : Int) (w : World) (g : InsA 15 d n m imm) (h0 : ¬ R d = 0#64) :
    Calls Tryd.prog 18 #[.agg #[.int .i8 15, .int .i8 d, .int .i8 n, .int .i8 m, .int .i64 imm], .agg (regV R), .int .i64 pc] w fun e w' => e = .returned (.tuple #[.agg (regV (R)), .int .i64 (wrap64 (pc + 1)), .int .i64 0]) ∧ Kp w w' := by
  obtain ⟨⟨d0, d8⟩, ⟨n0, n8⟩, ⟨m0, m8⟩⟩ := g.rg
  have D8 : Hid (d < 8) := Lib.hid (by omega)
  have N8 : Hid (n < 8) := Lib.hid (by omega)
  have M8 : Hid (m < 8) := Lib.hid (by omega)
  have G := Lib.hid g; clear g
  have hz : ¬ ((R d).toNat : Int) = 0 := by
    intro e
    apply h0
    apply BitVec.eq_of_toNat_eq
    rw [BitVec.toNat_ofNat]
    omega
  clear h0
  go_enter Tryd.func18, Tryd.ntmps18
  go_wp2_with fail
  refine (rcheck_ok _ d n m imm _ G.out).mono ?_; rintro e w1 ⟨rfl, hg⟩
  have B0 := (((Blk.new w _ _).alloc _).alloc _).kp hg
  have B1 := ((Blk.new2 w _ _ _).alloc _).kp hg
  have B2 := (Blk.new3 w _ _ _ _).kp hg
  have K1 : Kp w w1 := by refine Kp.trans ?_ hg; repeat (first | exact Kp.refl _ | apply Kp.alloc)
  clear hg
  have c1 := B0.cell 1
  have c2 := B0.cell 2
  have c3 := B0.cell 3
  have cD := (B1.cell d).trans (regV_at R d D8.out)
  have cN := (B1.cell n).trans (regV_at R n N8.out)
  have cM := (B1.cell m).trans (regV_at R m M8.out)
  have Z0 := Lib.hid B0
  have Z1 := Lib.hid B1
  have Z2 := Lib.hid B2
  have ZK := Lib.hid K1
  clear B0 B1 B2 K1
  go_wp2_with fail
  go_region
  have Y0 := Lib.hid Z0.out.drew
  have Y1 := Lib.hid Z1.out.drew
  have Y2 := Lib.hid Z2.out.drew
  have YK := Lib.hid ZK.out.drew
  have c0 : w1.drew.cell? ⟨w.heap.size, 0, none⟩ = some (.int .i8 15) := Y0.out.cell 0
  have c1 : w1.drew.cell? ⟨w.heap.size, 1, none⟩ = some (.int .i8 d) := Y0.out.cell 1
  have c4 : w1.drew.cell? ⟨w.heap.size, 4, none⟩ = some (.int .i64 imm) := Y0.out.cell 4
  have cD : w1.drew.cell? ⟨w.heap.size + 1, d, none⟩ = some (.int .u64 (R d).toNat) := (Y1.out.cell d).trans (regV_at R d D8.out)
  have fD : w1.drew.frozen? ⟨w.heap.size + 1, d, none⟩ = false := Y1.out.frozen d
  clear Z0 Z1 Z2 ZK
  generalize w1.drew = w2 at *
  go_wp2_with (first
    | (refine wpList_load_row rfl 35 (.tmp 4) rfl (w.heap.size + 1) rfl _ _ _ _ Y1.out Tryd.underlying35 rfl (by kernel_rfl) ?_)
    | (refine wpList_store_row rfl 35 (.tmp 6) (.tmp 121) rfl (w.heap.size + 1 + 1) (regV (R)) rfl rfl _ _ Y2.out (by kernel_rfl) rfl (regV_one _) ?_; have E2 := Lib.hid (Blk.setRow Y2.out (regV (R))); have K5 := Lib.hid (Kp.setRow (g := w.heap.size + 1 + 1) YK.out (by omega) (regV (R)))))
  refine bodyPost_ret (results_cell_tmp2 rfl _ _ _ _ _ _ rfl E2.out Tryd.underlying35 rfl (by kernel_rfl)) rfl ?_
  exact ⟨rfl, K5.out⟩
set_option maxHeartbeats 1000000 in
theorem rdo_jny (d n m : Nat) (imm : Int) (R : Regs) (pc : Int) (w : World) (g : InsA 16 d n m imm) (h0 : R d = 0#64) :
    Calls Tryd.prog 18 #[.agg #[.int .i8 16, .int .i8 d, .int .i8 n, .int .i8 m, .int .i64 imm], .agg (regV R), .int .i64 pc] w fun e w' => e = .returned (.tuple #[.agg (regV (R)), .int .i64 (wrap64 (pc + 1)), .int .i64 0]) ∧ Kp w w' := by
  obtain ⟨⟨d0, d8⟩, ⟨n0, n8⟩, ⟨m0, m8⟩⟩ := g.rg
  have D8 : Hid (d < 8) := Lib.hid (by omega)
  have N8 : Hid (n < 8) := Lib.hid (by omega)
  have M8 : Hid (m < 8) := Lib.hid (by omega)
  have G := Lib.hid g; clear g
  have hz : ((R d).toNat : Int) = 0 := by rw [h0]; rfl
  clear h0
  go_enter Tryd.func18, Tryd.ntmps18
  go_wp2_with fail
  refine (rcheck_ok _ d n m imm _ G.out).mono ?_; rintro e w1 ⟨rfl, hg⟩
  have B0 := (((Blk.new w _ _).alloc _).alloc _).kp hg
  have B1 := ((Blk.new2 w _ _ _).alloc _).kp hg
  have B2 := (Blk.new3 w _ _ _ _).kp hg
  have K1 : Kp w w1 := by refine Kp.trans ?_ hg; repeat (first | exact Kp.refl _ | apply Kp.alloc)
  clear hg
  have c1 := B0.cell 1
  have c2 := B0.cell 2
  have c3 := B0.cell 3
  have cD := (B1.cell d).trans (regV_at R d D8.out)
  have cN := (B1.cell n).trans (regV_at R n N8.out)
  have cM := (B1.cell m).trans (regV_at R m M8.out)
  have Z0 := Lib.hid B0
  have Z1 := Lib.hid B1
  have Z2 := Lib.hid B2
  have ZK := Lib.hid K1
  clear B0 B1 B2 K1
  go_wp2_with fail
  go_region
  have Y0 := Lib.hid Z0.out.drew
  have Y1 := Lib.hid Z1.out.drew
  have Y2 := Lib.hid Z2.out.drew
  have YK := Lib.hid ZK.out.drew
  have c0 : w1.drew.cell? ⟨w.heap.size, 0, none⟩ = some (.int .i8 16) := Y0.out.cell 0
  have c1 : w1.drew.cell? ⟨w.heap.size, 1, none⟩ = some (.int .i8 d) := Y0.out.cell 1
  have c4 : w1.drew.cell? ⟨w.heap.size, 4, none⟩ = some (.int .i64 imm) := Y0.out.cell 4
  have cD : w1.drew.cell? ⟨w.heap.size + 1, d, none⟩ = some (.int .u64 (R d).toNat) := (Y1.out.cell d).trans (regV_at R d D8.out)
  have fD : w1.drew.frozen? ⟨w.heap.size + 1, d, none⟩ = false := Y1.out.frozen d
  clear Z0 Z1 Z2 ZK
  generalize w1.drew = w2 at *
  go_wp2_with (first
    | (refine wpList_load_row rfl 35 (.tmp 4) rfl (w.heap.size + 1) rfl _ _ _ _ Y1.out Tryd.underlying35 rfl (by kernel_rfl) ?_)
    | (refine wpList_store_row rfl 35 (.tmp 6) (.tmp 121) rfl (w.heap.size + 1 + 1) (regV (R)) rfl rfl _ _ Y2.out (by kernel_rfl) rfl (regV_one _) ?_; have E2 := Lib.hid (Blk.setRow Y2.out (regV (R))); have K5 := Lib.hid (Kp.setRow (g := w.heap.size + 1 + 1) YK.out (by omega) (regV (R)))))
  refine bodyPost_ret (results_cell_tmp2 rfl _ _ _ _ _ _ rfl E2.out Tryd.underlying35 rfl (by kernel_rfl)) rfl ?_
  exact ⟨rfl, K5.out⟩
set_option maxHeartbeats 1000000 in
theorem rdo_jnn (d n m : Nat) (imm : Int) (R : Regs) (pc : Int) (w : World) (g : InsA 16 d n m imm) (h0 : ¬ R d = 0#64) :
    Calls Tryd.prog 18 #[.agg #[.int .i8 16, .int .i8 d, .int .i8 n, .int .i8 m, .int .i64 imm], .agg (regV R), .int .i64 pc] w fun e w' => e = .returned (.tuple #[.agg (regV (R)), .int .i64 (wrap64 (pc + imm)), .int .i64 0]) ∧ Kp w w' := by
  obtain ⟨⟨d0, d8⟩, ⟨n0, n8⟩, ⟨m0, m8⟩⟩ := g.rg
  have D8 : Hid (d < 8) := Lib.hid (by omega)
  have N8 : Hid (n < 8) := Lib.hid (by omega)
  have M8 : Hid (m < 8) := Lib.hid (by omega)
  have G := Lib.hid g; clear g
  have hz : ¬ ((R d).toNat : Int) = 0 := by
    intro e
    apply h0
    apply BitVec.eq_of_toNat_eq
    rw [BitVec.toNat_ofNat]
    omega
  clear h0
  go_enter Tryd.func18, Tryd.ntmps18
  go_wp2_with fail
  refine (rcheck_ok _ d n m imm _ G.out).mono ?_; rintro e w1 ⟨rfl, hg⟩
  have B0 := (((Blk.new w _ _).alloc _).alloc _).kp hg
  have B1 := ((Blk.new2 w _ _ _).alloc _).kp hg
  have B2 := (Blk.new3 w _ _ _ _).kp hg
  have K1 : Kp w w1 := by refine Kp.trans ?_ hg; repeat (first | exact Kp.refl _ | apply Kp.alloc)
  clear hg
  have c1 := B0.cell 1
  have c2 := B0.cell 2
  have c3 := B0.cell 3
  have cD := (B1.cell d).trans (regV_at R d D8.out)
  have cN := (B1.cell n).trans (regV_at R n N8.out)
  have cM := (B1.cell m).trans (regV_at R m M8.out)
  have Z0 := Lib.hid B0
  have Z1 := Lib.hid B1
  have Z2 := Lib.hid B2
  have ZK := Lib.hid K1
  clear B0 B1 B2 K1
  go_wp2_with fail
  go_region
  have Y0 := Lib.hid Z0.out.drew
  have Y1 := Lib.hid Z1.out.drew
  have Y2 := Lib.hid Z2.out.drew
  have YK := Lib.hid ZK.out.drew
  have c0 : w1.drew.cell? ⟨w.heap.size, 0, none⟩ = some (.int .i8 16) := Y0.out.cell 0
  have c1 : w1.drew.cell? ⟨w.heap.size, 1, none⟩ = some (.int .i8 d) := Y0.out.cell 1
  have c4 : w1.drew.cell? ⟨w.heap.size, 4, none⟩ = some (.int .i64 imm) := Y0.out.cell 4
  have cD : w1.drew.cell? ⟨w.heap.size + 1, d, none⟩ = some (.int .u64 (R d).toNat) := (Y1.out.cell d).trans (regV_at R d D8.out)
  have fD : w1.drew.frozen? ⟨w.heap.size + 1, d, none⟩ = false := Y1.out.frozen d
  clear Z0 Z1 Z2 ZK
  generalize w1.drew = w2 at *
  go_wp2_with (first
    | (refine wpList_load_row rfl 35 (.tmp 4) rfl (w.heap.size + 1) rfl _ _ _ _ Y1.out Tryd.underlying35 rfl (by kernel_rfl) ?_)
    | (refine wpList_store_row rfl 35 (.tmp 6) (.tmp 121) rfl (w.heap.size + 1 + 1) (regV (R)) rfl rfl _ _ Y2.out (by kernel_rfl) rfl (regV_one _) ?_; have E2 := Lib.hid (Blk.setRow Y2.out (regV (R))); have K5 := Lib.hid (Kp.setRow (g := w.heap.size + 1 + 1) YK.out (by omega) (regV (R)))))
  refine bodyPost_ret (results_cell_tmp2 rfl _ _ _ _ _ _ rfl E2.out Tryd.underlying35 rfl (by kernel_rfl)) rfl ?_
  exact ⟨rfl, K5.out⟩
set_option maxHeartbeats 1000000 in
theorem rdo_not (o d n m : Nat) (imm : Int) (R : Regs) (pc : Int) (w : World) (ho : o = 8 ∨ o = 9 ∨ o = 10 ∨ o = 11 ∨ o = 12 ∨ o = 13 ∨ o = 17 ∨ o = 18) (g : InsA o d n m imm) :
    Calls Tryd.prog 18 #[.agg #[.int .i8 o, .int .i8 d, .int .i8 n, .int .i8 m, .int .i64 imm], .agg (regV R), .int .i64 pc] w fun e w' => e = .returned (.tuple #[.agg (regV (R)), .int .i64 (pc), .int .i64 21]) ∧ Kp w w' := by
  obtain ⟨⟨d0, d8⟩, ⟨n0, n8⟩, ⟨m0, m8⟩⟩ := g.rg
  have D8 : Hid (d < 8) := Lib.hid (by omega)
  have N8 : Hid (n < 8) := Lib.hid (by omega)
  have M8 : Hid (m < 8) := Lib.hid (by omega)
  have G := Lib.hid g; clear g
  rcases ho with rfl | rfl | rfl | rfl | rfl | rfl | rfl | rfl
  all_goals
    go_enter Tryd.func18, Tryd.ntmps18
    go_wp2_with fail
    refine (rcheck_ok _ d n m imm _ G.out).mono ?_; rintro e w1 ⟨rfl, hg⟩
    have B0 := (((Blk.new w _ _).alloc _).alloc _).kp hg
    have B1 := ((Blk.new2 w _ _ _).alloc _).kp hg
    have B2 := (Blk.new3 w _ _ _ _).kp hg
    have K1 : Kp w w1 := by refine Kp.trans ?_ hg; repeat (first | exact Kp.refl _ | apply Kp.alloc)
    clear hg
    have c1 := B0.cell 1
    have c2 := B0.cell 2
    have c3 := B0.cell 3
    have cD := (B1.cell d).trans (regV_at R d D8.out)
    have cN := (B1.cell n).trans (regV_at R n N8.out)
    have cM := (B1.cell m).trans (regV_at R m M8.out)
    have Z0 := Lib.hid B0
    have Z1 := Lib.hid B1
    have Z2 := Lib.hid B2
    have ZK := Lib.hid K1
    clear B0 B1 B2 K1
    go_wp2_with fail
    go_region
    have Y0 := Lib.hid Z0.out.drew
    have Y1 := Lib.hid Z1.out.drew
    have Y2 := Lib.hid Z2.out.drew
    have YK := Lib.hid ZK.out.drew
    have c0 : w1.drew.cell? ⟨w.heap.size, 0, none⟩ = some (.int .i8 _) := Y0.out.cell 0
    have c1 : w1.drew.cell? ⟨w.heap.size, 1, none⟩ = some (.int .i8 d) := Y0.out.cell 1
    have c4 : w1.drew.cell? ⟨w.heap.size, 4, none⟩ = some (.int .i64 imm) := Y0.out.cell 4
    have cD : w1.drew.cell? ⟨w.heap.size + 1, d, none⟩ = some (.int .u64 (R d).toNat) := (Y1.out.cell d).trans (regV_at R d D8.out)
    have fD : w1.drew.frozen? ⟨w.heap.size + 1, d, none⟩ = false := Y1.out.frozen d
    clear Z0 Z1 Z2 ZK
    generalize w1.drew = w2 at *
    go_wp2_with (first
      | (refine wpList_load_row rfl 35 (.tmp 4) rfl (w.heap.size + 1) rfl _ _ _ _ Y1.out Tryd.underlying35 rfl (by kernel_rfl) ?_)
      | (refine wpList_store_row rfl 35 (.tmp 6) (.tmp 37) rfl (w.heap.size + 1 + 1) (regV (R)) rfl rfl _ _ Y2.out (by kernel_rfl) rfl (regV_one _) ?_; have E2 := Lib.hid (Blk.setRow Y2.out (regV (R))); have K5 := Lib.hid (Kp.setRow (g := w.heap.size + 1 + 1) YK.out (by omega) (regV (R)))))
    refine bodyPost_ret (results_cell_tmp2 rfl _ _ _ _ _ _ rfl E2.out Tryd.underlying35 rfl (by kernel_rfl)) rfl ?_
    exact ⟨rfl, K5.out⟩
set_option maxHeartbeats 1000000 in
theorem rdo_bad (op d n m imm : Int) (R : Regs) (pc : Int) (w : World) (g : ¬ InsA op d n m imm) :
    Calls Tryd.prog 18 #[.agg #[.int .i8 op, .int .i8 d, .int .i8 n, .int .i8 m, .int .i64 imm], .agg (regV R), .int .i64 pc] w fun e w' => e = .returned (.tuple #[.agg (regV R), .int .i64 pc, .int .i64 60]) ∧ Kp w w' := by
  have G := Lib.hid g; clear g
  go_enter Tryd.func18, Tryd.ntmps18
  go_wp2_with fail
  refine (rcheck_bad _ d n m imm _ G.out).mono ?_; rintro e w1 ⟨rfl, hg⟩
  have B1 := Lib.hid (((Blk.new2 w _ _ _).alloc _).kp hg)
  have B2 := Lib.hid ((Blk.new3 w _ _ _ _).kp hg)
  have K1 : Hid (Kp w w1) := Lib.hid (by refine Kp.trans ?_ hg; repeat (first | exact Kp.refl _ | apply Kp.alloc))
  clear hg
  go_wp2_with (first
    | (refine wpList_load_row rfl 35 (.tmp 4) rfl (w.heap.size + 1) rfl _ _ _ _ B1.out Tryd.underlying35 rfl (by kernel_rfl) ?_)
    | (refine wpList_store_row rfl 35 (.tmp 6) (.tmp 18) rfl (w.heap.size + 1 + 1) (regV R) rfl rfl _ _ B2.out (by kernel_rfl) rfl (regV_one _) ?_; have E2 := Lib.hid (B2.out.setRow (regV R)); have K5 := Lib.hid (K1.out.setRow (g := w.heap.size + 1 + 1) (by omega) (regV R))))
  refine bodyPost_ret (results_cell_tmp2 rfl _ _ _ _ _ _ rfl E2.out Tryd.underlying35 rfl (by kernel_rfl)) rfl ?_
  exact ⟨rfl, K5.out⟩
theorem rdo_alu (o d n m : Nat) (imm : Int) (R : Regs) (pc : Int) (w : World) (ho : AluO o) (g : InsA o d n m imm) :
    Calls Tryd.prog 18 #[.agg #[.int .i8 o, .int .i8 d, .int .i8 n, .int .i8 m, .int .i64 imm], .agg (regV R), .int .i64 pc] w fun e w' => e = .returned (.tuple #[.agg (regV (doR o d n m imm R)), .int .i64 (wrap64 (pc + stepI o d imm R)), .int .i64 0]) ∧ Kp w w' := by
  have h : o = 0 ∨ o = 1 ∨ o = 2 ∨ o = 3 ∨ o = 4 ∨ o = 5 ∨ o = 6 ∨ o = 7 ∨ o = 14 ∨ o = 15 ∨ o = 16 := by unfold AluO at ho; omega
  rcases h with rfl | rfl | rfl | rfl | rfl | rfl | rfl | rfl | rfl | rfl | rfl
  · exact rdo_nop d n m imm R pc w g
  · exact rdo_mov d n m imm R pc w g
  · exact rdo_add d n m imm R pc w g
  · exact rdo_sub d n m imm R pc w g
  · exact rdo_and d n m imm R pc w g
  · exact rdo_orr d n m imm R pc w g
  · exact rdo_eor d n m imm R pc w g
  · exact rdo_addi d n m imm R pc w g
  · exact rdo_jump d n m imm R pc w g
  · by_cases h0 : R d = 0#64
    · rw [show stepI 15 d imm R = imm from if_pos h0]
      exact rdo_jzy d n m imm R pc w g h0
    · rw [show stepI 15 d imm R = 1 from if_neg h0]
      exact rdo_jzn d n m imm R pc w g h0
  · by_cases h0 : R d = 0#64
    · rw [show stepI 16 d imm R = 1 from if_pos h0]
      exact rdo_jny d n m imm R pc w g h0
    · rw [show stepI 16 d imm R = imm from if_neg h0]
      exact rdo_jnn d n m imm R pc w g h0
end Go.Proofs.YtieffpgiliebmaaDoor
