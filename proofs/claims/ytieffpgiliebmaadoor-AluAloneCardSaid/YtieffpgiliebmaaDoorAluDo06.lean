/-
  Package alu's jumps by a register, the array of operations, and Do, for every instruction. No condition but the table.
-/
import Derived.Test.YtieffpgiliebmaaDoorRegs06
import Derived.Test.YtieffpgiliebmaaDoorRefReads06
import Derived.Laws.Tables
import Derived.Deep.RegionHeld3
import Derived.Deep.WholeRow
namespace Go.Proofs.YtieffpgiliebmaaDoor
open Go Go.RowKit

theorem Blk.put8 {w : World} {b : Nat} {t : TypeId} {c0 c1 c2 c3 c4 c5 c6 c7 : Value} (h : Blk w b #[c0, c1, c2, c3, c4, c5, c6, c7] t) (v0 v1 v2 v3 v4 v5 v6 v7 : Value) :
    Blk ((((((((w.setCell ⟨b, 0, none⟩ v0).setCell ⟨b, 1, none⟩ v1).setCell ⟨b, 2, none⟩ v2).setCell ⟨b, 3, none⟩ v3).setCell ⟨b, 4, none⟩ v4).setCell ⟨b, 5, none⟩ v5).setCell ⟨b, 6, none⟩ v6).setCell ⟨b, 7, none⟩ v7) b #[v0, v1, v2, v3, v4, v5, v6, v7] t := by
  have := (((((((h.set 0 v0).set 1 v1).set 2 v2).set 3 v3).set 4 v4).set 5 v5).set 6 v6).set 7 v7
  simpa using this
theorem Kp.put8 {w w' : World} {b : Nat} (h : Kp w w') (hb : w.heap.size ≤ b) (v0 v1 v2 v3 v4 v5 v6 v7 : Value) :
    Kp w ((((((((w'.setCell ⟨b, 0, none⟩ v0).setCell ⟨b, 1, none⟩ v1).setCell ⟨b, 2, none⟩ v2).setCell ⟨b, 3, none⟩ v3).setCell ⟨b, 4, none⟩ v4).setCell ⟨b, 5, none⟩ v5).setCell ⟨b, 6, none⟩ v6).setCell ⟨b, 7, none⟩ v7) :=
  (((((((h.setCell (a := ⟨b, 0, none⟩) hb v0).setCell (a := ⟨b, 1, none⟩) hb v1).setCell (a := ⟨b, 2, none⟩) hb v2).setCell (a := ⟨b, 3, none⟩) hb v3).setCell (a := ⟨b, 4, none⟩) hb v4).setCell (a := ⟨b, 5, none⟩) hb v5).setCell (a := ⟨b, 6, none⟩) hb v6).setCell (a := ⟨b, 7, none⟩) hb v7
theorem jz_any (op d n m : Nat) (imm : Int) (R : Regs) (pc : Int) (w : World) (hd : d < 8) :
    Calls Tryd.prog 39 #[.agg #[.int .i8 op, .int .i8 d, .int .i8 n, .int .i8 m, .int .i64 imm], .agg (regV R), .int .i64 pc] w fun e w' => e = .returned (.tuple #[.agg (regV R), .int .i64 (wrap64 (pc + if R d = 0#64 then imm else 1))]) ∧ Kp w w' := by
  have d0 : (0 : Int) ≤ (d : Int) := by omega
  have d8 : (d : Int) < 8 := by omega
  by_cases h0 : R d = 0#64
  · rw [if_pos h0]
    have yD : ∀ h, (regL R)[d]'h = .int .u64 0 := by
      intro h
      rw [regL_get R d hd, h0]
      rfl
    clear h0
    go_enter Tryd.func39, Tryd.ntmps39
    go_wp2_with fail
    refine (jump_any op d n m imm R pc _).mono ?_; rintro e w1 ⟨rfl, hg⟩
    have B := (Blk.new3 w _ _ _ _).kp hg
    have K1 : Hid (Kp w w1) := Lib.hid (by refine Kp.trans ?_ hg; repeat (first | exact Kp.refl _ | apply Kp.alloc))
    have HB := Lib.hid B
    have b0 := B.cell 0
    have f0 := B.frozen 0
    have b1 := B.cell 1
    have f1 := B.frozen 1
    have b2 := B.cell 2
    have f2 := B.frozen 2
    have b3 := B.cell 3
    have f3 := B.frozen 3
    have b4 := B.cell 4
    have f4 := B.frozen 4
    have b5 := B.cell 5
    have f5 := B.frozen 5
    have b6 := B.cell 6
    have f6 := B.frozen 6
    have b7 := B.cell 7
    have f7 := B.frozen 7
    clear B hg
    go_wp2
    refine bodyPost_ret (results_cell_tmp rfl _ _ _ _ _ _ rfl (HB.out.put8 _ _ _ _ _ _ _ _) Tryd.underlying35 rfl (by kernel_rfl)) rfl ?_
    exact ⟨rfl, K1.out.put8 (by omega) _ _ _ _ _ _ _ _⟩
  · rw [if_neg h0]
    have yD := regL_get R d hd
    have hz : ¬ ((R d).toNat : Int) = 0 := by
      intro hz
      apply h0
      apply BitVec.eq_of_toNat_eq
      rw [BitVec.toNat_ofNat]
      omega
    clear h0
    go_enter Tryd.func39, Tryd.ntmps39
    go_wp2_with fail
    refine (nop_any op d n m imm R pc _).mono ?_; rintro e w1 ⟨rfl, hg⟩
    have B := (Blk.new3 w _ _ _ _).kp hg
    have K1 : Hid (Kp w w1) := Lib.hid (by refine Kp.trans ?_ hg; repeat (first | exact Kp.refl _ | apply Kp.alloc))
    have HB := Lib.hid B
    have b0 := B.cell 0
    have f0 := B.frozen 0
    have b1 := B.cell 1
    have f1 := B.frozen 1
    have b2 := B.cell 2
    have f2 := B.frozen 2
    have b3 := B.cell 3
    have f3 := B.frozen 3
    have b4 := B.cell 4
    have f4 := B.frozen 4
    have b5 := B.cell 5
    have f5 := B.frozen 5
    have b6 := B.cell 6
    have f6 := B.frozen 6
    have b7 := B.cell 7
    have f7 := B.frozen 7
    clear B hg
    go_wp2
    refine bodyPost_ret (results_cell_tmp rfl _ _ _ _ _ _ rfl (HB.out.put8 _ _ _ _ _ _ _ _) Tryd.underlying35 rfl (by kernel_rfl)) rfl ?_
    exact ⟨rfl, K1.out.put8 (by omega) _ _ _ _ _ _ _ _⟩
theorem jnz_any (op d n m : Nat) (imm : Int) (R : Regs) (pc : Int) (w : World) (hd : d < 8) :
    Calls Tryd.prog 40 #[.agg #[.int .i8 op, .int .i8 d, .int .i8 n, .int .i8 m, .int .i64 imm], .agg (regV R), .int .i64 pc] w fun e w' => e = .returned (.tuple #[.agg (regV R), .int .i64 (wrap64 (pc + if R d = 0#64 then 1 else imm))]) ∧ Kp w w' := by
  have d0 : (0 : Int) ≤ (d : Int) := by omega
  have d8 : (d : Int) < 8 := by omega
  by_cases h0 : R d = 0#64
  · rw [if_pos h0]
    have yD : ∀ h, (regL R)[d]'h = .int .u64 0 := by
      intro h
      rw [regL_get R d hd, h0]
      rfl
    clear h0
    go_enter Tryd.func40, Tryd.ntmps40
    go_wp2_with fail
    refine (nop_any op d n m imm R pc _).mono ?_; rintro e w1 ⟨rfl, hg⟩
    have B := (Blk.new3 w _ _ _ _).kp hg
    have K1 : Hid (Kp w w1) := Lib.hid (by refine Kp.trans ?_ hg; repeat (first | exact Kp.refl _ | apply Kp.alloc))
    have HB := Lib.hid B
    have b0 := B.cell 0
    have f0 := B.frozen 0
    have b1 := B.cell 1
    have f1 := B.frozen 1
    have b2 := B.cell 2
    have f2 := B.frozen 2
    have b3 := B.cell 3
    have f3 := B.frozen 3
    have b4 := B.cell 4
    have f4 := B.frozen 4
    have b5 := B.cell 5
    have f5 := B.frozen 5
    have b6 := B.cell 6
    have f6 := B.frozen 6
    have b7 := B.cell 7
    have f7 := B.frozen 7
    clear B hg
    go_wp2
    refine bodyPost_ret (results_cell_tmp rfl _ _ _ _ _ _ rfl (HB.out.put8 _ _ _ _ _ _ _ _) Tryd.underlying35 rfl (by kernel_rfl)) rfl ?_
    exact ⟨rfl, K1.out.put8 (by omega) _ _ _ _ _ _ _ _⟩
  · rw [if_neg h0]
    have yD := regL_get R d hd
    have hz : ¬ ((R d).toNat : Int) = 0 := by
      intro hz
      apply h0
      apply BitVec.eq_of_toNat_eq
      rw [BitVec.toNat_ofNat]
      omega
    clear h0
    go_enter Tryd.func40, Tryd.ntmps40
    go_wp2_with fail
    refine (jump_any op d n m imm R pc _).mono ?_; rintro e w1 ⟨rfl, hg⟩
    have B := (Blk.new3 w _ _ _ _).kp hg
    have K1 : Hid (Kp w w1) := Lib.hid (by refine Kp.trans ?_ hg; repeat (first | exact Kp.refl _ | apply Kp.alloc))
    have HB := Lib.hid B
    have b0 := B.cell 0
    have f0 := B.frozen 0
    have b1 := B.cell 1
    have f1 := B.frozen 1
    have b2 := B.cell 2
    have f2 := B.frozen 2
    have b3 := B.cell 3
    have f3 := B.frozen 3
    have b4 := B.cell 4
    have f4 := B.frozen 4
    have b5 := B.cell 5
    have f5 := B.frozen 5
    have b6 := B.cell 6
    have f6 := B.frozen 6
    have b7 := B.cell 7
    have f7 := B.frozen 7
    clear B hg
    go_wp2
    refine bodyPost_ret (results_cell_tmp rfl _ _ _ _ _ _ rfl (HB.out.put8 _ _ _ _ _ _ _ _) Tryd.underlying35 rfl (by kernel_rfl)) rfl ?_
    exact ⟨rfl, K1.out.put8 (by omega) _ _ _ _ _ _ _ _⟩
abbrev opsV : Array Value := #[.func (.func 30) #[] #[], .func (.func 31) #[] #[], .func (.func 32) #[] #[], .func (.func 33) #[] #[], .func (.func 34) #[] #[], .func (.func 35) #[] #[], .func (.func 36) #[] #[], .func (.func 37) #[] #[], .nilFunc, .nilFunc, .nilFunc, .nilFunc, .nilFunc, .nilFunc, .func (.func 38) #[] #[], .func (.func 39) #[] #[], .func (.func 40) #[] #[], .nilFunc, .nilFunc]
theorem opsV_one : opsV.all (·.oneCell') = true := by simp [opsV, Value.oneCell']
theorem operations_any (w : World) :
    Calls Tryd.prog 26 #[] w fun e w' => e = .returned (.agg opsV) ∧ Kp w w' := by
  go_enter Tryd.func26, Tryd.ntmps26
  go_wp2_with (refine wpList_store_row rfl 60 (.tmp 0) (.tmp 1) rfl w.heap.size opsV rfl rfl 60 _ (heap_alloc_last _ _) (by kernel_rfl) rfl opsV_one ?_; rw [World.setRow_alloc_new])
  refine bodyPost_ret (results_cell_row rfl _ _ _ _ _ _ _ rfl (Blk.new w _ _) Tryd.underlying60 rfl (by kernel_rfl)) rfl ?_
  exact ⟨rfl, kpA _ _ _⟩

/-! Do. -/
theorem results_cell_tmp2 {P : Program} {fn : Func} {p u v : Tmp} {ty : TypeId} (h : fn.results = #[.cell p ty, .tmp u, .tmp v]) (tmps : Array Value) (w : World) (g : Nat) (t : TypeId) (cs : Array Value) (d : TypeDesc)
    (hp : tmps.getD p undef = .pointer (some ⟨g, 0, none⟩)) (hg : Blk w g cs t)
    (hu : P.underlying ty = some d) (hd : (match d with | .struct _ | .array _ _ => true | _ => false) = true) (hi : (P.info? ty).map (·.size) = some cs.size) :
    (results fn tmps).run P w = .ok (.tuple #[.agg cs, tmps.getD u undef, tmps.getD v undef]) w := by
  have hp' : tmps[p]?.getD undef = .pointer (some ⟨g, 0, none⟩) := by simpa using hp
  simp [results, h, hp', asAddr, run_loadVar_row w g t ty cs (0, 0) d hg hu hd hi]
theorem index_i8 {P : Program} {t e : TypeId} {n : Nat} {d : TypeDesc} (hu : P.underlying t = some (.array n e)) (he : P.underlying e = some d) (hd : (match d with | .struct _ | .array _ _ => true | _ => false) = false)
    (hs : (P.info? e).map (·.size) = some 1) (K : Int) (k : Nat) (eK : K = (k : Int)) (hk : k < n) {cs : Array Value} {v : Value} (hv : cs[k]? = some v) (w : World) : (Instr.index t (.agg cs) (.int .i8 K)).run P w = .ok v w := by
  subst eK
  have c : ¬ n ≤ k := by omega
  have ha : (isAgg e).run P w = .ok false w := by
    have := run_isAgg' he w
    cases d <;> simp_all
  simp [Instr.index, go_sem, run_underlying hu w, run_sizeOf' hs w, c, part, ha, hv]
theorem op_at (K : Int) (k : Nat) (e : K = (k : Int)) (hk : k < 19) (v : Value) (hv : opsV[k]? = some v) (w : World) : (Instr.index 60 (.agg opsV) (.int .i8 K)).run Tryd.prog w = .ok v w :=
  index_i8 Tryd.underlying60 Tryd.underlying59 rfl (by kernel_rfl) K k e hk hv w
theorem eqIn_func (f : Nat) (w : World) : (Op.equalIn Op.maxDepth 59 (.func (.func f) #[] #[]) .nilFunc).run Tryd.prog w = .ok false w := by
  show (Op.equalIn (9999 + 1) 59 (.func (.func f) #[] #[]) .nilFunc).run Tryd.prog w = .ok false w
  unfold Op.equalIn
  rw [Sem.run_bind, run_underlying Tryd.underlying59 w]
  rfl
theorem eqIn_nil (w : World) : (Op.equalIn Op.maxDepth 59 .nilFunc .nilFunc).run Tryd.prog w = .ok true w := by
  show (Op.equalIn (9999 + 1) 59 .nilFunc .nilFunc).run Tryd.prog w = .ok true w
  unfold Op.equalIn
  rw [Sem.run_bind, run_underlying Tryd.underlying59 w]
  rfl
theorem func_nil (f : Nat) (w : World) : (binOp .eql 59 (.func (.func f) #[] #[]) .nilFunc).run Tryd.prog w = .ok (.bool false) w := by
  simp [binOp, Op.equal, go_sem, eqIn_func]
theorem nil_nil (w : World) : (binOp .eql 59 .nilFunc .nilFunc).run Tryd.prog w = .ok (.bool true) w := by
  simp [binOp, Op.equal, go_sem, eqIn_nil]
theorem regV_one (R : Regs) : (regV R).all (·.oneCell') = true := by simp [regV, regL, Value.oneCell']
theorem Blk.setRow {w : World} {b : Nat} {cs : Array Value} {t : TypeId} (h : Blk w b cs t) (cs' : Array Value) : Blk (w.setRow b cs') b cs' t := setRow_heap w b cs cs' t (0, 0) h
theorem Blk.setRowO {w : World} {b g : Nat} {cs : Array Value} {t : TypeId} (h : Blk w b cs t) (cs' : Array Value) (hb : b ≠ g) : Blk (w.setRow g cs') b cs t := (setRow_other w g b cs' hb).trans h
theorem Kp.setRow {w w' : World} {g : Nat} (h : Kp w w') (hg : w.heap.size ≤ g) (cs : Array Value) : Kp w (w'.setRow g cs) := by
  refine Below.trans h ⟨rfl, rfl, rfl, by simp, fun k hk => setRow_other w' g k cs (by omega)⟩
def AtDo (w w1 : World) (k : Int) (w' : World) : Prop := w'.cell? ⟨w.heap.size, 0, none⟩ = some (.int .i8 k) ∧ w.heap.size < w'.heap.size ∧ Kp w1 w'
theorem AtDo.drew {w w1 : World} {k : Int} {w' : World} (h : AtDo w w1 k w') : AtDo w w1 k w'.drew := ⟨h.1, h.2.1, h.2.2.drew⟩
theorem AtDo.kp {w w1 : World} {k : Int} {w' w2 : World} (h : AtDo w w1 k w') (g : Kp w' w2) : AtDo w w1 k w2 := ⟨(g.cell h.2.1).trans h.1, Nat.lt_of_lt_of_le h.2.1 g.size, h.2.2.trans g⟩
set_option maxHeartbeats 1000000 in
theorem do_nop (d n m : Nat) (imm : Int) (R : Regs) (pc : Int) (w : World) (hT : TabsOk w) (g : InsA 0 d n m imm) :
    Calls Tryd.prog 17 #[.agg #[.int .i8 0, .int .i8 d, .int .i8 n, .int .i8 m, .int .i64 imm], .agg (regV R), .int .i64 pc] w fun e w' => e = .returned (.tuple #[.agg (regV (R)), .int .i64 (wrap64 (pc + 1)), .int .i64 0]) ∧ Kp w w' := by
  obtain ⟨⟨d0, d8⟩, ⟨n0, n8⟩, ⟨m0, m8⟩⟩ := g.rg
  have D8 : Hid (d < 8) := Lib.hid (by omega)
  have N8 : Hid (n < 8) := Lib.hid (by omega)
  have M8 : Hid (m < 8) := Lib.hid (by omega)
  clear d0 d8 n0 n8 m0 m8
  have G := Lib.hid g; clear g
  have HT := Lib.hid hT; clear hT
  have hidx := op_at 0 0 rfl (by decide) _ rfl
  go_enter Tryd.func17, Tryd.ntmps17
  go_wp2_with fail
  refine (check_ok _ d n m imm _ (HT.out.kp (by repeat (first | exact Kp.refl _ | apply Kp.alloc))) ⟨by decide, by decide⟩ G.out).mono ?_; rintro e w1 ⟨rfl, hg⟩
  have B0 := Lib.hid ((((Blk.new w _ _).alloc _).alloc _).kp hg)
  have B1 := Lib.hid (((Blk.new2 w _ _ _).alloc _).kp hg)
  have B2 := Lib.hid ((Blk.new3 w _ _ _ _).kp hg)
  have K1 : Hid (Kp w w1) := Lib.hid (by refine Kp.trans ?_ hg; repeat (first | exact Kp.refl _ | apply Kp.alloc))
  have HS : Hid (AtDo w w1 0 w1) := Lib.hid ⟨B0.out.cell 0, B0.out.lt, Kp.refl _⟩
  clear hg
  go_wp2_with fail
  go_region_held3 (fun w' => w'.cell? ⟨w.heap.size, 0, none⟩ = some (.int .i8 0) ∧ w.heap.size < w'.heap.size ∧ Kp w1 w')
      (first | exact HS.out.drew | assumption | exact AtDo.drew (by assumption))
      (first | (go_at_call 26; rename_i hh _ _; refine (operations_any _).mono ?_; rintro e w' ⟨rfl, hg⟩; have hh' := AtDo.kp hh hg; clear hh hg))
  rename_i hh
  have HH := Lib.hid hh.2.2; clear hh hidx
  have hfn := func_nil 30
  go_wp2_with (first
    | (refine wpList_load_row rfl 24 (.tmp 3) rfl w.heap.size rfl _ _ _ _ (B0.out.kp HH.out) Tryd.underlying24 rfl (by kernel_rfl) ?_)
    | (refine wpList_load_row rfl 35 (.tmp 4) rfl (w.heap.size + 1) rfl _ _ _ _ (B1.out.kp HH.out) Tryd.underlying35 rfl (by kernel_rfl) ?_)
    | (go_at_call 30; refine (nop_any 0 d n m imm R pc _).mono ?_; rintro e w3 ⟨rfl, hg⟩; have C1 := Lib.hid (B1.out.kp (HH.out.trans hg)); have C2 := Lib.hid (B2.out.kp (HH.out.trans hg)); have K3 : Hid (Kp w w3) := Lib.hid (K1.out.trans (HH.out.trans hg)); clear hg)
    | (refine wpList_store_row rfl 35 (.tmp 4) (.tmp 32) rfl (w.heap.size + 1) (regV (R)) rfl rfl _ _ C1.out (by kernel_rfl) rfl (regV_one _) ?_; have D1 := Lib.hid (C1.out.setRow (regV (R))); have D2 := Lib.hid (C2.out.setRowO (g := w.heap.size + 1) (regV (R)) (by omega)); have K4 := Lib.hid (K3.out.setRow (g := w.heap.size + 1) (by omega) (regV (R))); clear C1 C2 K3; generalize w3.setRow (w.heap.size + 1) (regV (R)) = w4 at D1 D2 K4 ⊢)
    | (refine wpList_load_row rfl 35 (.tmp 4) rfl (w.heap.size + 1) rfl _ _ _ _ D1.out Tryd.underlying35 rfl (by kernel_rfl) ?_)
    | (refine wpList_store_row rfl 35 (.tmp 6) (.tmp 34) rfl (w.heap.size + 1 + 1) (regV (R)) rfl rfl _ _ D2.out (by kernel_rfl) rfl (regV_one _) ?_; have E2 := Lib.hid (D2.out.setRow (regV (R))); have K5 := Lib.hid (K4.out.setRow (g := w.heap.size + 1 + 1) (by omega) (regV (R))); clear D1 D2 K4; generalize w4.setRow (w.heap.size + 1 + 1) (regV (R)) = w5 at E2 K5 ⊢))
  refine bodyPost_ret (results_cell_tmp2 rfl _ _ _ _ _ _ rfl E2.out Tryd.underlying35 rfl (by kernel_rfl)) rfl ?_
  exact ⟨rfl, K5.out⟩
set_option maxHeartbeats 1000000 in
theorem do_mov (d n m : Nat) (imm : Int) (R : Regs) (pc : Int) (w : World) (hT : TabsOk w) (g : InsA 1 d n m imm) :
    Calls Tryd.prog 17 #[.agg #[.int .i8 1, .int .i8 d, .int .i8 n, .int .i8 m, .int .i64 imm], .agg (regV R), .int .i64 pc] w fun e w' => e = .returned (.tuple #[.agg (regV (upd R d (BitVec.ofInt 64 imm))), .int .i64 (wrap64 (pc + 1)), .int .i64 0]) ∧ Kp w w' := by
  obtain ⟨⟨d0, d8⟩, ⟨n0, n8⟩, ⟨m0, m8⟩⟩ := g.rg
  have D8 : Hid (d < 8) := Lib.hid (by omega)
  have N8 : Hid (n < 8) := Lib.hid (by omega)
  have M8 : Hid (m < 8) := Lib.hid (by omega)
  clear d0 d8 n0 n8 m0 m8
  have G := Lib.hid g; clear g
  have HT := Lib.hid hT; clear hT
  have hidx := op_at 1 1 rfl (by decide) _ rfl
  go_enter Tryd.func17, Tryd.ntmps17
  go_wp2_with fail
  refine (check_ok _ d n m imm _ (HT.out.kp (by repeat (first | exact Kp.refl _ | apply Kp.alloc))) ⟨by decide, by decide⟩ G.out).mono ?_; rintro e w1 ⟨rfl, hg⟩
  have B0 := Lib.hid ((((Blk.new w _ _).alloc _).alloc _).kp hg)
  have B1 := Lib.hid (((Blk.new2 w _ _ _).alloc _).kp hg)
  have B2 := Lib.hid ((Blk.new3 w _ _ _ _).kp hg)
  have K1 : Hid (Kp w w1) := Lib.hid (by refine Kp.trans ?_ hg; repeat (first | exact Kp.refl _ | apply Kp.alloc))
  have HS : Hid (AtDo w w1 1 w1) := Lib.hid ⟨B0.out.cell 0, B0.out.lt, Kp.refl _⟩
  clear hg
  go_wp2_with fail
  go_region_held3 (fun w' => w'.cell? ⟨w.heap.size, 0, none⟩ = some (.int .i8 1) ∧ w.heap.size < w'.heap.size ∧ Kp w1 w')
      (first | exact HS.out.drew | assumption | exact AtDo.drew (by assumption))
      (first | (go_at_call 26; rename_i hh _ _; refine (operations_any _).mono ?_; rintro e w' ⟨rfl, hg⟩; have hh' := AtDo.kp hh hg; clear hh hg))
  rename_i hh
  have HH := Lib.hid hh.2.2; clear hh hidx
  have hfn := func_nil 31
  go_wp2_with (first
    | (refine wpList_load_row rfl 24 (.tmp 3) rfl w.heap.size rfl _ _ _ _ (B0.out.kp HH.out) Tryd.underlying24 rfl (by kernel_rfl) ?_)
    | (refine wpList_load_row rfl 35 (.tmp 4) rfl (w.heap.size + 1) rfl _ _ _ _ (B1.out.kp HH.out) Tryd.underlying35 rfl (by kernel_rfl) ?_)
    | (go_at_call 31; refine (mov_any 1 d n m imm R pc _ D8.out).mono ?_; rintro e w3 ⟨rfl, hg⟩; have C1 := Lib.hid (B1.out.kp (HH.out.trans hg)); have C2 := Lib.hid (B2.out.kp (HH.out.trans hg)); have K3 : Hid (Kp w w3) := Lib.hid (K1.out.trans (HH.out.trans hg)); clear hg)
    | (refine wpList_store_row rfl 35 (.tmp 4) (.tmp 32) rfl (w.heap.size + 1) (regV (upd R d (BitVec.ofInt 64 imm))) rfl rfl _ _ C1.out (by kernel_rfl) rfl (regV_one _) ?_; have D1 := Lib.hid (C1.out.setRow (regV (upd R d (BitVec.ofInt 64 imm)))); have D2 := Lib.hid (C2.out.setRowO (g := w.heap.size + 1) (regV (upd R d (BitVec.ofInt 64 imm))) (by omega)); have K4 := Lib.hid (K3.out.setRow (g := w.heap.size + 1) (by omega) (regV (upd R d (BitVec.ofInt 64 imm)))); clear C1 C2 K3; generalize w3.setRow (w.heap.size + 1) (regV (upd R d (BitVec.ofInt 64 imm))) = w4 at D1 D2 K4 ⊢)
    | (refine wpList_load_row rfl 35 (.tmp 4) rfl (w.heap.size + 1) rfl _ _ _ _ D1.out Tryd.underlying35 rfl (by kernel_rfl) ?_)
    | (refine wpList_store_row rfl 35 (.tmp 6) (.tmp 34) rfl (w.heap.size + 1 + 1) (regV (upd R d (BitVec.ofInt 64 imm))) rfl rfl _ _ D2.out (by kernel_rfl) rfl (regV_one _) ?_; have E2 := Lib.hid (D2.out.setRow (regV (upd R d (BitVec.ofInt 64 imm)))); have K5 := Lib.hid (K4.out.setRow (g := w.heap.size + 1 + 1) (by omega) (regV (upd R d (BitVec.ofInt 64 imm)))); clear D1 D2 K4; generalize w4.setRow (w.heap.size + 1 + 1) (regV (upd R d (BitVec.ofInt 64 imm))) = w5 at E2 K5 ⊢))
  refine bodyPost_ret (results_cell_tmp2 rfl _ _ _ _ _ _ rfl E2.out Tryd.underlying35 rfl (by kernel_rfl)) rfl ?_
  exact ⟨rfl, K5.out⟩
set_option maxHeartbeats 1000000 in
theorem do_add (d n m : Nat) (imm : Int) (R : Regs) (pc : Int) (w : World) (hT : TabsOk w) (g : InsA 2 d n m imm) :
    Calls Tryd.prog 17 #[.agg #[.int .i8 2, .int .i8 d, .int .i8 n, .int .i8 m, .int .i64 imm], .agg (regV R), .int .i64 pc] w fun e w' => e = .returned (.tuple #[.agg (regV (upd R d (R n + R m))), .int .i64 (wrap64 (pc + 1)), .int .i64 0]) ∧ Kp w w' := by
  obtain ⟨⟨d0, d8⟩, ⟨n0, n8⟩, ⟨m0, m8⟩⟩ := g.rg
  have D8 : Hid (d < 8) := Lib.hid (by omega)
  have N8 : Hid (n < 8) := Lib.hid (by omega)
  have M8 : Hid (m < 8) := Lib.hid (by omega)
  clear d0 d8 n0 n8 m0 m8
  have G := Lib.hid g; clear g
  have HT := Lib.hid hT; clear hT
  have hidx := op_at 2 2 rfl (by decide) _ rfl
  go_enter Tryd.func17, Tryd.ntmps17
  go_wp2_with fail
  refine (check_ok _ d n m imm _ (HT.out.kp (by repeat (first | exact Kp.refl _ | apply Kp.alloc))) ⟨by decide, by decide⟩ G.out).mono ?_; rintro e w1 ⟨rfl, hg⟩
  have B0 := Lib.hid ((((Blk.new w _ _).alloc _).alloc _).kp hg)
  have B1 := Lib.hid (((Blk.new2 w _ _ _).alloc _).kp hg)
  have B2 := Lib.hid ((Blk.new3 w _ _ _ _).kp hg)
  have K1 : Hid (Kp w w1) := Lib.hid (by refine Kp.trans ?_ hg; repeat (first | exact Kp.refl _ | apply Kp.alloc))
  have HS : Hid (AtDo w w1 2 w1) := Lib.hid ⟨B0.out.cell 0, B0.out.lt, Kp.refl _⟩
  clear hg
  go_wp2_with fail
  go_region_held3 (fun w' => w'.cell? ⟨w.heap.size, 0, none⟩ = some (.int .i8 2) ∧ w.heap.size < w'.heap.size ∧ Kp w1 w')
      (first | exact HS.out.drew | assumption | exact AtDo.drew (by assumption))
      (first | (go_at_call 26; rename_i hh _ _; refine (operations_any _).mono ?_; rintro e w' ⟨rfl, hg⟩; have hh' := AtDo.kp hh hg; clear hh hg))
  rename_i hh
  have HH := Lib.hid hh.2.2; clear hh hidx
  have hfn := func_nil 32
  go_wp2_with (first
    | (refine wpList_load_row rfl 24 (.tmp 3) rfl w.heap.size rfl _ _ _ _ (B0.out.kp HH.out) Tryd.underlying24 rfl (by kernel_rfl) ?_)
    | (refine wpList_load_row rfl 35 (.tmp 4) rfl (w.heap.size + 1) rfl _ _ _ _ (B1.out.kp HH.out) Tryd.underlying35 rfl (by kernel_rfl) ?_)
    | (go_at_call 32; refine (add_any 2 d n m imm R pc _ D8.out N8.out M8.out).mono ?_; rintro e w3 ⟨rfl, hg⟩; have C1 := Lib.hid (B1.out.kp (HH.out.trans hg)); have C2 := Lib.hid (B2.out.kp (HH.out.trans hg)); have K3 : Hid (Kp w w3) := Lib.hid (K1.out.trans (HH.out.trans hg)); clear hg)
    | (refine wpList_store_row rfl 35 (.tmp 4) (.tmp 32) rfl (w.heap.size + 1) (regV (upd R d (R n + R m))) rfl rfl _ _ C1.out (by kernel_rfl) rfl (regV_one _) ?_; have D1 := Lib.hid (C1.out.setRow (regV (upd R d (R n + R m)))); have D2 := Lib.hid (C2.out.setRowO (g := w.heap.size + 1) (regV (upd R d (R n + R m))) (by omega)); have K4 := Lib.hid (K3.out.setRow (g := w.heap.size + 1) (by omega) (regV (upd R d (R n + R m)))); clear C1 C2 K3; generalize w3.setRow (w.heap.size + 1) (regV (upd R d (R n + R m))) = w4 at D1 D2 K4 ⊢)
    | (refine wpList_load_row rfl 35 (.tmp 4) rfl (w.heap.size + 1) rfl _ _ _ _ D1.out Tryd.underlying35 rfl (by kernel_rfl) ?_)
    | (refine wpList_store_row rfl 35 (.tmp 6) (.tmp 34) rfl (w.heap.size + 1 + 1) (regV (upd R d (R n + R m))) rfl rfl _ _ D2.out (by kernel_rfl) rfl (regV_one _) ?_; have E2 := Lib.hid (D2.out.setRow (regV (upd R d (R n + R m)))); have K5 := Lib.hid (K4.out.setRow (g := w.heap.size + 1 + 1) (by omega) (regV (upd R d (R n + R m)))); clear D1 D2 K4; generalize w4.setRow (w.heap.size + 1 + 1) (regV (upd R d (R n + R m))) = w5 at E2 K5 ⊢))
  refine bodyPost_ret (results_cell_tmp2 rfl _ _ _ _ _ _ rfl E2.out Tryd.underlying35 rfl (by kernel_rfl)) rfl ?_
  exact ⟨rfl, K5.out⟩
set_option maxHeartbeats 1000000 in
theorem do_sub (d n m : Nat) (imm : Int) (R : Regs) (pc : Int) (w : World) (hT : TabsOk w) (g : InsA 3 d n m imm) :
    Calls Tryd.prog 17 #[.agg #[.int .i8 3, .int .i8 d, .int .i8 n, .int .i8 m, .int .i64 imm], .agg (regV R), .int .i64 pc] w fun e w' => e = .returned (.tuple #[.agg (regV (upd R d (R n - R m))), .int .i64 (wrap64 (pc + 1)), .int .i64 0]) ∧ Kp w w' := by
  obtain ⟨⟨d0, d8⟩, ⟨n0, n8⟩, ⟨m0, m8⟩⟩ := g.rg
  have D8 : Hid (d < 8) := Lib.hid (by omega)
  have N8 : Hid (n < 8) := Lib.hid (by omega)
  have M8 : Hid (m < 8) := Lib.hid (by omega)
  clear d0 d8 n0 n8 m0 m8
  have G := Lib.hid g; clear g
  have HT := Lib.hid hT; clear hT
  have hidx := op_at 3 3 rfl (by decide) _ rfl
  go_enter Tryd.func17, Tryd.ntmps17
  go_wp2_with fail
  refine (check_ok _ d n m imm _ (HT.out.kp (by repeat (first | exact Kp.refl _ | apply Kp.alloc))) ⟨by decide, by decide⟩ G.out).mono ?_; rintro e w1 ⟨rfl, hg⟩
  have B0 := Lib.hid ((((Blk.new w _ _).alloc _).alloc _).kp hg)
  have B1 := Lib.hid (((Blk.new2 w _ _ _).alloc _).kp hg)
  have B2 := Lib.hid ((Blk.new3 w _ _ _ _).kp hg)
  have K1 : Hid (Kp w w1) := Lib.hid (by refine Kp.trans ?_ hg; repeat (first | exact Kp.refl _ | apply Kp.alloc))
  have HS : Hid (AtDo w w1 3 w1) := Lib.hid ⟨B0.out.cell 0, B0.out.lt, Kp.refl _⟩
  clear hg
  go_wp2_with fail
  go_region_held3 (fun w' => w'.cell? ⟨w.heap.size, 0, none⟩ = some (.int .i8 3) ∧ w.heap.size < w'.heap.size ∧ Kp w1 w')
      (first | exact HS.out.drew | assumption | exact AtDo.drew (by assumption))
      (first | (go_at_call 26; rename_i hh _ _; refine (operations_any _).mono ?_; rintro e w' ⟨rfl, hg⟩; have hh' := AtDo.kp hh hg; clear hh hg))
  rename_i hh
  have HH := Lib.hid hh.2.2; clear hh hidx
  have hfn := func_nil 33
  go_wp2_with (first
    | (refine wpList_load_row rfl 24 (.tmp 3) rfl w.heap.size rfl _ _ _ _ (B0.out.kp HH.out) Tryd.underlying24 rfl (by kernel_rfl) ?_)
    | (refine wpList_load_row rfl 35 (.tmp 4) rfl (w.heap.size + 1) rfl _ _ _ _ (B1.out.kp HH.out) Tryd.underlying35 rfl (by kernel_rfl) ?_)
    | (go_at_call 33; refine (sub_any 3 d n m imm R pc _ D8.out N8.out M8.out).mono ?_; rintro e w3 ⟨rfl, hg⟩; have C1 := Lib.hid (B1.out.kp (HH.out.trans hg)); have C2 := Lib.hid (B2.out.kp (HH.out.trans hg)); have K3 : Hid (Kp w w3) := Lib.hid (K1.out.trans (HH.out.trans hg)); clear hg)
    | (refine wpList_store_row rfl 35 (.tmp 4) (.tmp 32) rfl (w.heap.size + 1) (regV (upd R d (R n - R m))) rfl rfl _ _ C1.out (by kernel_rfl) rfl (regV_one _) ?_; have D1 := Lib.hid (C1.out.setRow (regV (upd R d (R n - R m)))); have D2 := Lib.hid (C2.out.setRowO (g := w.heap.size + 1) (regV (upd R d (R n - R m))) (by omega)); have K4 := Lib.hid (K3.out.setRow (g := w.heap.size + 1) (by omega) (regV (upd R d (R n - R m)))); clear C1 C2 K3; generalize w3.setRow (w.heap.size + 1) (regV (upd R d (R n - R m))) = w4 at D1 D2 K4 ⊢)
    | (refine wpList_load_row rfl 35 (.tmp 4) rfl (w.heap.size + 1) rfl _ _ _ _ D1.out Tryd.underlying35 rfl (by kernel_rfl) ?_)
    | (refine wpList_store_row rfl 35 (.tmp 6) (.tmp 34) rfl (w.heap.size + 1 + 1) (regV (upd R d (R n - R m))) rfl rfl _ _ D2.out (by kernel_rfl) rfl (regV_one _) ?_; have E2 := Lib.hid (D2.out.setRow (regV (upd R d (R n - R m)))); have K5 := Lib.hid (K4.out.setRow (g := w.heap.size + 1 + 1) (by omega) (regV (upd R d (R n - R m)))); clear D1 D2 K4; generalize w4.setRow (w.heap.size + 1 + 1) (regV (upd R d (R n - R m))) = w5 at E2 K5 ⊢))
  refine bodyPost_ret (results_cell_tmp2 rfl _ _ _ _ _ _ rfl E2.out Tryd.underlying35 rfl (by kernel_rfl)) rfl ?_
  exact ⟨rfl, K5.out⟩
set_option maxHeartbeats 1000000 in
theorem do_and (d n m : Nat) (imm : Int) (R : Regs) (pc : Int) (w : World) (hT : TabsOk w) (g : InsA 4 d n m imm) :
    Calls Tryd.prog 17 #[.agg #[.int .i8 4, .int .i8 d, .int .i8 n, .int .i8 m, .int .i64 imm], .agg (regV R), .int .i64 pc] w fun e w' => e = .returned (.tuple #[.agg (regV (upd R d (R n &&& R m))), .int .i64 (wrap64 (pc + 1)), .int .i64 0]) ∧ Kp w w' := by
  obtain ⟨⟨d0, d8⟩, ⟨n0, n8⟩, ⟨m0, m8⟩⟩ := g.rg
  have D8 : Hid (d < 8) := Lib.hid (by omega)
  have N8 : Hid (n < 8) := Lib.hid (by omega)
  have M8 : Hid (m < 8) := Lib.hid (by omega)
  clear d0 d8 n0 n8 m0 m8
  have G := Lib.hid g; clear g
  have HT := Lib.hid hT; clear hT
  have hidx := op_at 4 4 rfl (by decide) _ rfl
  go_enter Tryd.func17, Tryd.ntmps17
  go_wp2_with fail
  refine (check_ok _ d n m imm _ (HT.out.kp (by repeat (first | exact Kp.refl _ | apply Kp.alloc))) ⟨by decide, by decide⟩ G.out).mono ?_; rintro e w1 ⟨rfl, hg⟩
  have B0 := Lib.hid ((((Blk.new w _ _).alloc _).alloc _).kp hg)
  have B1 := Lib.hid (((Blk.new2 w _ _ _).alloc _).kp hg)
  have B2 := Lib.hid ((Blk.new3 w _ _ _ _).kp hg)
  have K1 : Hid (Kp w w1) := Lib.hid (by refine Kp.trans ?_ hg; repeat (first | exact Kp.refl _ | apply Kp.alloc))
  have HS : Hid (AtDo w w1 4 w1) := Lib.hid ⟨B0.out.cell 0, B0.out.lt, Kp.refl _⟩
  clear hg
  go_wp2_with fail
  go_region_held3 (fun w' => w'.cell? ⟨w.heap.size, 0, none⟩ = some (.int .i8 4) ∧ w.heap.size < w'.heap.size ∧ Kp w1 w')
      (first | exact HS.out.drew | assumption | exact AtDo.drew (by assumption))
      (first | (go_at_call 26; rename_i hh _ _; refine (operations_any _).mono ?_; rintro e w' ⟨rfl, hg⟩; have hh' := AtDo.kp hh hg; clear hh hg))
  rename_i hh
  have HH := Lib.hid hh.2.2; clear hh hidx
  have hfn := func_nil 34
  go_wp2_with (first
    | (refine wpList_load_row rfl 24 (.tmp 3) rfl w.heap.size rfl _ _ _ _ (B0.out.kp HH.out) Tryd.underlying24 rfl (by kernel_rfl) ?_)
    | (refine wpList_load_row rfl 35 (.tmp 4) rfl (w.heap.size + 1) rfl _ _ _ _ (B1.out.kp HH.out) Tryd.underlying35 rfl (by kernel_rfl) ?_)
    | (go_at_call 34; refine (and_any 4 d n m imm R pc _ D8.out N8.out M8.out).mono ?_; rintro e w3 ⟨rfl, hg⟩; have C1 := Lib.hid (B1.out.kp (HH.out.trans hg)); have C2 := Lib.hid (B2.out.kp (HH.out.trans hg)); have K3 : Hid (Kp w w3) := Lib.hid (K1.out.trans (HH.out.trans hg)); clear hg)
    | (refine wpList_store_row rfl 35 (.tmp 4) (.tmp 32) rfl (w.heap.size + 1) (regV (upd R d (R n &&& R m))) rfl rfl _ _ C1.out (by kernel_rfl) rfl (regV_one _) ?_; have D1 := Lib.hid (C1.out.setRow (regV (upd R d (R n &&& R m)))); have D2 := Lib.hid (C2.out.setRowO (g := w.heap.size + 1) (regV (upd R d (R n &&& R m))) (by omega)); have K4 := Lib.hid (K3.out.setRow (g := w.heap.size + 1) (by omega) (regV (upd R d (R n &&& R m)))); clear C1 C2 K3; generalize w3.setRow (w.heap.size + 1) (regV (upd R d (R n &&& R m))) = w4 at D1 D2 K4 ⊢)
    | (refine wpList_load_row rfl 35 (.tmp 4) rfl (w.heap.size + 1) rfl _ _ _ _ D1.out Tryd.underlying35 rfl (by kernel_rfl) ?_)
    | (refine wpList_store_row rfl 35 (.tmp 6) (.tmp 34) rfl (w.heap.size + 1 + 1) (regV (upd R d (R n &&& R m))) rfl rfl _ _ D2.out (by kernel_rfl) rfl (regV_one _) ?_; have E2 := Lib.hid (D2.out.setRow (regV (upd R d (R n &&& R m)))); have K5 := Lib.hid (K4.out.setRow (g := w.heap.size + 1 + 1) (by omega) (regV (upd R d (R n &&& R m)))); clear D1 D2 K4; generalize w4.setRow (w.heap.size + 1 + 1) (regV (upd R d (R n &&& R m))) = w5 at E2 K5 ⊢))
  refine bodyPost_ret (results_cell_tmp2 rfl _ _ _ _ _ _ rfl E2.out Tryd.underlying35 rfl (by kernel_rfl)) rfl ?_
  exact ⟨rfl, K5.out⟩
set_option maxHeartbeats 1000000 in
theorem do_orr (d n m : Nat) (imm : Int) (R : Regs) (pc : Int) (w : World) (hT : TabsOk w) (g : InsA 5 d n m imm) :
    Calls Tryd.prog 17 #[.agg #[.int .i8 5, .int .i8 d, .int .i8 n, .int .i8 m, .int .i64 imm], .agg (regV R), .int .i64 pc] w fun e w' => e = .returned (.tuple #[.agg (regV (upd R d (R n ||| R m))), .int .i64 (wrap64 (pc + 1)), .int .i64 0]) ∧ Kp w w' := by
  obtain ⟨⟨d0, d8⟩, ⟨n0, n8⟩, ⟨m0, m8⟩⟩ := g.rg
  have D8 : Hid (d < 8) := Lib.hid (by omega)
  have N8 : Hid (n < 8) := Lib.hid (by omega)
  have M8 : Hid (m < 8) := Lib.hid (by omega)
  clear d0 d8 n0 n8 m0 m8
  have G := Lib.hid g; clear g
  have HT := Lib.hid hT; clear hT
  have hidx := op_at 5 5 rfl (by decide) _ rfl
  go_enter Tryd.func17, Tryd.ntmps17
  go_wp2_with fail
  refine (check_ok _ d n m imm _ (HT.out.kp (by repeat (first | exact Kp.refl _ | apply Kp.alloc))) ⟨by decide, by decide⟩ G.out).mono ?_; rintro e w1 ⟨rfl, hg⟩
  have B0 := Lib.hid ((((Blk.new w _ _).alloc _).alloc _).kp hg)
  have B1 := Lib.hid (((Blk.new2 w _ _ _).alloc _).kp hg)
  have B2 := Lib.hid ((Blk.new3 w _ _ _ _).kp hg)
  have K1 : Hid (Kp w w1) := Lib.hid (by refine Kp.trans ?_ hg; repeat (first | exact Kp.refl _ | apply Kp.alloc))
  have HS : Hid (AtDo w w1 5 w1) := Lib.hid ⟨B0.out.cell 0, B0.out.lt, Kp.refl _⟩
  clear hg
  go_wp2_with fail
  go_region_held3 (fun w' => w'.cell? ⟨w.heap.size, 0, none⟩ = some (.int .i8 5) ∧ w.heap.size < w'.heap.size ∧ Kp w1 w')
      (first | exact HS.out.drew | assumption | exact AtDo.drew (by assumption))
      (first | (go_at_call 26; rename_i hh _ _; refine (operations_any _).mono ?_; rintro e w' ⟨rfl, hg⟩; have hh' := AtDo.kp hh hg; clear hh hg))
  rename_i hh
  have HH := Lib.hid hh.2.2; clear hh hidx
  have hfn := func_nil 35
  go_wp2_with (first
    | (refine wpList_load_row rfl 24 (.tmp 3) rfl w.heap.size rfl _ _ _ _ (B0.out.kp HH.out) Tryd.underlying24 rfl (by kernel_rfl) ?_)
    | (refine wpList_load_row rfl 35 (.tmp 4) rfl (w.heap.size + 1) rfl _ _ _ _ (B1.out.kp HH.out) Tryd.underlying35 rfl (by kernel_rfl) ?_)
    | (go_at_call 35; refine (orr_any 5 d n m imm R pc _ D8.out N8.out M8.out).mono ?_; rintro e w3 ⟨rfl, hg⟩; have C1 := Lib.hid (B1.out.kp (HH.out.trans hg)); have C2 := Lib.hid (B2.out.kp (HH.out.trans hg)); have K3 : Hid (Kp w w3) := Lib.hid (K1.out.trans (HH.out.trans hg)); clear hg)
    | (refine wpList_store_row rfl 35 (.tmp 4) (.tmp 32) rfl (w.heap.size + 1) (regV (upd R d (R n ||| R m))) rfl rfl _ _ C1.out (by kernel_rfl) rfl (regV_one _) ?_; have D1 := Lib.hid (C1.out.setRow (regV (upd R d (R n ||| R m)))); have D2 := Lib.hid (C2.out.setRowO (g := w.heap.size + 1) (regV (upd R d (R n ||| R m))) (by omega)); have K4 := Lib.hid (K3.out.setRow (g := w.heap.size + 1) (by omega) (regV (upd R d (R n ||| R m)))); clear C1 C2 K3; generalize w3.setRow (w.heap.size + 1) (regV (upd R d (R n ||| R m))) = w4 at D1 D2 K4 ⊢)
    | (refine wpList_load_row rfl 35 (.tmp 4) rfl (w.heap.size + 1) rfl _ _ _ _ D1.out Tryd.underlying35 rfl (by kernel_rfl) ?_)
    | (refine wpList_store_row rfl 35 (.tmp 6) (.tmp 34) rfl (w.heap.size + 1 + 1) (regV (upd R d (R n ||| R m))) rfl rfl _ _ D2.out (by kernel_rfl) rfl (regV_one _) ?_; have E2 := Lib.hid (D2.out.setRow (regV (upd R d (R n ||| R m)))); have K5 := Lib.hid (K4.out.setRow (g := w.heap.size + 1 + 1) (by omega) (regV (upd R d (R n ||| R m)))); clear D1 D2 K4; generalize w4.setRow (w.heap.size + 1 + 1) (regV (upd R d (R n ||| R m))) = w5 at E2 K5 ⊢))
  refine bodyPost_ret (results_cell_tmp2 rfl _ _ _ _ _ _ rfl E2.out Tryd.underlying35 rfl (by kernel_rfl)) rfl ?_
  exact ⟨rfl, K5.out⟩
set_option maxHeartbeats 1000000 in
theorem do_eor (d n m : Nat) (imm : Int) (R : Regs) (pc : Int) (w : World) (hT : TabsOk w) (g : InsA 6 d n m imm) :
    Calls Tryd.prog 17 #[.agg #[.int .i8 6, .int .i8 d, .int .i8 n, .int .i8 m, .int .i64 imm], .agg (regV R), .int .i64 pc] w fun e w' => e = .returned (.tuple #[.agg (regV (upd R d (R n ^^^ R m))), .int .i64 (wrap64 (pc + 1)), .int .i64 0]) ∧ Kp w w' := by
  obtain ⟨⟨d0, d8⟩, ⟨n0, n8⟩, ⟨m0, m8⟩⟩ := g.rg
  have D8 : Hid (d < 8) := Lib.hid (by omega)
  have N8 : Hid (n < 8) := Lib.hid (by omega)
  have M8 : Hid (m < 8) := Lib.hid (by omega)
  clear d0 d8 n0 n8 m0 m8
  have G := Lib.hid g; clear g
  have HT := Lib.hid hT; clear hT
  have hidx := op_at 6 6 rfl (by decide) _ rfl
  go_enter Tryd.func17, Tryd.ntmps17
  go_wp2_with fail
  refine (check_ok _ d n m imm _ (HT.out.kp (by repeat (first | exact Kp.refl _ | apply Kp.alloc))) ⟨by decide, by decide⟩ G.out).mono ?_; rintro e w1 ⟨rfl, hg⟩
  have B0 := Lib.hid ((((Blk.new w _ _).alloc _).alloc _).kp hg)
  have B1 := Lib.hid (((Blk.new2 w _ _ _).alloc _).kp hg)
  have B2 := Lib.hid ((Blk.new3 w _ _ _ _).kp hg)
  have K1 : Hid (Kp w w1) := Lib.hid (by refine Kp.trans ?_ hg; repeat (first | exact Kp.refl _ | apply Kp.alloc))
  have HS : Hid (AtDo w w1 6 w1) := Lib.hid ⟨B0.out.cell 0, B0.out.lt, Kp.refl _⟩
  clear hg
  go_wp2_with fail
  go_region_held3 (fun w' => w'.cell? ⟨w.heap.size, 0, none⟩ = some (.int .i8 6) ∧ w.heap.size < w'.heap.size ∧ Kp w1 w')
      (first | exact HS.out.drew | assumption | exact AtDo.drew (by assumption))
      (first | (go_at_call 26; rename_i hh _ _; refine (operations_any _).mono ?_; rintro e w' ⟨rfl, hg⟩; have hh' := AtDo.kp hh hg; clear hh hg))
  rename_i hh
  have HH := Lib.hid hh.2.2; clear hh hidx
  have hfn := func_nil 36
  go_wp2_with (first
    | (refine wpList_load_row rfl 24 (.tmp 3) rfl w.heap.size rfl _ _ _ _ (B0.out.kp HH.out) Tryd.underlying24 rfl (by kernel_rfl) ?_)
    | (refine wpList_load_row rfl 35 (.tmp 4) rfl (w.heap.size + 1) rfl _ _ _ _ (B1.out.kp HH.out) Tryd.underlying35 rfl (by kernel_rfl) ?_)
    | (go_at_call 36; refine (eor_any 6 d n m imm R pc _ D8.out N8.out M8.out).mono ?_; rintro e w3 ⟨rfl, hg⟩; have C1 := Lib.hid (B1.out.kp (HH.out.trans hg)); have C2 := Lib.hid (B2.out.kp (HH.out.trans hg)); have K3 : Hid (Kp w w3) := Lib.hid (K1.out.trans (HH.out.trans hg)); clear hg)
    | (refine wpList_store_row rfl 35 (.tmp 4) (.tmp 32) rfl (w.heap.size + 1) (regV (upd R d (R n ^^^ R m))) rfl rfl _ _ C1.out (by kernel_rfl) rfl (regV_one _) ?_; have D1 := Lib.hid (C1.out.setRow (regV (upd R d (R n ^^^ R m)))); have D2 := Lib.hid (C2.out.setRowO (g := w.heap.size + 1) (regV (upd R d (R n ^^^ R m))) (by omega)); have K4 := Lib.hid (K3.out.setRow (g := w.heap.size + 1) (by omega) (regV (upd R d (R n ^^^ R m)))); clear C1 C2 K3; generalize w3.setRow (w.heap.size + 1) (regV (upd R d (R n ^^^ R m))) = w4 at D1 D2 K4 ⊢)
    | (refine wpList_load_row rfl 35 (.tmp 4) rfl (w.heap.size + 1) rfl _ _ _ _ D1.out Tryd.underlying35 rfl (by kernel_rfl) ?_)
    | (refine wpList_store_row rfl 35 (.tmp 6) (.tmp 34) rfl (w.heap.size + 1 + 1) (regV (upd R d (R n ^^^ R m))) rfl rfl _ _ D2.out (by kernel_rfl) rfl (regV_one _) ?_; have E2 := Lib.hid (D2.out.setRow (regV (upd R d (R n ^^^ R m)))); have K5 := Lib.hid (K4.out.setRow (g := w.heap.size + 1 + 1) (by omega) (regV (upd R d (R n ^^^ R m)))); clear D1 D2 K4; generalize w4.setRow (w.heap.size + 1 + 1) (regV (upd R d (R n ^^^ R m))) = w5 at E2 K5 ⊢))
  refine bodyPost_ret (results_cell_tmp2 rfl _ _ _ _ _ _ rfl E2.out Tryd.underlying35 rfl (by kernel_rfl)) rfl ?_
  exact ⟨rfl, K5.out⟩
set_option maxHeartbeats 1000000 in
theorem do_addi (d n m : Nat) (imm : Int) (R : Regs) (pc : Int) (w : World) (hT : TabsOk w) (g : InsA 7 d n m imm) :
    Calls Tryd.prog 17 #[.agg #[.int .i8 7, .int .i8 d, .int .i8 n, .int .i8 m, .int .i64 imm], .agg (regV R), .int .i64 pc] w fun e w' => e = .returned (.tuple #[.agg (regV (upd R d (R n + BitVec.ofInt 64 imm))), .int .i64 (wrap64 (pc + 1)), .int .i64 0]) ∧ Kp w w' := by
  obtain ⟨⟨d0, d8⟩, ⟨n0, n8⟩, ⟨m0, m8⟩⟩ := g.rg
  have D8 : Hid (d < 8) := Lib.hid (by omega)
  have N8 : Hid (n < 8) := Lib.hid (by omega)
  have M8 : Hid (m < 8) := Lib.hid (by omega)
  clear d0 d8 n0 n8 m0 m8
  have G := Lib.hid g; clear g
  have HT := Lib.hid hT; clear hT
  have hidx := op_at 7 7 rfl (by decide) _ rfl
  go_enter Tryd.func17, Tryd.ntmps17
  go_wp2_with fail
  refine (check_ok _ d n m imm _ (HT.out.kp (by repeat (first | exact Kp.refl _ | apply Kp.alloc))) ⟨by decide, by decide⟩ G.out).mono ?_; rintro e w1 ⟨rfl, hg⟩
  have B0 := Lib.hid ((((Blk.new w _ _).alloc _).alloc _).kp hg)
  have B1 := Lib.hid (((Blk.new2 w _ _ _).alloc _).kp hg)
  have B2 := Lib.hid ((Blk.new3 w _ _ _ _).kp hg)
  have K1 : Hid (Kp w w1) := Lib.hid (by refine Kp.trans ?_ hg; repeat (first | exact Kp.refl _ | apply Kp.alloc))
  have HS : Hid (AtDo w w1 7 w1) := Lib.hid ⟨B0.out.cell 0, B0.out.lt, Kp.refl _⟩
  clear hg
  go_wp2_with fail
  go_region_held3 (fun w' => w'.cell? ⟨w.heap.size, 0, none⟩ = some (.int .i8 7) ∧ w.heap.size < w'.heap.size ∧ Kp w1 w')
      (first | exact HS.out.drew | assumption | exact AtDo.drew (by assumption))
      (first | (go_at_call 26; rename_i hh _ _; refine (operations_any _).mono ?_; rintro e w' ⟨rfl, hg⟩; have hh' := AtDo.kp hh hg; clear hh hg))
  rename_i hh
  have HH := Lib.hid hh.2.2; clear hh hidx
  have hfn := func_nil 37
  go_wp2_with (first
    | (refine wpList_load_row rfl 24 (.tmp 3) rfl w.heap.size rfl _ _ _ _ (B0.out.kp HH.out) Tryd.underlying24 rfl (by kernel_rfl) ?_)
    | (refine wpList_load_row rfl 35 (.tmp 4) rfl (w.heap.size + 1) rfl _ _ _ _ (B1.out.kp HH.out) Tryd.underlying35 rfl (by kernel_rfl) ?_)
    | (go_at_call 37; refine (addi_any 7 d n m imm R pc _ D8.out N8.out).mono ?_; rintro e w3 ⟨rfl, hg⟩; have C1 := Lib.hid (B1.out.kp (HH.out.trans hg)); have C2 := Lib.hid (B2.out.kp (HH.out.trans hg)); have K3 : Hid (Kp w w3) := Lib.hid (K1.out.trans (HH.out.trans hg)); clear hg)
    | (refine wpList_store_row rfl 35 (.tmp 4) (.tmp 32) rfl (w.heap.size + 1) (regV (upd R d (R n + BitVec.ofInt 64 imm))) rfl rfl _ _ C1.out (by kernel_rfl) rfl (regV_one _) ?_; have D1 := Lib.hid (C1.out.setRow (regV (upd R d (R n + BitVec.ofInt 64 imm)))); have D2 := Lib.hid (C2.out.setRowO (g := w.heap.size + 1) (regV (upd R d (R n + BitVec.ofInt 64 imm))) (by omega)); have K4 := Lib.hid (K3.out.setRow (g := w.heap.size + 1) (by omega) (regV (upd R d (R n + BitVec.ofInt 64 imm)))); clear C1 C2 K3; generalize w3.setRow (w.heap.size + 1) (regV (upd R d (R n + BitVec.ofInt 64 imm))) = w4 at D1 D2 K4 ⊢)
    | (refine wpList_load_row rfl 35 (.tmp 4) rfl (w.heap.size + 1) rfl _ _ _ _ D1.out Tryd.underlying35 rfl (by kernel_rfl) ?_)
    | (refine wpList_store_row rfl 35 (.tmp 6) (.tmp 34) rfl (w.heap.size + 1 + 1) (regV (upd R d (R n + BitVec.ofInt 64 imm))) rfl rfl _ _ D2.out (by kernel_rfl) rfl (regV_one _) ?_; have E2 := Lib.hid (D2.out.setRow (regV (upd R d (R n + BitVec.ofInt 64 imm)))); have K5 := Lib.hid (K4.out.setRow (g := w.heap.size + 1 + 1) (by omega) (regV (upd R d (R n + BitVec.ofInt 64 imm)))); clear D1 D2 K4; generalize w4.setRow (w.heap.size + 1 + 1) (regV (upd R d (R n + BitVec.ofInt 64 imm))) = w5 at E2 K5 ⊢))
  refine bodyPost_ret (results_cell_tmp2 rfl _ _ _ _ _ _ rfl E2.out Tryd.underlying35 rfl (by kernel_rfl)) rfl ?_
  exact ⟨rfl, K5.out⟩
set_option maxHeartbeats 1000000 in
theorem do_jump (d n m : Nat) (imm : Int) (R : Regs) (pc : Int) (w : World) (hT : TabsOk w) (g : InsA 14 d n m imm) :
    Calls Tryd.prog 17 #[.agg #[.int .i8 14, .int .i8 d, .int .i8 n, .int .i8 m, .int .i64 imm], .agg (regV R), .int .i64 pc] w fun e w' => e = .returned (.tuple #[.agg (regV (R)), .int .i64 (wrap64 (pc + imm)), .int .i64 0]) ∧ Kp w w' := by
  obtain ⟨⟨d0, d8⟩, ⟨n0, n8⟩, ⟨m0, m8⟩⟩ := g.rg
  have D8 : Hid (d < 8) := Lib.hid (by omega)
  have N8 : Hid (n < 8) := Lib.hid (by omega)
  have M8 : Hid (m < 8) := Lib.hid (by omega)
  clear d0 d8 n0 n8 m0 m8
  have G := Lib.hid g; clear g
  have HT := Lib.hid hT; clear hT
  have hidx := op_at 14 14 rfl (by decide) _ rfl
  go_enter Tryd.func17, Tryd.ntmps17
  go_wp2_with fail
  refine (check_ok _ d n m imm _ (HT.out.kp (by repeat (first | exact Kp.refl _ | apply Kp.alloc))) ⟨by decide, by decide⟩ G.out).mono ?_; rintro e w1 ⟨rfl, hg⟩
  have B0 := Lib.hid ((((Blk.new w _ _).alloc _).alloc _).kp hg)
  have B1 := Lib.hid (((Blk.new2 w _ _ _).alloc _).kp hg)
  have B2 := Lib.hid ((Blk.new3 w _ _ _ _).kp hg)
  have K1 : Hid (Kp w w1) := Lib.hid (by refine Kp.trans ?_ hg; repeat (first | exact Kp.refl _ | apply Kp.alloc))
  have HS : Hid (AtDo w w1 14 w1) := Lib.hid ⟨B0.out.cell 0, B0.out.lt, Kp.refl _⟩
  clear hg
  go_wp2_with fail
  go_region_held3 (fun w' => w'.cell? ⟨w.heap.size, 0, none⟩ = some (.int .i8 14) ∧ w.heap.size < w'.heap.size ∧ Kp w1 w')
      (first | exact HS.out.drew | assumption | exact AtDo.drew (by assumption))
      (first | (go_at_call 26; rename_i hh _ _; refine (operations_any _).mono ?_; rintro e w' ⟨rfl, hg⟩; have hh' := AtDo.kp hh hg; clear hh hg))
  rename_i hh
  have HH := Lib.hid hh.2.2; clear hh hidx
  have hfn := func_nil 38
  go_wp2_with (first
    | (refine wpList_load_row rfl 24 (.tmp 3) rfl w.heap.size rfl _ _ _ _ (B0.out.kp HH.out) Tryd.underlying24 rfl (by kernel_rfl) ?_)
    | (refine wpList_load_row rfl 35 (.tmp 4) rfl (w.heap.size + 1) rfl _ _ _ _ (B1.out.kp HH.out) Tryd.underlying35 rfl (by kernel_rfl) ?_)
    | (go_at_call 38; refine (jump_any 14 d n m imm R pc _).mono ?_; rintro e w3 ⟨rfl, hg⟩; have C1 := Lib.hid (B1.out.kp (HH.out.trans hg)); have C2 := Lib.hid (B2.out.kp (HH.out.trans hg)); have K3 : Hid (Kp w w3) := Lib.hid (K1.out.trans (HH.out.trans hg)); clear hg)
    | (refine wpList_store_row rfl 35 (.tmp 4) (.tmp 32) rfl (w.heap.size + 1) (regV (R)) rfl rfl _ _ C1.out (by kernel_rfl) rfl (regV_one _) ?_; have D1 := Lib.hid (C1.out.setRow (regV (R))); have D2 := Lib.hid (C2.out.setRowO (g := w.heap.size + 1) (regV (R)) (by omega)); have K4 := Lib.hid (K3.out.setRow (g := w.heap.size + 1) (by omega) (regV (R))); clear C1 C2 K3; generalize w3.setRow (w.heap.size + 1) (regV (R)) = w4 at D1 D2 K4 ⊢)
    | (refine wpList_load_row rfl 35 (.tmp 4) rfl (w.heap.size + 1) rfl _ _ _ _ D1.out Tryd.underlying35 rfl (by kernel_rfl) ?_)
    | (refine wpList_store_row rfl 35 (.tmp 6) (.tmp 34) rfl (w.heap.size + 1 + 1) (regV (R)) rfl rfl _ _ D2.out (by kernel_rfl) rfl (regV_one _) ?_; have E2 := Lib.hid (D2.out.setRow (regV (R))); have K5 := Lib.hid (K4.out.setRow (g := w.heap.size + 1 + 1) (by omega) (regV (R))); clear D1 D2 K4; generalize w4.setRow (w.heap.size + 1 + 1) (regV (R)) = w5 at E2 K5 ⊢))
  refine bodyPost_ret (results_cell_tmp2 rfl _ _ _ _ _ _ rfl E2.out Tryd.underlying35 rfl (by kernel_rfl)) rfl ?_
  exact ⟨rfl, K5.out⟩
set_option maxHeartbeats 1000000 in
theorem do_jz (d n m : Nat) (imm : Int) (R : Regs) (pc : Int) (w : World) (hT : TabsOk w) (g : InsA 15 d n m imm) :
    Calls Tryd.prog 17 #[.agg #[.int .i8 15, .int .i8 d, .int .i8 n, .int .i8 m, .int .i64 imm], .agg (regV R), .int .i64 pc] w fun e w' => e = .returned (.tuple #[.agg (regV (R)), .int .i64 (wrap64 (pc + (if R d = 0#64 then imm else 1))), .int .i64 0]) ∧ Kp w w' := by
  obtain ⟨⟨d0, d8⟩, ⟨n0, n8⟩, ⟨m0, m8⟩⟩ := g.rg
  have D8 : Hid (d < 8) := Lib.hid (by omega)
  have N8 : Hid (n < 8) := Lib.hid (by omega)
  have M8 : Hid (m < 8) := Lib.hid (by omega)
  clear d0 d8 n0 n8 m0 m8
  have G := Lib.hid g; clear g
  have HT := Lib.hid hT; clear hT
  have hidx := op_at 15 15 rfl (by decide) _ rfl
  go_enter Tryd.func17, Tryd.ntmps17
  go_wp2_with fail
  refine (check_ok _ d n m imm _ (HT.out.kp (by repeat (first | exact Kp.refl _ | apply Kp.alloc))) ⟨by decide, by decide⟩ G.out).mono ?_; rintro e w1 ⟨rfl, hg⟩
  have B0 := Lib.hid ((((Blk.new w _ _).alloc _).alloc _).kp hg)
  have B1 := Lib.hid (((Blk.new2 w _ _ _).alloc _).kp hg)
  have B2 := Lib.hid ((Blk.new3 w _ _ _ _).kp hg)
  have K1 : Hid (Kp w w1) := Lib.hid (by refine Kp.trans ?_ hg; repeat (first | exact Kp.refl _ | apply Kp.alloc))
  have HS : Hid (AtDo w w1 15 w1) := Lib.hid ⟨B0.out.cell 0, B0.out.lt, Kp.refl _⟩
  clear hg
  go_wp2_with fail
  go_region_held3 (fun w' => w'.cell? ⟨w.heap.size, 0, none⟩ = some (.int .i8 15) ∧ w.heap.size < w'.heap.size ∧ Kp w1 w')
      (first | exact HS.out.drew | assumption | exact AtDo.drew (by assumption))
      (first | (go_at_call 26; rename_i hh _ _; refine (operations_any _).mono ?_; rintro e w' ⟨rfl, hg⟩; have hh' := AtDo.kp hh hg; clear hh hg))
  rename_i hh
  have HH := Lib.hid hh.2.2; clear hh hidx
  have hfn := func_nil 39
  go_wp2_with (first
    | (refine wpList_load_row rfl 24 (.tmp 3) rfl w.heap.size rfl _ _ _ _ (B0.out.kp HH.out) Tryd.underlying24 rfl (by kernel_rfl) ?_)
    | (refine wpList_load_row rfl 35 (.tmp 4) rfl (w.heap.size + 1) rfl _ _ _ _ (B1.out.kp HH.out) Tryd.underlying35 rfl (by kernel_rfl) ?_)
    | (go_at_call 39; refine (jz_any 15 d n m imm R pc _ D8.out).mono ?_; rintro e w3 ⟨rfl, hg⟩; have C1 := Lib.hid (B1.out.kp (HH.out.trans hg)); have C2 := Lib.hid (B2.out.kp (HH.out.trans hg)); have K3 : Hid (Kp w w3) := Lib.hid (K1.out.trans (HH.out.trans hg)); clear hg)
    | (refine wpList_store_row rfl 35 (.tmp 4) (.tmp 32) rfl (w.heap.size + 1) (regV (R)) rfl rfl _ _ C1.out (by kernel_rfl) rfl (regV_one _) ?_; have D1 := Lib.hid (C1.out.setRow (regV (R))); have D2 := Lib.hid (C2.out.setRowO (g := w.heap.size + 1) (regV (R)) (by omega)); have K4 := Lib.hid (K3.out.setRow (g := w.heap.size + 1) (by omega) (regV (R))); clear C1 C2 K3; generalize w3.setRow (w.heap.size + 1) (regV (R)) = w4 at D1 D2 K4 ⊢)
    | (refine wpList_load_row rfl 35 (.tmp 4) rfl (w.heap.size + 1) rfl _ _ _ _ D1.out Tryd.underlying35 rfl (by kernel_rfl) ?_)
    | (refine wpList_store_row rfl 35 (.tmp 6) (.tmp 34) rfl (w.heap.size + 1 + 1) (regV (R)) rfl rfl _ _ D2.out (by kernel_rfl) rfl (regV_one _) ?_; have E2 := Lib.hid (D2.out.setRow (regV (R))); have K5 := Lib.hid (K4.out.setRow (g := w.heap.size + 1 + 1) (by omega) (regV (R))); clear D1 D2 K4; generalize w4.setRow (w.heap.size + 1 + 1) (regV (R)) = w5 at E2 K5 ⊢))
  all_goals
    refine bodyPost_ret (results_cell_tmp2 rfl _ _ _ _ _ _ rfl E2.out Tryd.underlying35 rfl (by kernel_rfl)) rfl ?_
    exact ⟨rfl, K5.out⟩
set_option maxHeartbeats 1000000 in
theorem do_jnz (d n m : Nat) (imm : Int) (R : Regs) (pc : Int) (w : World) (hT : TabsOk w) (g : InsA 16 d n m imm) :
    Calls Tryd.prog 17 #[.agg #[.int .i8 16, .int .i8 d, .int .i8 n, .int .i8 m, .int .i64 imm], .agg (regV R), .int .i64 pc] w fun e w' => e = .returned (.tuple #[.agg (regV (R)), .int .i64 (wrap64 (pc + (if R d = 0#64 then 1 else imm))), .int .i64 0]) ∧ Kp w w' := by
  obtain ⟨⟨d0, d8⟩, ⟨n0, n8⟩, ⟨m0, m8⟩⟩ := g.rg
  have D8 : Hid (d < 8) := Lib.hid (by omega)
  have N8 : Hid (n < 8) := Lib.hid (by omega)
  have M8 : Hid (m < 8) := Lib.hid (by omega)
  clear d0 d8 n0 n8 m0 m8
  have G := Lib.hid g; clear g
  have HT := Lib.hid hT; clear hT
  have hidx := op_at 16 16 rfl (by decide) _ rfl
  go_enter Tryd.func17, Tryd.ntmps17
  go_wp2_with fail
  refine (check_ok _ d n m imm _ (HT.out.kp (by repeat (first | exact Kp.refl _ | apply Kp.alloc))) ⟨by decide, by decide⟩ G.out).mono ?_; rintro e w1 ⟨rfl, hg⟩
  have B0 := Lib.hid ((((Blk.new w _ _).alloc _).alloc _).kp hg)
  have B1 := Lib.hid (((Blk.new2 w _ _ _).alloc _).kp hg)
  have B2 := Lib.hid ((Blk.new3 w _ _ _ _).kp hg)
  have K1 : Hid (Kp w w1) := Lib.hid (by refine Kp.trans ?_ hg; repeat (first | exact Kp.refl _ | apply Kp.alloc))
  have HS : Hid (AtDo w w1 16 w1) := Lib.hid ⟨B0.out.cell 0, B0.out.lt, Kp.refl _⟩
  clear hg
  go_wp2_with fail
  go_region_held3 (fun w' => w'.cell? ⟨w.heap.size, 0, none⟩ = some (.int .i8 16) ∧ w.heap.size < w'.heap.size ∧ Kp w1 w')
      (first | exact HS.out.drew | assumption | exact AtDo.drew (by assumption))
      (first | (go_at_call 26; rename_i hh _ _; refine (operations_any _).mono ?_; rintro e w' ⟨rfl, hg⟩; have hh' := AtDo.kp hh hg; clear hh hg))
  rename_i hh
  have HH := Lib.hid hh.2.2; clear hh hidx
  have hfn := func_nil 40
  go_wp2_with (first
    | (refine wpList_load_row rfl 24 (.tmp 3) rfl w.heap.size rfl _ _ _ _ (B0.out.kp HH.out) Tryd.underlying24 rfl (by kernel_rfl) ?_)
    | (refine wpList_load_row rfl 35 (.tmp 4) rfl (w.heap.size + 1) rfl _ _ _ _ (B1.out.kp HH.out) Tryd.underlying35 rfl (by kernel_rfl) ?_)
    | (go_at_call 40; refine (jnz_any 16 d n m imm R pc _ D8.out).mono ?_; rintro e w3 ⟨rfl, hg⟩; have C1 := Lib.hid (B1.out.kp (HH.out.trans hg)); have C2 := Lib.hid (B2.out.kp (HH.out.trans hg)); have K3 : Hid (Kp w w3) := Lib.hid (K1.out.trans (HH.out.trans hg)); clear hg)
    | (refine wpList_store_row rfl 35 (.tmp 4) (.tmp 32) rfl (w.heap.size + 1) (regV (R)) rfl rfl _ _ C1.out (by kernel_rfl) rfl (regV_one _) ?_; have D1 := Lib.hid (C1.out.setRow (regV (R))); have D2 := Lib.hid (C2.out.setRowO (g := w.heap.size + 1) (regV (R)) (by omega)); have K4 := Lib.hid (K3.out.setRow (g := w.heap.size + 1) (by omega) (regV (R))); clear C1 C2 K3; generalize w3.setRow (w.heap.size + 1) (regV (R)) = w4 at D1 D2 K4 ⊢)
    | (refine wpList_load_row rfl 35 (.tmp 4) rfl (w.heap.size + 1) rfl _ _ _ _ D1.out Tryd.underlying35 rfl (by kernel_rfl) ?_)
    | (refine wpList_store_row rfl 35 (.tmp 6) (.tmp 34) rfl (w.heap.size + 1 + 1) (regV (R)) rfl rfl _ _ D2.out (by kernel_rfl) rfl (regV_one _) ?_; have E2 := Lib.hid (D2.out.setRow (regV (R))); have K5 := Lib.hid (K4.out.setRow (g := w.heap.size + 1 + 1) (by omega) (regV (R))); clear D1 D2 K4; generalize w4.setRow (w.heap.size + 1 + 1) (regV (R)) = w5 at E2 K5 ⊢))
  all_goals
    refine bodyPost_ret (results_cell_tmp2 rfl _ _ _ _ _ _ rfl E2.out Tryd.underlying35 rfl (by kernel_rfl)) rfl ?_
    exact ⟨rfl, K5.out⟩
set_option maxHeartbeats 1000000 in
theorem do_not (o : Nat) (d n m : Nat) (imm : Int) (R : Regs) (pc : Int) (w : World) (hT : TabsOk w) (ho : o = 8 ∨ o = 9 ∨ o = 10 ∨ o = 11 ∨ o = 12 ∨ o = 13 ∨ o = 17 ∨ o = 18) (g : InsA o d n m imm) :
    Calls Tryd.prog 17 #[.agg #[.int .i8 o, .int .i8 d, .int .i8 n, .int .i8 m, .int .i64 imm], .agg (regV R), .int .i64 pc] w fun e w' => e = .returned (.tuple #[.agg (regV R), .int .i64 pc, .int .i64 21]) ∧ Kp w w' := by
  have G := Lib.hid g; clear g
  have HT := Lib.hid hT; clear hT
  have hidx := op_at o o rfl (by omega) .nilFunc (by rcases ho with rfl | rfl | rfl | rfl | rfl | rfl | rfl | rfl <;> rfl)
  have o0 : (0 : Int) ≤ (o : Int) := by omega
  have o19 : (o : Int) < 19 := by omega
  have hnn := nil_nil
  clear ho
  go_enter Tryd.func17, Tryd.ntmps17
  go_wp2_with fail
  refine (check_ok _ d n m imm _ (HT.out.kp (by repeat (first | exact Kp.refl _ | apply Kp.alloc))) ⟨by omega, by omega⟩ G.out).mono ?_; rintro e w1 ⟨rfl, hg⟩
  have B0 := Lib.hid ((((Blk.new w _ _).alloc _).alloc _).kp hg)
  have B1 := Lib.hid (((Blk.new2 w _ _ _).alloc _).kp hg)
  have B2 := Lib.hid ((Blk.new3 w _ _ _ _).kp hg)
  have K1 : Hid (Kp w w1) := Lib.hid (by refine Kp.trans ?_ hg; repeat (first | exact Kp.refl _ | apply Kp.alloc))
  have HS : Hid (AtDo w w1 o w1) := Lib.hid ⟨B0.out.cell 0, B0.out.lt, Kp.refl _⟩
  clear hg
  go_wp2_with fail
  go_region_held3 (fun w' => w'.cell? ⟨w.heap.size, 0, none⟩ = some (.int .i8 o) ∧ w.heap.size < w'.heap.size ∧ Kp w1 w')
      (first | exact HS.out.drew | assumption | exact AtDo.drew (by assumption))
      (first | (go_at_call 26; rename_i hh _ _; refine (operations_any _).mono ?_; rintro e w' ⟨rfl, hg⟩; have hh' := AtDo.kp hh hg; clear hh hg))
  rename_i hh
  have HH := Lib.hid hh.2.2; clear hh hidx
  go_wp2_with (first
    | (refine wpList_load_row rfl 35 (.tmp 4) rfl (w.heap.size + 1) rfl _ _ _ _ (B1.out.kp HH.out) Tryd.underlying35 rfl (by kernel_rfl) ?_)
    | (refine wpList_store_row rfl 35 (.tmp 6) (.tmp 24) rfl (w.heap.size + 1 + 1) (regV R) rfl rfl _ _ (B2.out.kp HH.out) (by kernel_rfl) rfl (regV_one _) ?_; have E2 := Lib.hid ((B2.out.kp HH.out).setRow (regV R)); have K5 := Lib.hid ((K1.out.trans HH.out).setRow (g := w.heap.size + 1 + 1) (by omega) (regV R))))
  refine bodyPost_ret (results_cell_tmp2 rfl _ _ _ _ _ _ rfl E2.out Tryd.underlying35 rfl (by kernel_rfl)) rfl ?_
  exact ⟨rfl, K5.out⟩
set_option maxHeartbeats 1000000 in
theorem do_bad (op d n m imm : Int) (R : Regs) (pc : Int) (w : World) (hT : TabsOk w) (hop : -128 ≤ op ∧ op < 128) (g : ¬ InsA op d n m imm) :
    Calls Tryd.prog 17 #[.agg #[.int .i8 op, .int .i8 d, .int .i8 n, .int .i8 m, .int .i64 imm], .agg (regV R), .int .i64 pc] w fun e w' => e = .returned (.tuple #[.agg (regV R), .int .i64 pc, .int .i64 60]) ∧ Kp w w' := by
  have G := Lib.hid g; clear g
  have HT := Lib.hid hT; clear hT
  have HP := Lib.hid hop; clear hop
  go_enter Tryd.func17, Tryd.ntmps17
  go_wp2_with fail
  refine (check_bad _ d n m imm _ (HT.out.kp (by repeat (first | exact Kp.refl _ | apply Kp.alloc))) HP.out G.out).mono ?_; rintro e w1 ⟨rfl, hg⟩
  have B1 := Lib.hid (((Blk.new2 w _ _ _).alloc _).kp hg)
  have B2 := Lib.hid ((Blk.new3 w _ _ _ _).kp hg)
  have K1 : Hid (Kp w w1) := Lib.hid (by refine Kp.trans ?_ hg; repeat (first | exact Kp.refl _ | apply Kp.alloc))
  clear hg
  go_wp2_with (first
    | (refine wpList_load_row rfl 35 (.tmp 4) rfl (w.heap.size + 1) rfl _ _ _ _ B1.out Tryd.underlying35 rfl (by kernel_rfl) ?_)
    | (refine wpList_store_row rfl 35 (.tmp 6) (.tmp 15) rfl (w.heap.size + 1 + 1) (regV R) rfl rfl _ _ B2.out (by kernel_rfl) rfl (regV_one _) ?_; have E2 := Lib.hid (B2.out.setRow (regV R)); have K5 := Lib.hid (K1.out.setRow (g := w.heap.size + 1 + 1) (by omega) (regV R))))
  refine bodyPost_ret (results_cell_tmp2 rfl _ _ _ _ _ _ rfl E2.out Tryd.underlying35 rfl (by kernel_rfl)) rfl ?_
  exact ⟨rfl, K5.out⟩

/-! Over all operations. -/
def AluO (o : Nat) : Prop := o ≤ 7 ∨ o = 14 ∨ o = 15 ∨ o = 16
instance (o : Nat) : Decidable (AluO o) := by unfold AluO; infer_instance
def doR (o d n m : Nat) (imm : Int) (R : Regs) : Regs := match o with
  | 1 => upd R d (BitVec.ofInt 64 imm)
  | 2 => upd R d (R n + R m)
  | 3 => upd R d (R n - R m)
  | 4 => upd R d (R n &&& R m)
  | 5 => upd R d (R n ||| R m)
  | 6 => upd R d (R n ^^^ R m)
  | 7 => upd R d (R n + BitVec.ofInt 64 imm)
  | _ => R
def stepI (o d : Nat) (imm : Int) (R : Regs) : Int := match o with
  | 14 => imm
  | 15 => if R d = 0#64 then imm else 1
  | 16 => if R d = 0#64 then 1 else imm
  | _ => 1
theorem do_alu (o d n m : Nat) (imm : Int) (R : Regs) (pc : Int) (w : World) (hT : TabsOk w) (ho : AluO o) (g : InsA o d n m imm) :
    Calls Tryd.prog 17 #[.agg #[.int .i8 o, .int .i8 d, .int .i8 n, .int .i8 m, .int .i64 imm], .agg (regV R), .int .i64 pc] w fun e w' => e = .returned (.tuple #[.agg (regV (doR o d n m imm R)), .int .i64 (wrap64 (pc + stepI o d imm R)), .int .i64 0]) ∧ Kp w w' := by
  have h : o = 0 ∨ o = 1 ∨ o = 2 ∨ o = 3 ∨ o = 4 ∨ o = 5 ∨ o = 6 ∨ o = 7 ∨ o = 14 ∨ o = 15 ∨ o = 16 := by unfold AluO at ho; omega
  rcases h with rfl | rfl | rfl | rfl | rfl | rfl | rfl | rfl | rfl | rfl | rfl
  · exact do_nop d n m imm R pc w hT g
  · exact do_mov d n m imm R pc w hT g
  · exact do_add d n m imm R pc w hT g
  · exact do_sub d n m imm R pc w hT g
  · exact do_and d n m imm R pc w hT g
  · exact do_orr d n m imm R pc w hT g
  · exact do_eor d n m imm R pc w hT g
  · exact do_addi d n m imm R pc w hT g
  · exact do_jump d n m imm R pc w hT g
  · exact do_jz d n m imm R pc w hT g
  · exact do_jnz d n m imm R pc w hT g
end Go.Proofs.YtieffpgiliebmaaDoor
