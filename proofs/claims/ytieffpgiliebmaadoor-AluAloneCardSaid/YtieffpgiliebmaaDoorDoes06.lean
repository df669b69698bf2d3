/-
  AluDoes returns true. No condition but the table.
-/
import Derived.Test.YtieffpgiliebmaaDoorTells06
import Derived.ChangeKeysEq
namespace Go.Proofs.YtieffpgiliebmaaDoor
open Go Go.RowKit

theorem eq_regs (R : Regs) (w : World) : (Op.equalIn 10000 35 (.agg (regV R)) (.agg (regV R))).run Tryd.prog w = .ok true w := by
  cases hi : Tryd.prog.info? 34 with
  | none => exact absurd (show (Tryd.prog.info? 34).isSome = true by kernel_rfl) (by rw [hi]; simp)
  | some i =>
    show (Op.equalIn (9999 + 1) 35 (.agg (regV R)) (.agg (regV R))).run Tryd.prog w = .ok true w
    rw [run_equalIn_array w 9999 _ _ Tryd.underlying35 hi]
    have hc : Tryd.prog.cellsOf 34 = 1 := by kernel_rfl
    have hp : ∀ (k : Nat) (v : Value), (regV R)[k]? = some v → (part 34 (regV R) k).run Tryd.prog w = .ok v w := fun k v hv => run_part_plain w (by kernel_rfl) hv
    have he : ∀ a : Int, (Op.equalIn 9999 34 (.int .u64 a) (.int .u64 a)).run Tryd.prog w = .ok true w := by
      intro a
      have := run_equalIn_int (P := Tryd.prog) w 9998 34 .u64 .u64 a a Tryd.underlying34
      rw [this]; simp
    rw [hc, show List.range 8 = [0, 1, 2, 3, 4, 5, 6, 7] from rfl]
    have s : ∀ (k : Nat) (ks : List Nat) (x : BitVec 64), (regV R)[k]? = some (.int .u64 x.toNat) → (Op.eqItems 9999 34 1 (regV R) (regV R) (k :: ks)).run Tryd.prog w = (Op.eqItems 9999 34 1 (regV R) (regV R) ks).run Tryd.prog w := by
      intro k ks x hx
      have h1 := hp k _ hx
      simp only [Op.eqItems, Sem.run_bind, Nat.mul_one, h1, Result.andThen_ok, he, Bool.not_true, Bool.false_eq_true, if_false]
    rw [s 0 _ (R 0) rfl, s 1 _ (R 1) rfl, s 2 _ (R 2) rfl, s 3 _ (R 3) rfl, s 4 _ (R 4) rfl, s 5 _ (R 5) rfl, s 6 _ (R 6) rfl, s 7 _ (R 7) rfl]
    simp [Op.eqItems]

/-- What both answer to one question. -/
theorem do_both (op d n m imm : Int) (R : Regs) (pc : Int) (hop : -128 ≤ op ∧ op < 128) : ∃ (R' : Regs) (pc' e : Int),
    (∀ w, TabsOk w → Calls Tryd.prog 17 #[.agg #[.int .i8 op, .int .i8 d, .int .i8 n, .int .i8 m, .int .i64 imm], .agg (regV R), .int .i64 pc] w fun x w' => x = .returned (.tuple #[.agg (regV R'), .int .i64 pc', .int .i64 e]) ∧ Kp w w') ∧
    (∀ w, Calls Tryd.prog 18 #[.agg #[.int .i8 op, .int .i8 d, .int .i8 n, .int .i8 m, .int .i64 imm], .agg (regV R), .int .i64 pc] w fun x w' => x = .returned (.tuple #[.agg (regV R'), .int .i64 pc', .int .i64 e]) ∧ Kp w w') := by
  by_cases g : InsA op d n m imm
  · obtain ⟨o, rfl⟩ := Int.eq_ofNat_of_zero_le g.1
    obtain ⟨⟨d0, d8⟩, ⟨n0, n8⟩, ⟨m0, m8⟩⟩ := g.rg
    obtain ⟨d, rfl⟩ := Int.eq_ofNat_of_zero_le d0
    obtain ⟨n, rfl⟩ := Int.eq_ofNat_of_zero_le n0
    obtain ⟨m, rfl⟩ := Int.eq_ofNat_of_zero_le m0
    have ho : o < 19 := by have := g.2.1; omega
    by_cases a : AluO o
    · exact ⟨_, _, _, fun w hT => do_alu o d n m imm R pc w hT a g, fun w => rdo_alu o d n m imm R pc w a g⟩
    · have b : o = 8 ∨ o = 9 ∨ o = 10 ∨ o = 11 ∨ o = 12 ∨ o = 13 ∨ o = 17 ∨ o = 18 := by unfold AluO at a; omega
      exact ⟨_, _, _, fun w hT => do_not o d n m imm R pc w hT b g, fun w => rdo_not o d n m imm R pc w b g⟩
  · exact ⟨_, _, _, fun w hT => do_bad op d n m imm R pc w hT hop g, fun w => rdo_bad op d n m imm R pc w g⟩

/-- Eight words are some registers. -/
theorem regs_of (a0 a1 a2 a3 a4 a5 a6 a7 : Int) (h0 : (Lit.int .u64 a0).wf = true) (h1 : (Lit.int .u64 a1).wf = true) (h2 : (Lit.int .u64 a2).wf = true) (h3 : (Lit.int .u64 a3).wf = true) (h4 : (Lit.int .u64 a4).wf = true) (h5 : (Lit.int .u64 a5).wf = true) (h6 : (Lit.int .u64 a6).wf = true) (h7 : (Lit.int .u64 a7).wf = true) : ∃ R : Regs, #[.int .u64 a0, .int .u64 a1, .int .u64 a2, .int .u64 a3, .int .u64 a4, .int .u64 a5, .int .u64 a6, .int .u64 a7] = regV R := by
  obtain ⟨x0, rfl⟩ := word_of a0 h0
  obtain ⟨x1, rfl⟩ := word_of a1 h1
  obtain ⟨x2, rfl⟩ := word_of a2 h2
  obtain ⟨x3, rfl⟩ := word_of a3 h3
  obtain ⟨x4, rfl⟩ := word_of a4 h4
  obtain ⟨x5, rfl⟩ := word_of a5 h5
  obtain ⟨x6, rfl⟩ := word_of a6 h6
  obtain ⟨x7, rfl⟩ := word_of a7 h7
  exact ⟨fun k => [x0, x1, x2, x3, x4, x5, x6, x7].getD k 0#64, rfl⟩
set_option maxHeartbeats 2000000 in
theorem walkDoes (op d n m imm : Int) (R : Regs) (pc : Int) (w : World) (hT : TabsOk w) (wc : (Lit.int .i8 op).wf = true) :
    Calls Tryd.prog 4 #[.agg #[.int .i8 op, .int .i8 d, .int .i8 n, .int .i8 m, .int .i64 imm], .agg (regV R), .int .i64 pc] w fun e w' => e = .returned (.bool true) ∧ Kp w w' := by
  have HT := Lib.hid hT
  obtain ⟨R', pc', er, hd, hr⟩ := do_both op d n m imm R pc (i8_of op wc)
  have HD := Lib.hid hd
  have HR := Lib.hid hr
  have HE := eq_regs R'
  clear hT wc hd hr
  by_cases hlo : pc < -2147483648
  · go_enter Tryd.func4, Tryd.ntmps4
    go_wp2_with fail
    refine (wakes_any _ (HT.out.kp (by repeat (first | exact Kp.refl _ | apply Kp.alloc)))).mono ?_; rintro e w1 ⟨rfl, hg⟩
    have K1 : Hid (Kp w w1) := Lib.hid (by refine Kp.trans ?_ hg; repeat (first | exact Kp.refl _ | apply Kp.alloc))
    go_wp2
    go_ret
    exact ⟨rfl, K1.out⟩
  by_cases hhi : 2147483648 < pc
  · go_enter Tryd.func4, Tryd.ntmps4
    go_wp2_with fail
    refine (wakes_any _ (HT.out.kp (by repeat (first | exact Kp.refl _ | apply Kp.alloc)))).mono ?_; rintro e w1 ⟨rfl, hg⟩
    have K1 : Hid (Kp w w1) := Lib.hid (by refine Kp.trans ?_ hg; repeat (first | exact Kp.refl _ | apply Kp.alloc))
    go_wp2
    go_ret
    exact ⟨rfl, K1.out⟩
  · go_enter Tryd.func4, Tryd.ntmps4
    go_wp2_with (refine wpList_load_row rfl 35 (.tmp 4) rfl (w.heap.size + 1) rfl _ _ _ _ (Blk.new2 w _ _ _) Tryd.underlying35 rfl (by kernel_rfl) ?_)
    refine (HD.out _ (HT.out.kp (by repeat (first | exact Kp.refl _ | apply Kp.alloc)))).mono ?_; rintro e w1 ⟨rfl, hg⟩
    have B0 := Lib.hid (((Blk.new w #[.int .i8 op, .int .i8 d, .int .i8 n, .int .i8 m, .int .i64 imm] 24).alloc (.cells (regV R) 35)).kp hg)
    have B1 := Lib.hid ((Blk.new2 w (.cells #[.int .i8 op, .int .i8 d, .int .i8 n, .int .i8 m, .int .i64 imm] 24) (regV R) 35).kp hg)
    have K1 : Hid (Kp w w1) := Lib.hid (by refine Kp.trans ?_ hg; repeat (first | exact Kp.refl _ | apply Kp.alloc))
    clear hg
    go_wp2_with (first
      | (refine wpList_store_row rfl 35 (.tmp 7) (.tmp 25) rfl w1.heap.size (regV R') rfl rfl 35 _ (heap_alloc_last _ _) (by kernel_rfl) rfl (regV_one _) ?_; rw [World.setRow_alloc_new])
      | (refine wpList_load_row rfl 24 (.tmp 3) rfl w.heap.size rfl _ _ _ _ (B0.out.alloc _) Tryd.underlying24 rfl (by kernel_rfl) ?_)
      | (refine wpList_load_row rfl 35 (.tmp 4) rfl (w.heap.size + 1) rfl _ _ _ _ (B1.out.alloc _) Tryd.underlying35 rfl (by kernel_rfl) ?_))
    refine (HR.out _).mono ?_; rintro e w2 ⟨rfl, hg⟩
    have A7 := Lib.hid ((Blk.new w1 (regV R') 35).kp hg)
    have K2 : Hid (Kp w w2) := Lib.hid ((K1.out.alloc _ _).trans hg)
    clear hg
    go_wp2_with (first
      | (refine wpList_store_row rfl 35 (.tmp 10) (.tmp 33) rfl w2.heap.size (regV R') rfl rfl 35 _ (heap_alloc_last _ _) (by kernel_rfl) rfl (regV_one _) ?_; rw [World.setRow_alloc_new])
      | (refine wpList_load_row rfl 35 (.tmp 7) rfl w1.heap.size rfl _ _ _ _ (A7.out.alloc _) Tryd.underlying35 rfl (by kernel_rfl) ?_)
      | (refine wpList_load_row rfl 35 (.tmp 10) rfl w2.heap.size rfl _ _ _ _ (Blk.new w2 (regV R') _) Tryd.underlying35 rfl (by kernel_rfl) ?_)
      | (go_at_call 16; refine (wakes_any _ (HT.out.kp (K2.out.alloc _ _))).mono ?_; rintro e w3 ⟨rfl, hg⟩; have K3 : Hid (Kp w w3) := Lib.hid ((K2.out.alloc _ _).trans hg); clear hg))
    go_ret
    exact ⟨rfl, K3.out⟩
theorem walkDoesA (op d n m imm : Int) (a0 a1 a2 a3 a4 a5 a6 a7 : Int) (pc : Int) (w : World) (hT : TabsOk w) (wc : (Lit.int .i8 op).wf = true) (h0 : (Lit.int .u64 a0).wf = true) (h1 : (Lit.int .u64 a1).wf = true) (h2 : (Lit.int .u64 a2).wf = true) (h3 : (Lit.int .u64 a3).wf = true) (h4 : (Lit.int .u64 a4).wf = true) (h5 : (Lit.int .u64 a5).wf = true) (h6 : (Lit.int .u64 a6).wf = true) (h7 : (Lit.int .u64 a7).wf = true) :
    Calls Tryd.prog 4 #[.agg #[.int .i8 op, .int .i8 d, .int .i8 n, .int .i8 m, .int .i64 imm], .agg #[.int .u64 a0, .int .u64 a1, .int .u64 a2, .int .u64 a3, .int .u64 a4, .int .u64 a5, .int .u64 a6, .int .u64 a7], .int .i64 pc] w fun e w' => e = .returned (.bool true) ∧ Kp w w' := by
  obtain ⟨R, e⟩ := regs_of a0 a1 a2 a3 a4 a5 a6 a7 h0 h1 h2 h3 h4 h5 h6 h7
  rw [e]
  exact walkDoes op d n m imm R pc w hT wc
end Go.Proofs.YtieffpgiliebmaaDoor
