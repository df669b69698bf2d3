/-
  AluTells returns true. No condition but the table.
-/
import Derived.Test.YtieffpgiliebmaaDoorWakes06
namespace Go.Proofs.YtieffpgiliebmaaDoor
open Go Go.RowKit

def HIns (w : World) (op d n m imm : Int) (w' : World) : Prop := (w'.cell? ⟨w.heap.size, 0, none⟩ = some (.int .i8 op) ∧ w'.cell? ⟨w.heap.size, 1, none⟩ = some (.int .i8 d) ∧ w'.cell? ⟨w.heap.size, 2, none⟩ = some (.int .i8 n) ∧ w'.cell? ⟨w.heap.size, 3, none⟩ = some (.int .i8 m) ∧ w'.cell? ⟨w.heap.size, 4, none⟩ = some (.int .i64 imm)) ∧ w.heap.size < w'.heap.size ∧ Kp w w'
theorem HIns.new (w : World) (op d n m imm : Int) : HIns w op d n m imm (w.alloc (.cells #[.int .i8 op, .int .i8 d, .int .i8 n, .int .i8 m, .int .i64 imm] 24)) :=
  have B := Blk.new w #[.int .i8 op, .int .i8 d, .int .i8 n, .int .i8 m, .int .i64 imm] 24
  ⟨⟨B.cell 0, B.cell 1, B.cell 2, B.cell 3, B.cell 4⟩, B.lt, kpA _ _ _⟩
theorem HIns.drew {w : World} {op d n m imm : Int} {w' : World} (h : HIns w op d n m imm w') : HIns w op d n m imm w'.drew := ⟨h.1, h.2.1, h.2.2.drew⟩
theorem HIns.kp {w : World} {op d n m imm : Int} {w' w2 : World} (h : HIns w op d n m imm w') (g : Kp w' w2) : HIns w op d n m imm w2 := by
  obtain ⟨⟨h0, h1, h2, h3, h4⟩, hl, hk⟩ := h
  exact ⟨⟨(g.cell hl).trans h0, (g.cell hl).trans h1, (g.cell hl).trans h2, (g.cell hl).trans h3, (g.cell hl).trans h4⟩, Nat.lt_of_lt_of_le hl g.size, hk.trans g⟩
theorem OwnsI.drew {w : World} {B : Nat} {v : Value} {zs : List Int} (h : OwnsI w B v zs) : OwnsI w.drew B v zs := h
theorem readsA_le (op d n m imm : Int) : (readsA op d n m imm).length ≤ 100 := by
  have h1 := usedA_le op d n m imm 1
  have h2 := compact_le (sortL (usedA op d n m imm 1))
  have h3 : (sortL (usedA op d n m imm 1)).length = (usedA op d n m imm 1).length := by simp
  unfold readsA
  omega
set_option maxHeartbeats 2000000 in
theorem walkTells (op d n m imm : Int) (w : World) (hT : TabsOk w) (wc : (Lit.int .i8 op).wf = true) :
    Calls Tryd.prog 3 #[.agg #[.int .i8 op, .int .i8 d, .int .i8 n, .int .i8 m, .int .i64 imm]] w fun e w' => e = .returned (.bool true) ∧ Kp w w' := by
  have HT := Lib.hid hT
  have HP := Lib.hid (i8_of op wc)
  have HL := Lib.hid (readsA_le op d n m imm)
  clear hT wc
  have S0 := Lib.hid (HIns.new w op d n m imm)
  go_enter Tryd.func3, Tryd.ntmps3
  go_wp2_with fail
  refine (writes_any op d n m imm _ (HT.out.kp S0.out.2.2) HP.out).mono ?_; rintro e w1 ⟨rfl, hg⟩
  generalize hW : writesA op d n m imm = W
  obtain ⟨a, b⟩ := W
  have HW := Lib.hid hW; clear hW
  have S1 := Lib.hid (S0.out.kp hg); clear hg
  obtain ⟨⟨z0, z1, z2, z3, z4⟩, -, -⟩ := S1.out
  go_wp2_with fail
  refine (rwrites_any op d n m imm _).mono ?_; rintro e w2 ⟨rfl, hg⟩
  rw [HW.out]
  have S2 := Lib.hid (S1.out.kp hg); clear hg
  clear z0 z1 z2 z3 z4
  go_wp2_with fail
  go_region_held3 (fun w' => (w'.cell? ⟨w.heap.size, 0, none⟩ = some (.int .i8 op) ∧ w'.cell? ⟨w.heap.size, 1, none⟩ = some (.int .i8 d) ∧ w'.cell? ⟨w.heap.size, 2, none⟩ = some (.int .i8 n) ∧ w'.cell? ⟨w.heap.size, 3, none⟩ = some (.int .i8 m) ∧ w'.cell? ⟨w.heap.size, 4, none⟩ = some (.int .i64 imm)) ∧ w.heap.size < w'.heap.size ∧ Kp w w')
      (first | exact S2.out.drew | assumption | exact HIns.drew (by assumption))
      (first | (go_at_call 9; rename_i hh _ _; refine (check_any _ _ _ _ _ _ (HT.out.kp hh.2.2) HP.out).mono ?_; rintro e w' ⟨rfl, hg⟩; have hh' := HIns.kp hh hg; clear hh hg) | (go_at_call 10; rename_i hh _ _; refine (rcheck_any _ _ _ _ _ _).mono ?_; rintro e w' ⟨rfl, hg⟩; have hh' := HIns.kp hh hg; clear hh hg) | (go_at_call 11; rename_i hh _ _; refine (memory_any _ _ _ _ _ _ (HT.out.kp hh.2.2) HP.out).mono ?_; rintro e w' ⟨rfl, hg⟩; have hh' := HIns.kp hh hg; clear hh hg) | (go_at_call 12; rename_i hh _ _; refine (rmemory_any _ _ _ _ _ _).mono ?_; rintro e w' ⟨rfl, hg⟩; have hh' := HIns.kp hh hg; clear hh hg) | (go_at_call 14; rename_i hh _ _; refine (reads_any _ _ _ _ _ _ (HT.out.kp hh.2.2) HP.out).mono ?_; rintro e w' ⟨u, rfl, ho, hg⟩; have HU := Lib.hid (ho.mono hh.2.2.size); have hh' := HIns.kp hh hg; clear hh hg ho) | (go_at_call 15; rename_i hh _ _; refine (rreads_any _ _ _ _ _ _).mono ?_; rintro e w' ⟨v, rfl, ho, hg⟩; have HV := Lib.hid (ho.mono hh.2.2.size); have HU' := Lib.hid (HU.out.kp hg); have hh' := HIns.kp hh hg; clear hh hg ho) | (go_at_call 13; rename_i hh _ _; refine (ints_same w.heap.size _ _ _ _ HU'.out HV.out HL.out).mono ?_; rintro e w' ⟨rfl, hg⟩; have hh' := HIns.kp hh hg; clear hh hg) | (go_at_call 16; rename_i hh _ _; refine (wakes_any _ (HT.out.kp hh.2.2)).mono ?_; rintro e w' ⟨rfl, hg⟩; have hh' := HIns.kp hh hg; clear hh hg))
  rename_i hh
  have HH := Lib.hid hh; clear hh
  go_wp2_with fail
  go_ret
  exact ⟨rfl, HH.out.2.2⟩
end Go.Proofs.YtieffpgiliebmaaDoor
