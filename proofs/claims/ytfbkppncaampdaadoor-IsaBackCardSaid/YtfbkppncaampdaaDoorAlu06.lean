/-
  Package alu: what instructions have, the contracts of parts, mayBe and Check, for every instruction. No condition but the table.
-/
import Derived.Test.YtfbkppncaampdaaDoorRows
import Derived.Test.YtfbkppncaampdaaDoorBlk
import Derived.Test.YtfbkppncaampdaaDoorIdx
import Derived.BigQuiet
import Derived.LoopN
namespace Go.Proofs.YtfbkppncaampdaaDoor
open Go Go.RowKit

/-! The table, cell by cell. -/
def uDL : List Int := [0, 2, 2, 2, 2, 2, 2, 2, 2, 1, 2, 1, 1, 0, 0, 1, 1, 0, 0]
def uNL : List Int := [0, 0, 1, 1, 1, 1, 1, 1, 1, 1, 1, 1, 1, 0, 0, 0, 0, 0, 0]
def uML : List Int := [0, 0, 1, 1, 1, 1, 1, 0, 0, 0, 0, 2, 0, 0, 0, 0, 0, 0, 0]
def loL : List Int := [0, 0, 0, 0, 0, 0, 0, -2048, 0, 0, 0, 0, 0, 0, -1024, -1024, -1024, 0, 0]
def hiL : List Int := [0, 65535, 0, 0, 0, 0, 0, 2047, 0, 0, 0, 0, 0, 0, 1023, 1023, 1023, 0, 0]
def uD (o : Nat) : Int := uDL.getD o 0
def uN (o : Nat) : Int := uNL.getD o 0
def uM (o : Nat) : Int := uML.getD o 0
def loI (o : Nat) : Int := loL.getD o 0
def hiI (o : Nat) : Int := hiL.getD o 0
def shpL : List Value := (List.range 19).flatMap fun o => [.int .i8 (uD o), .int .i8 (uN o), .int .i8 (uM o), .int .i64 (loI o), .int .i64 (hiI o)]
def TabsOk (w : World) : Prop := ∀ i, i < 95 → w.cell? ⟨1, i, none⟩ = shpL[i]?
theorem lt_of_cell {w : World} {b o : Nat} {v : Value} (h : w.cell? ⟨b, o, none⟩ = some v) : b < w.heap.size := by
  unfold World.cell? at h
  apply Nat.lt_of_not_le
  intro hn
  rw [Array.getElem?_eq_none hn] at h
  simp at h
theorem TabsOk.lt {w : World} (h : TabsOk w) : 1 < w.heap.size := lt_of_cell (h 0 (by decide))
theorem TabsOk.kp {w w' : World} (h : TabsOk w) (hk : Kp w w') : TabsOk w' := fun i hi => (hk.cell h.lt).trans (h i hi)
theorem kpA (w : World) (c : Array Value) (t : TypeId) : Kp w (w.alloc (.cells c t)) := (Kp.refl w).alloc c t
/-- The five cells of one op. -/
theorem TabsOk.at {w : World} (h : TabsOk w) (o : Nat) (ho : o < 19) : w.cell? ⟨1, o * 5, none⟩ = some (.int .i8 (uD o)) ∧ w.cell? ⟨1, o * 5 + 1, none⟩ = some (.int .i8 (uN o)) ∧ w.cell? ⟨1, o * 5 + 2, none⟩ = some (.int .i8 (uM o)) ∧ w.cell? ⟨1, o * 5 + 3, none⟩ = some (.int .i64 (loI o)) ∧ w.cell? ⟨1, o * 5 + 4, none⟩ = some (.int .i64 (hiI o)) := by
  refine ⟨?_, ?_, ?_, ?_, ?_⟩
  all_goals
    rw [h _ (by omega)]
    obtain rfl | rfl | rfl | rfl | rfl | rfl | rfl | rfl | rfl | rfl | rfl | rfl | rfl | rfl | rfl | rfl | rfl | rfl | rfl : o = 0 ∨ o = 1 ∨ o = 2 ∨ o = 3 ∨ o = 4 ∨ o = 5 ∨ o = 6 ∨ o = 7 ∨ o = 8 ∨ o = 9 ∨ o = 10 ∨ o = 11 ∨ o = 12 ∨ o = 13 ∨ o = 14 ∨ o = 15 ∨ o = 16 ∨ o = 17 ∨ o = 18 := by omega
    all_goals rfl

/-! What may be. -/
def MayR (u r : Int) : Prop := (u = 0 ∧ r = 0) ∨ (u ≠ 0 ∧ 0 ≤ r ∧ r < 8)
instance (u r : Int) : Decidable (MayR u r) := by unfold MayR; infer_instance
def InsOk (o : Nat) (d n m imm : Int) : Prop := (loI o ≤ imm ∧ imm ≤ hiI o) ∧ MayR (uD o) d ∧ MayR (uN o) n ∧ MayR (uM o) m
instance (o : Nat) (d n m imm : Int) : Decidable (InsOk o d n m imm) := by unfold InsOk; infer_instance

theorem maybe_any (r u : Int) (w : World) :
    Calls Tryd.prog 33 #[.agg #[.int .i8 r, .int .i8 u]] w fun e w' => e = .returned (.bool (decide (MayR u r))) ∧ Kp w w' := by
  by_cases h0 : u = 0
  · subst h0
    have e : decide (MayR 0 r) = (r == 0) := by
      rw [show (r == 0) = decide (r = 0) from rfl, decide_eq_decide]
      simp [MayR]
    rw [e]
    go_enter Tryd.func33, Tryd.ntmps33
    go_wp2
    go_ret
    exact ⟨rfl, kpA _ _ _⟩
  · by_cases h1 : 0 ≤ r
    · have e : decide (MayR u r) = decide (r < 8) := by
        rw [decide_eq_decide]
        unfold MayR; omega
      rw [e]
      go_enter Tryd.func33, Tryd.ntmps33
      go_wp2
      go_ret
      exact ⟨rfl, kpA _ _ _⟩
    · have e : decide (MayR u r) = false := by
        rw [decide_eq_false_iff_not]
        unfold MayR; omega
      rw [e]
      go_enter Tryd.func33, Tryd.ntmps33
      go_wp2
      go_ret
      exact ⟨rfl, kpA _ _ _⟩
theorem parts_any (o : Nat) (d n m imm : Int) (w : World) (hT : TabsOk w) (ho : o < 19) :
    Calls Tryd.prog 32 #[.agg #[.int .i8 o, .int .i8 d, .int .i8 n, .int .i8 m, .int .i64 imm]] w fun e w' => e = .returned (.agg #[.int .i8 d, .int .i8 (uD o), .int .i8 n, .int .i8 (uN o), .int .i8 m, .int .i8 (uM o)]) ∧ Kp w w' := by
  obtain ⟨c0, c1, c2, c3, c4⟩ := (hT.kp ((kpA w #[.int .i8 o, .int .i8 d, .int .i8 n, .int .i8 m, .int .i64 imm] 25).alloc #[.int .i8 0, .int .i8 0, .int .i8 0, .int .i8 0, .int .i8 0, .int .i8 0] 83)).at o ho
  have HL : Hid (1 < w.heap.size) := Lib.hid hT.lt
  clear hT
  have i0 : (0 : Int) ≤ (o : Int) := by omega
  have i1 : (o : Int) < 19 := by omega
  have HO := Lib.hid ho; clear ho
  go_enter Tryd.func32, Tryd.ntmps32
  go_wp2
  refine bodyPost_ret (results_cell_row rfl _ _ _ _ _ _ _ rfl ((Blk.new2 w _ _ _).alloc _) Tryd.underlying83 rfl (by kernel_rfl)) rfl ?_
  exact ⟨rfl, by repeat (first | exact Kp.refl _ | apply Kp.alloc)⟩

/-! Check. -/
def chkI (o : Nat) (d n m imm : Int) : Int := if InsOk o d n m imm then 0 else 60
theorem chk_yes {o : Nat} {d n m imm : Int} (h : InsOk o d n m imm) : chkI o d n m imm = 0 := if_pos h
theorem chk_no {o : Nat} {d n m imm : Int} (h : ¬ InsOk o d n m imm) : chkI o d n m imm = 60 := if_neg h
theorem maybe_is (r u : Int) (b : Bool) (h : decide (MayR u r) = b) (w : World) :
    Calls Tryd.prog 33 #[.agg #[.int .i8 r, .int .i8 u]] w fun e w' => e = .returned (.bool b) ∧ Kp w w' := h ▸ maybe_any r u w
theorem part_at (v0 v1 v2 v3 v4 v5 : Value) (K : Int) (k : Nat) (e : K = (k : Int)) (hk : k < 3) (a b : Value) (h : [(v0, v1), (v2, v3), (v4, v5)][k]? = some (a, b)) (w : World) :
    (Instr.index 83 (.agg #[v0, v1, v2, v3, v4, v5]) (.int .i64 K)).run Tryd.prog w = .ok (.agg #[a, b]) w := by
  obtain rfl | rfl | rfl : k = 0 ∨ k = 1 ∨ k = 2 := by omega
  all_goals
    simp at h
    obtain ⟨rfl, rfl⟩ := h
    refine index_agg (s := 2) Tryd.underlying83 Tryd.underlying82 rfl (by kernel_rfl) _ _ e (by decide) ?_ w
    simp
theorem check_out (op d n m imm : Int) (w : World) (h : op < 0 ∨ (19 ≤ op ∧ op < 128)) :
    Calls Tryd.prog 16 #[.agg #[.int .i8 op, .int .i8 d, .int .i8 n, .int .i8 m, .int .i64 imm]] w fun e w' => e = .returned (.int .i64 60) ∧ Kp w w' := by
  rcases h with h | ⟨h, h'⟩
  all_goals
    go_enter Tryd.func16, Tryd.ntmps16
    go_wp2
    go_ret
    exact ⟨rfl, kpA _ _ _⟩
set_option maxHeartbeats 1000000 in
theorem check_in (o : Nat) (d n m imm : Int) (w : World) (hT : TabsOk w) (ho : o < 19) :
    Calls Tryd.prog 16 #[.agg #[.int .i8 o, .int .i8 d, .int .i8 n, .int .i8 m, .int .i64 imm]] w fun e w' => e = .returned (.int .i64 (chkI o d n m imm)) ∧ Kp w w' := by
  have HT := Lib.hid hT; clear hT
  have HL : Hid (1 < w.heap.size) := Lib.hid HT.out.lt
  obtain ⟨c0, c1, c2, c3, c4⟩ := (HT.out.kp (kpA w #[.int .i8 o, .int .i8 d, .int .i8 n, .int .i8 m, .int .i64 imm] 25)).at o ho
  have i0 : (0 : Int) ≤ (o : Int) := by omega
  have i1 : (o : Int) < 19 := by omega
  have HO := Lib.hid ho; clear ho
  by_cases hlo : imm < loI o
  · rw [chk_no (by intro g; have := g.1; omega)]
    go_enter Tryd.func16, Tryd.ntmps16
    go_wp2
    go_ret
    exact ⟨rfl, by repeat (first | exact Kp.refl _ | apply Kp.alloc)⟩
  by_cases hhi : hiI o < imm
  · rw [chk_no (by intro g; have := g.1; omega)]
    go_enter Tryd.func16, Tryd.ntmps16
    go_wp2
    go_ret
    exact ⟨rfl, by repeat (first | exact Kp.refl _ | apply Kp.alloc)⟩
  have hI : loI o ≤ imm ∧ imm ≤ hiI o := ⟨by omega, by omega⟩
  have p0 := part_at (.int .i8 d) (.int .i8 (uD o)) (.int .i8 n) (.int .i8 (uN o)) (.int .i8 m) (.int .i8 (uM o)) 0 0 rfl (by decide) _ _ rfl
  have p1 := part_at (.int .i8 d) (.int .i8 (uD o)) (.int .i8 n) (.int .i8 (uN o)) (.int .i8 m) (.int .i8 (uM o)) 1 1 rfl (by decide) _ _ rfl
  have p2 := part_at (.int .i8 d) (.int .i8 (uD o)) (.int .i8 n) (.int .i8 (uN o)) (.int .i8 m) (.int .i8 (uM o)) 2 2 rfl (by decide) _ _ rfl
  have hC : decide (InsOk o d n m imm) = (decide (MayR (uD o) d) && (decide (MayR (uN o) n) && decide (MayR (uM o) m))) := by
    unfold InsOk
    simp [hI]
  have HI := Lib.hid hI; clear hI
  have HC := Lib.hid hC; clear hC
  have no : ∀ {b : Bool}, decide (InsOk o d n m imm) = b → b = false → chkI o d n m imm = 60 := fun h hb => chk_no (by rw [hb] at h; exact of_decide_eq_false h)
  rcases hb0 : decide (MayR (uD o) d) with _ | _
  · rw [no HC.out (by rw [hb0]; rfl)]
    have B0 := Lib.hid hb0; clear hb0 no
    go_enter Tryd.func16, Tryd.ntmps16
    go_wp2_with fail
    refine (parts_any o d n m imm _ (HT.out.kp (by repeat (first | exact Kp.refl _ | apply Kp.alloc))) HO.out).mono ?_; rintro e w1 ⟨rfl, hg⟩
    have H1 := Lib.hid hg; clear hg
    go_wp2_with fail
    refine wp_loop_rounds 4 ?_
    rw [rounds_succ]
    go_wp2_with fail
    refine (maybe_is _ _ _ B0.out _).mono ?_; rintro e w2 ⟨rfl, hg⟩
    have H2 := Lib.hid hg; clear hg
    go_wp2
    go_ret
    exact ⟨rfl, (by (repeat (first | apply Kp.drew | apply Kp.alloc)); refine Kp.trans ?_ H2.out; (repeat (first | apply Kp.drew | apply Kp.alloc)); refine Kp.trans ?_ H1.out; (repeat (first | apply Kp.drew | apply Kp.alloc)); exact Kp.refl _)⟩
  rcases hb1 : decide (MayR (uN o) n) with _ | _
  · rw [no HC.out (by rw [hb0, hb1]; rfl)]
    have B0 := Lib.hid hb0; clear hb0 no
    have B1 := Lib.hid hb1; clear hb1
    go_enter Tryd.func16, Tryd.ntmps16
    go_wp2_with fail
    refine (parts_any o d n m imm _ (HT.out.kp (by repeat (first | exact Kp.refl _ | apply Kp.alloc))) HO.out).mono ?_; rintro e w3 ⟨rfl, hg⟩
    have H3 := Lib.hid hg; clear hg
    go_wp2_with fail
    refine wp_loop_rounds 4 ?_
    rw [rounds_succ]
    go_wp2_with fail
    refine (maybe_is _ _ _ B0.out _).mono ?_; rintro e w4 ⟨rfl, hg⟩
    have H4 := Lib.hid hg; clear hg
    go_wp2_with fail
    rw [rounds_succ]
    go_wp2_with fail
    refine (maybe_is _ _ _ B1.out _).mono ?_; rintro e w5 ⟨rfl, hg⟩
    have H5 := Lib.hid hg; clear hg
    go_wp2
    go_ret
    exact ⟨rfl, (by (repeat (first | apply Kp.drew | apply Kp.alloc)); refine Kp.trans ?_ H5.out; (repeat (first | apply Kp.drew | apply Kp.alloc)); refine Kp.trans ?_ H4.out; (repeat (first | apply Kp.drew | apply Kp.alloc)); refine Kp.trans ?_ H3.out; (repeat (first | apply Kp.drew | apply Kp.alloc)); exact Kp.refl _)⟩
  rcases hb2 : decide (MayR (uM o) m) with _ | _
  · rw [no HC.out (by rw [hb0, hb1, hb2]; rfl)]
    have B0 := Lib.hid hb0; clear hb0 no
    have B1 := Lib.hid hb1; clear hb1
    have B2 := Lib.hid hb2; clear hb2
    go_enter Tryd.func16, Tryd.ntmps16
    go_wp2_with fail
    refine (parts_any o d n m imm _ (HT.out.kp (by repeat (first | exact Kp.refl _ | apply Kp.alloc))) HO.out).mono ?_; rintro e w6 ⟨rfl, hg⟩
    have H6 := Lib.hid hg; clear hg
    go_wp2_with fail
    refine wp_loop_rounds 4 ?_
    rw [rounds_succ]
    go_wp2_with fail
    refine (maybe_is _ _ _ B0.out _).mono ?_; rintro e w7 ⟨rfl, hg⟩
    have H7 := Lib.hid hg; clear hg
    go_wp2_with fail
    rw [rounds_succ]
    go_wp2_with fail
    refine (maybe_is _ _ _ B1.out _).mono ?_; rintro e w8 ⟨rfl, hg⟩
    have H8 := Lib.hid hg; clear hg
    go_wp2_with fail
    rw [rounds_succ]
    go_wp2_with fail
    refine (maybe_is _ _ _ B2.out _).mono ?_; rintro e w9 ⟨rfl, hg⟩
    have H9 := Lib.hid hg; clear hg
    go_wp2
    go_ret
    exact ⟨rfl, (by (repeat (first | apply Kp.drew | apply Kp.alloc)); refine Kp.trans ?_ H9.out; (repeat (first | apply Kp.drew | apply Kp.alloc)); refine Kp.trans ?_ H8.out; (repeat (first | apply Kp.drew | apply Kp.alloc)); refine Kp.trans ?_ H7.out; (repeat (first | apply Kp.drew | apply Kp.alloc)); refine Kp.trans ?_ H6.out; (repeat (first | apply Kp.drew | apply Kp.alloc)); exact Kp.refl _)⟩
  · rw [chk_yes (of_decide_eq_true (by rw [HC.out, hb0, hb1, hb2]; rfl))]
    have B0 := Lib.hid hb0; clear hb0 no
    have B1 := Lib.hid hb1; clear hb1
    have B2 := Lib.hid hb2; clear hb2
    go_enter Tryd.func16, Tryd.ntmps16
    go_wp2_with fail
    refine (parts_any o d n m imm _ (HT.out.kp (by repeat (first | exact Kp.refl _ | apply Kp.alloc))) HO.out).mono ?_; rintro e w10 ⟨rfl, hg⟩
    have H10 := Lib.hid hg; clear hg
    go_wp2_with fail
    refine wp_loop_rounds 4 ?_
    rw [rounds_succ]
    go_wp2_with fail
    refine (maybe_is _ _ _ B0.out _).mono ?_; rintro e w11 ⟨rfl, hg⟩
    have H11 := Lib.hid hg; clear hg
    go_wp2_with fail
    rw [rounds_succ]
    go_wp2_with fail
    refine (maybe_is _ _ _ B1.out _).mono ?_; rintro e w12 ⟨rfl, hg⟩
    have H12 := Lib.hid hg; clear hg
    go_wp2_with fail
    rw [rounds_succ]
    go_wp2_with fail
    refine (maybe_is _ _ _ B2.out _).mono ?_; rintro e w13 ⟨rfl, hg⟩
    have H13 := Lib.hid hg; clear hg
    go_wp2_with fail
    rw [rounds_succ]
    go_wp2
    go_ret
    exact ⟨rfl, (by (repeat (first | apply Kp.drew | apply Kp.alloc)); refine Kp.trans ?_ H13.out; (repeat (first | apply Kp.drew | apply Kp.alloc)); refine Kp.trans ?_ H12.out; (repeat (first | apply Kp.drew | apply Kp.alloc)); refine Kp.trans ?_ H11.out; (repeat (first | apply Kp.drew | apply Kp.alloc)); refine Kp.trans ?_ H10.out; (repeat (first | apply Kp.drew | apply Kp.alloc)); exact Kp.refl _)⟩
theorem i8_of (a : Int) (h : (Lit.int .i8 a).wf = true) : -128 ≤ a ∧ a < 128 := by
  simp [Lit.wf, IntKind.min, IntKind.max, IntKind.bits, IntKind.signed] at h
  omega
end Go.Proofs.YtfbkppncaampdaaDoor
