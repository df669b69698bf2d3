/-
  Package buffer: the words that an entry writes and reads, and which entries touch, for every two entries. No condition but the table.
-/
import Derived.Test.YtgjjbgijdgihcaaDoorPSm09
import Derived.Test.YtgjjbgijdgihcaaDoorRTake09
import Derived.Test.YtgjjbgijdgihcaaDoorIdx
namespace Go.Proofs.YtgjjbgijdgihcaaDoor
open Go Go.RowKit

def wrS (e : Ent) : Nat × Nat := if e.k = 0 then (e.w, e.w + 1) else if e.k = 1 then (0, 0) else (e.fm.toNat * 512, e.fm.toNat * 512 + 512)
def rdS (e : Ent) : Nat × Nat := if e.k = 3 then (e.fr.toNat * 512, e.fr.toNat * 512 + 512) else (0, 0)
def stV (p : Nat × Nat) : Value := .agg #[.int .u64 (p.1 : Nat), .int .u64 (p.2 : Nat)]
def mtB (p q : Nat × Nat) : Bool := meetB p.1 p.2 q.1 q.2
theorem written_0 (x v : Nat) (fr fm : Int) (w : World) (hT : TabsOk w) (h : x < 1099511627776) :
    Calls Tryd.prog 30 #[.agg #[.int .i8 0, .int .u64 x, .int .u64 v, .int .i64 fr, .int .i64 fm]] w fun r w' => r = .returned (.agg #[.int .u64 x, .int .u64 (x + 1 : Nat)]) ∧ Kp w w' := by
  obtain ⟨c0, c1, c2⟩ := (hT.kp ((((kpA w #[.int .i8 0, .int .u64 x, .int .u64 v, .int .i64 fr, .int .i64 fm] 26)).alloc #[.int .u64 0, .int .u64 0] 55))).at 0 (by decide) true false false ⟨rfl, rfl, rfl⟩
  simp only [Nat.reduceMul, Nat.reduceAdd] at c0 c1 c2
  have HL : Hid (0 < w.heap.size) := Lib.hid hT.lt
  clear hT
  obtain ⟨Y, hY⟩ : ∃ Y : Nat, x + 1 = Y := ⟨_, rfl⟩
  have HM := Lib.hid (fun w1 => one_any x h w1)
  rw [hY] at HM ⊢
  clear h hY
  go_enter Tryd.func30, Tryd.ntmps30
  go_wp2_with (first
    | (go_at_call 32; refine (HM.out _).mono ?_; rintro r w1 ⟨rfl, hg⟩; have K1 := Lib.hid hg; clear hg)
    | (refine wpList_store_row rfl 55 (.tmp 2) (.tmp 13) rfl (w.heap.size + 1) #[.int .u64 x, .int .u64 Y] rfl rfl _ _ (((Blk.new2 w _ _ _).alloc _).kp K1.out) (by kernel_rfl) rfl (by simp [Value.oneCell']) ?_))
  refine bodyPost_ret (results_cell_row rfl _ _ _ _ _ _ _ rfl ((((Blk.new2 w _ _ _).alloc _).kp K1.out).setRow #[.int .u64 x, .int .u64 Y]) Tryd.underlying55 rfl (by kernel_rfl)) rfl ?_
  exact ⟨rfl, ((by repeat (first | exact Kp.refl _ | apply Kp.alloc) : Kp w _).trans K1.out).setRow (by omega) _⟩
theorem written_1 (x v : Nat) (fr fm : Int) (w : World) (hT : TabsOk w)  :
    Calls Tryd.prog 30 #[.agg #[.int .i8 1, .int .u64 x, .int .u64 v, .int .i64 fr, .int .i64 fm]] w fun r w' => r = .returned (.agg #[.int .u64 0, .int .u64 0]) ∧ Kp w w' := by
  obtain ⟨c0, c1, c2⟩ := (hT.kp ((((kpA w #[.int .i8 1, .int .u64 x, .int .u64 v, .int .i64 fr, .int .i64 fm] 26)).alloc #[.int .u64 0, .int .u64 0] 55))).at 1 (by decide) false false false ⟨rfl, rfl, rfl⟩
  simp only [Nat.reduceMul, Nat.reduceAdd] at c0 c1 c2
  have HL : Hid (0 < w.heap.size) := Lib.hid hT.lt
  clear hT
  go_enter Tryd.func30, Tryd.ntmps30
  go_wp2
  refine bodyPost_ret (results_cell_row rfl _ _ _ _ _ _ _ rfl ((Blk.new2 w _ _ _).alloc _) Tryd.underlying55 rfl (by kernel_rfl)) rfl ?_
  exact ⟨rfl, by repeat (first | exact Kp.refl _ | apply Kp.alloc)⟩
theorem written_2 (x v : Nat) (fr fm : Int) (w : World) (hT : TabsOk w) (h : 0 ≤ fm ∧ fm ≤ 1048576) :
    Calls Tryd.prog 30 #[.agg #[.int .i8 2, .int .u64 x, .int .u64 v, .int .i64 fr, .int .i64 fm]] w fun r w' => r = .returned (.agg #[.int .u64 (fm.toNat * 512 : Nat), .int .u64 (fm.toNat * 512 + 512 : Nat)]) ∧ Kp w w' := by
  obtain ⟨c0, c1, c2⟩ := (hT.kp ((((kpA w #[.int .i8 2, .int .u64 x, .int .u64 v, .int .i64 fr, .int .i64 fm] 26)).alloc #[.int .u64 0, .int .u64 0] 55))).at 2 (by decide) false true false ⟨rfl, rfl, rfl⟩
  simp only [Nat.reduceMul, Nat.reduceAdd] at c0 c1 c2
  have HL : Hid (0 < w.heap.size) := Lib.hid hT.lt
  clear hT
  have HM := Lib.hid (fun w1 => all_any fm h w1)
  generalize fm.toNat * 512 + 512 = Q at *
  generalize fm.toNat * 512 = P at *
  clear h
  go_enter Tryd.func30, Tryd.ntmps30
  go_wp2_with (first
    | (go_at_call 38; refine (HM.out _).mono ?_; rintro r w1 ⟨rfl, hg⟩; have K1 := Lib.hid hg; clear hg)
    | (refine wpList_store_row rfl 55 (.tmp 2) (.tmp 19) rfl (w.heap.size + 1) #[.int .u64 P, .int .u64 Q] rfl rfl _ _ (((Blk.new2 w _ _ _).alloc _).kp K1.out) (by kernel_rfl) rfl (by simp [Value.oneCell']) ?_))
  refine bodyPost_ret (results_cell_row rfl _ _ _ _ _ _ _ rfl ((((Blk.new2 w _ _ _).alloc _).kp K1.out).setRow #[.int .u64 P, .int .u64 Q]) Tryd.underlying55 rfl (by kernel_rfl)) rfl ?_
  exact ⟨rfl, ((by repeat (first | exact Kp.refl _ | apply Kp.alloc) : Kp w _).trans K1.out).setRow (by omega) _⟩
theorem written_3 (x v : Nat) (fr fm : Int) (w : World) (hT : TabsOk w) (h : 0 ≤ fm ∧ fm ≤ 1048576) :
    Calls Tryd.prog 30 #[.agg #[.int .i8 3, .int .u64 x, .int .u64 v, .int .i64 fr, .int .i64 fm]] w fun r w' => r = .returned (.agg #[.int .u64 (fm.toNat * 512 : Nat), .int .u64 (fm.toNat * 512 + 512 : Nat)]) ∧ Kp w w' := by
  obtain ⟨c0, c1, c2⟩ := (hT.kp ((((kpA w #[.int .i8 3, .int .u64 x, .int .u64 v, .int .i64 fr, .int .i64 fm] 26)).alloc #[.int .u64 0, .int .u64 0] 55))).at 3 (by decide) false true true ⟨rfl, rfl, rfl⟩
  simp only [Nat.reduceMul, Nat.reduceAdd] at c0 c1 c2
  have HL : Hid (0 < w.heap.size) := Lib.hid hT.lt
  clear hT
  have HM := Lib.hid (fun w1 => all_any fm h w1)
  generalize fm.toNat * 512 + 512 = Q at *
  generalize fm.toNat * 512 = P at *
  clear h
  go_enter Tryd.func30, Tryd.ntmps30
  go_wp2_with (first
    | (go_at_call 38; refine (HM.out _).mono ?_; rintro r w1 ⟨rfl, hg⟩; have K1 := Lib.hid hg; clear hg)
    | (refine wpList_store_row rfl 55 (.tmp 2) (.tmp 19) rfl (w.heap.size + 1) #[.int .u64 P, .int .u64 Q] rfl rfl _ _ (((Blk.new2 w _ _ _).alloc _).kp K1.out) (by kernel_rfl) rfl (by simp [Value.oneCell']) ?_))
  refine bodyPost_ret (results_cell_row rfl _ _ _ _ _ _ _ rfl ((((Blk.new2 w _ _ _).alloc _).kp K1.out).setRow #[.int .u64 P, .int .u64 Q]) Tryd.underlying55 rfl (by kernel_rfl)) rfl ?_
  exact ⟨rfl, ((by repeat (first | exact Kp.refl _ | apply Kp.alloc) : Kp w _).trans K1.out).setRow (by omega) _⟩
theorem read_0 (x v : Nat) (fr fm : Int) (w : World) (hT : TabsOk w)  :
    Calls Tryd.prog 39 #[.agg #[.int .i8 0, .int .u64 x, .int .u64 v, .int .i64 fr, .int .i64 fm]] w fun r w' => r = .returned (.agg #[.int .u64 0, .int .u64 0]) ∧ Kp w w' := by
  obtain ⟨c0, c1, c2⟩ := (hT.kp ((((kpA w #[.int .i8 0, .int .u64 x, .int .u64 v, .int .i64 fr, .int .i64 fm] 26)).alloc #[.int .u64 0, .int .u64 0] 55))).at 0 (by decide) true false false ⟨rfl, rfl, rfl⟩
  simp only [Nat.reduceMul, Nat.reduceAdd] at c0 c1 c2
  have HL : Hid (0 < w.heap.size) := Lib.hid hT.lt
  clear hT
  go_enter Tryd.func39, Tryd.ntmps39
  go_wp2
  refine bodyPost_ret (results_cell_row rfl _ _ _ _ _ _ _ rfl ((Blk.new2 w _ _ _)) Tryd.underlying55 rfl (by kernel_rfl)) rfl ?_
  exact ⟨rfl, by repeat (first | exact Kp.refl _ | apply Kp.alloc)⟩
theorem read_1 (x v : Nat) (fr fm : Int) (w : World) (hT : TabsOk w)  :
    Calls Tryd.prog 39 #[.agg #[.int .i8 1, .int .u64 x, .int .u64 v, .int .i64 fr, .int .i64 fm]] w fun r w' => r = .returned (.agg #[.int .u64 0, .int .u64 0]) ∧ Kp w w' := by
  obtain ⟨c0, c1, c2⟩ := (hT.kp ((((kpA w #[.int .i8 1, .int .u64 x, .int .u64 v, .int .i64 fr, .int .i64 fm] 26)).alloc #[.int .u64 0, .int .u64 0] 55))).at 1 (by decide) false false false ⟨rfl, rfl, rfl⟩
  simp only [Nat.reduceMul, Nat.reduceAdd] at c0 c1 c2
  have HL : Hid (0 < w.heap.size) := Lib.hid hT.lt
  clear hT
  go_enter Tryd.func39, Tryd.ntmps39
  go_wp2
  refine bodyPost_ret (results_cell_row rfl _ _ _ _ _ _ _ rfl ((Blk.new2 w _ _ _)) Tryd.underlying55 rfl (by kernel_rfl)) rfl ?_
  exact ⟨rfl, by repeat (first | exact Kp.refl _ | apply Kp.alloc)⟩
theorem read_2 (x v : Nat) (fr fm : Int) (w : World) (hT : TabsOk w)  :
    Calls Tryd.prog 39 #[.agg #[.int .i8 2, .int .u64 x, .int .u64 v, .int .i64 fr, .int .i64 fm]] w fun r w' => r = .returned (.agg #[.int .u64 0, .int .u64 0]) ∧ Kp w w' := by
  obtain ⟨c0, c1, c2⟩ := (hT.kp ((((kpA w #[.int .i8 2, .int .u64 x, .int .u64 v, .int .i64 fr, .int .i64 fm] 26)).alloc #[.int .u64 0, .int .u64 0] 55))).at 2 (by decide) false true false ⟨rfl, rfl, rfl⟩
  simp only [Nat.reduceMul, Nat.reduceAdd] at c0 c1 c2
  have HL : Hid (0 < w.heap.size) := Lib.hid hT.lt
  clear hT
  go_enter Tryd.func39, Tryd.ntmps39
  go_wp2
  refine bodyPost_ret (results_cell_row rfl _ _ _ _ _ _ _ rfl ((Blk.new2 w _ _ _)) Tryd.underlying55 rfl (by kernel_rfl)) rfl ?_
  exact ⟨rfl, by repeat (first | exact Kp.refl _ | apply Kp.alloc)⟩
theorem read_3 (x v : Nat) (fr fm : Int) (w : World) (hT : TabsOk w) (h : 0 ≤ fr ∧ fr ≤ 1048576) :
    Calls Tryd.prog 39 #[.agg #[.int .i8 3, .int .u64 x, .int .u64 v, .int .i64 fr, .int .i64 fm]] w fun r w' => r = .returned (.agg #[.int .u64 (fr.toNat * 512 : Nat), .int .u64 (fr.toNat * 512 + 512 : Nat)]) ∧ Kp w w' := by
  obtain ⟨c0, c1, c2⟩ := (hT.kp ((((kpA w #[.int .i8 3, .int .u64 x, .int .u64 v, .int .i64 fr, .int .i64 fm] 26)).alloc #[.int .u64 0, .int .u64 0] 55))).at 3 (by decide) false true true ⟨rfl, rfl, rfl⟩
  simp only [Nat.reduceMul, Nat.reduceAdd] at c0 c1 c2
  have HL : Hid (0 < w.heap.size) := Lib.hid hT.lt
  clear hT
  have HM := Lib.hid (fun w1 => all_any fr h w1)
  generalize fr.toNat * 512 + 512 = Q at *
  generalize fr.toNat * 512 = P at *
  clear h
  go_enter Tryd.func39, Tryd.ntmps39
  go_wp2_with (first
    | (go_at_call 38; refine (HM.out _).mono ?_; rintro r w1 ⟨rfl, hg⟩; have K1 := Lib.hid hg; clear hg)
    | (refine wpList_store_row rfl 55 (.tmp 2) (.tmp 10) rfl (w.heap.size + 1) #[.int .u64 P, .int .u64 Q] rfl rfl _ _ (((Blk.new2 w _ _ _)).kp K1.out) (by kernel_rfl) rfl (by simp [Value.oneCell']) ?_))
  refine bodyPost_ret (results_cell_row rfl _ _ _ _ _ _ _ rfl ((((Blk.new2 w _ _ _)).kp K1.out).setRow #[.int .u64 P, .int .u64 Q]) Tryd.underlying55 rfl (by kernel_rfl)) rfl ?_
  exact ⟨rfl, ((by repeat (first | exact Kp.refl _ | apply Kp.alloc) : Kp w _).trans K1.out).setRow (by omega) _⟩
theorem written_any (e : Ent) (w : World) (hT : TabsOk w) (h : mayB e = true) : Calls Tryd.prog 30 #[.agg (Ent.arr e)] w fun r w' => r = .returned (stV (wrS e)) ∧ Kp w w' := by
  obtain ⟨k, x, v, fr, fm⟩ := e
  rcases kinds h with ⟨h0, _, _⟩ | h1 | ⟨h2, _⟩ | ⟨h3, _, _⟩
  · obtain rfl : k = 0 := h0
    exact written_0 x v fr fm w hT (by unfold mayB at h; simp at h; omega)
  · obtain rfl : k = 1 := h1
    exact written_1 x v fr fm w hT
  · obtain rfl : k = 2 := h2
    exact written_2 x v fr fm w hT (by unfold mayB at h; simp at h; omega)
  · obtain rfl : k = 3 := h3
    exact written_3 x v fr fm w hT (by unfold mayB at h; simp at h; omega)
theorem read_any (e : Ent) (w : World) (hT : TabsOk w) (h : mayB e = true) : Calls Tryd.prog 39 #[.agg (Ent.arr e)] w fun r w' => r = .returned (stV (rdS e)) ∧ Kp w w' := by
  obtain ⟨k, x, v, fr, fm⟩ := e
  rcases kinds h with ⟨h0, _, _⟩ | h1 | ⟨h2, _⟩ | ⟨h3, _, _⟩
  · obtain rfl : k = 0 := h0
    exact read_0 x v fr fm w hT
  · obtain rfl : k = 1 := h1
    exact read_1 x v fr fm w hT
  · obtain rfl : k = 2 := h2
    exact read_2 x v fr fm w hT
  · obtain rfl : k = 3 := h3
    exact read_3 x v fr fm w hT (by unfold mayB at h; simp at h; omega)
theorem meets_is (a b c d : Nat) (q : Bool) (h : meetB a b c d = q) (w : World) : Calls Tryd.prog 31 #[.agg #[.int .u64 a, .int .u64 b], .agg #[.int .u64 c, .int .u64 d]] w fun r w' => r = .returned (.bool q) ∧ Kp w w' := h ▸ meets_any a b c d w
theorem tc5_kp {w w' : World} {b : Nat} {e : Ent} (h : w.cell? ⟨b, 0, none⟩ = some (.int .i8 e.k) ∧ w.cell? ⟨b, 1, none⟩ = some (.int .u64 e.w) ∧ w.cell? ⟨b, 2, none⟩ = some (.int .u64 e.x) ∧ w.cell? ⟨b, 3, none⟩ = some (.int .i64 e.fr) ∧ w.cell? ⟨b, 4, none⟩ = some (.int .i64 e.fm)) (g : Kp w w') : w'.cell? ⟨b, 0, none⟩ = some (.int .i8 e.k) ∧ w'.cell? ⟨b, 1, none⟩ = some (.int .u64 e.w) ∧ w'.cell? ⟨b, 2, none⟩ = some (.int .u64 e.x) ∧ w'.cell? ⟨b, 3, none⟩ = some (.int .i64 e.fr) ∧ w'.cell? ⟨b, 4, none⟩ = some (.int .i64 e.fm) := five_kp (o := 0) h g
theorem tc7_kp {w w' : World} {B p q b : Nat} {e : Ent} (h : w.cell? ⟨B, 0, none⟩ = some (.int .u64 (p : Nat)) ∧ w.cell? ⟨B, 1, none⟩ = some (.int .u64 (q : Nat)) ∧ w.cell? ⟨b, 0, none⟩ = some (.int .i8 e.k) ∧ w.cell? ⟨b, 1, none⟩ = some (.int .u64 e.w) ∧ w.cell? ⟨b, 2, none⟩ = some (.int .u64 e.x) ∧ w.cell? ⟨b, 3, none⟩ = some (.int .i64 e.fr) ∧ w.cell? ⟨b, 4, none⟩ = some (.int .i64 e.fm)) (g : Kp w w') : w'.cell? ⟨B, 0, none⟩ = some (.int .u64 (p : Nat)) ∧ w'.cell? ⟨B, 1, none⟩ = some (.int .u64 (q : Nat)) ∧ w'.cell? ⟨b, 0, none⟩ = some (.int .i8 e.k) ∧ w'.cell? ⟨b, 1, none⟩ = some (.int .u64 e.w) ∧ w'.cell? ⟨b, 2, none⟩ = some (.int .u64 e.x) ∧ w'.cell? ⟨b, 3, none⟩ = some (.int .i64 e.fr) ∧ w'.cell? ⟨b, 4, none⟩ = some (.int .i64 e.fm) :=
  ⟨(g.cell (lt_of_cell h.1)).trans h.1, (g.cell (lt_of_cell h.2.1)).trans h.2.1, tc5_kp h.2.2 g⟩
def tcB (a b : Ent) : Bool := (mtB (wrS a) (wrS b) || mtB (wrS a) (rdS b)) || (mtB (rdS a) (wrS b) || mtB (rdS a) (rdS b))
theorem str_at (v0 v1 v2 v3 : Value) (K : Int) (k : Nat) (e : K = (k : Int)) (hk : k < 2) (a b : Value) (h : [(v0, v1), (v2, v3)][k]? = some (a, b)) (w : World) :
    (Instr.index 66 (.agg #[v0, v1, v2, v3]) (.int .i64 K)).run Tryd.prog w = .ok (.agg #[a, b]) w := by
  obtain rfl | rfl : k = 0 ∨ k = 1 := by omega
  all_goals
    simp at h
    obtain ⟨rfl, rfl⟩ := h
    refine index_agg (s := 2) Tryd.underlying66 Tryd.underlying55 rfl (by kernel_rfl) _ _ e (by decide) ?_ w
    simp
theorem Ent.five {w : World} {b : Nat} {e : Ent} {t : TypeId} (h : Blk w b (Ent.arr e) t) : w.cell? ⟨b, 0, none⟩ = some (.int .i8 e.k) ∧ w.cell? ⟨b, 1, none⟩ = some (.int .u64 e.w) ∧ w.cell? ⟨b, 2, none⟩ = some (.int .u64 e.x) ∧ w.cell? ⟨b, 3, none⟩ = some (.int .i64 e.fr) ∧ w.cell? ⟨b, 4, none⟩ = some (.int .i64 e.fm) := ⟨h.cell 0, h.cell 1, h.cell 2, h.cell 3, h.cell 4⟩
set_option maxHeartbeats 4000000 in
theorem touch_in (a b : Ent) (w : World) (hT : TabsOk w) (ha : mayB a = true) (hb : mayB b = true) : Calls Tryd.prog 33 #[.agg (Ent.arr a), .agg (Ent.arr b)] w fun r w' => r = .returned (.bool (tcB a b)) ∧ Kp w w' := by
  have HT := Lib.hid hT
  have HWa := Lib.hid (fun w1 (g : Kp w w1) => written_any a w1 (hT.kp g) ha)
  have HRa := Lib.hid (fun w1 (g : Kp w w1) => read_any a w1 (hT.kp g) ha)
  have HWb := Lib.hid (fun w1 (g : Kp w w1) => written_any b w1 (hT.kp g) hb)
  have HRb := Lib.hid (fun w1 (g : Kp w w1) => read_any b w1 (hT.kp g) hb)
  unfold tcB
  generalize wrS a = Wa at *
  generalize rdS a = Ra at *
  generalize wrS b = Wb at *
  generalize rdS b = Rb at *
  obtain ⟨a1, a2⟩ := Wa
  obtain ⟨a3, a4⟩ := Ra
  obtain ⟨b1, b2⟩ := Wb
  obtain ⟨b3, b4⟩ := Rb
  unfold mtB
  simp only []
  unfold stV at HWa HRa HWb HRb
  simp only [] at HWa HRa HWb HRb
  have K0 : Hid (Kp w ((w.alloc (.cells (Ent.arr a) 26)).alloc (.cells (Ent.arr b) 26))) := Lib.hid ((kpA _ _ _).alloc _ _)
  have BA := Lib.hid ((Blk.new w (Ent.arr a) 26).alloc (.cells (Ent.arr b) 26))
  have BB := Lib.hid (Blk.new2 w (.cells (Ent.arr a) 26) (Ent.arr b) 26)
  clear hT ha hb
  unfold Ent.arr at *
  go_enter Tryd.func33, Tryd.ntmps33
  go_wp2_with fail
  refine wp_region_held_drew (S := fun w' => w'.cell? ⟨w.heap.size, 0, none⟩ = some (.int .i8 a.k) ∧ w'.cell? ⟨w.heap.size, 1, none⟩ = some (.int .u64 a.w) ∧ w'.cell? ⟨w.heap.size, 2, none⟩ = some (.int .u64 a.x) ∧ w'.cell? ⟨w.heap.size, 3, none⟩ = some (.int .i64 a.fr) ∧ w'.cell? ⟨w.heap.size, 4, none⟩ = some (.int .i64 a.fm)) (by kernel_rfl) (Ent.five BA.out) (fun hHeld => ?_)
  refine wpAnyH_take (i := 0) (oi := ?p0y1) (v := ?v0y1) ?o0y1 (by kernel_rfl) (by kernel_rfl) (by kernel_rfl) ?q0y1 ?y0y1 (by assumption) ?r0y1
  case o0y1 => (simp only [List.getElem?_toArray, List.getElem?_cons_zero]; rfl)
  case q0y1 => (exact fun _ _ _ h => h)
  case y0y1 => (refine Or.inl ⟨by rfl, ?_⟩; intro w hSw; (try dsimp only at hSw); go_simp; (try with_reducible rfl))
  simp only [Act.put, List.setIfInBounds_toArray, List.set_cons_zero, List.set_cons_succ]
  refine wpAnyH_take (i := 2) (oi := ?p2y2) (v := ?v2y2) ?o2y2 (by kernel_rfl) (by kernel_rfl) (by kernel_rfl) ?q2y2 ?y2y2 (by assumption) ?r2y2
  case o2y2 => (simp only [List.getElem?_toArray, List.getElem?_cons_succ, List.getElem?_cons_zero]; rfl)
  case q2y2 => (exact fun _ _ _ h => h)
  case y2y2 => (refine Or.inl ⟨by rfl, ?_⟩; intro w hSw; (try dsimp only at hSw); go_simp; (try with_reducible rfl))
  simp only [Act.put, List.setIfInBounds_toArray, List.set_cons_zero, List.set_cons_succ]
  refine wpAnyH_take (i := 5) (oi := ?p5y3) (v := ?v5y3) ?o5y3 (by kernel_rfl) (by kernel_rfl) (by kernel_rfl) ?q5y3 ?y5y3 (by assumption) ?r5y3
  case o5y3 => (simp only [List.getElem?_toArray, List.getElem?_cons_succ, List.getElem?_cons_zero]; rfl)
  case q5y3 => (exact fun _ _ _ h => h)
  case y5y3 => (refine Or.inl ⟨by rfl, ?_⟩; intro w hSw; (try dsimp only at hSw); go_simp; (try with_reducible rfl))
  simp only [Act.put, List.setIfInBounds_toArray, List.set_cons_zero, List.set_cons_succ]
  refine wpAnyH_ready (rs := [1]) (by kernel_rfl) (by simp) ?_
  refine AllReadyH.cons (o := ?pc4) ?oc4 (fun K hK => ?wc4) AllReadyH.nil
  case oc4 => (simp only [List.getElem?_toArray, List.getElem?_cons_succ, List.getElem?_cons_zero]; rfl)
  rw [if_pos (by rfl)]
  go_simp
  refine (HWa.out _ (K0.out.drew)).mono ?_; rintro r w1 ⟨rfl, hg⟩
  (try go_wp2_with fail)
  have hH' := tc5_kp hHeld hg
  have K1 := Lib.hid (K0.out.drew.trans hg)
  have BB1 := Lib.hid (BB.out.drew.kp hg)
  refine hK.out _ _ hH' (fun hHeld2 => ?_)
  clear hK K hg hH' hHeld
  have hHeld := hHeld2
  clear hHeld2
  refine wpAnyH_ready (rs := [3]) (by kernel_rfl) (by simp) ?_
  refine AllReadyH.cons (o := ?pc5) ?oc5 (fun K hK => ?wc5) AllReadyH.nil
  case oc5 => (simp only [List.getElem?_toArray, List.getElem?_cons_succ, List.getElem?_cons_zero]; rfl)
  rw [if_pos (by rfl)]
  go_simp
  refine (HRa.out _ K1.out).mono ?_; rintro r w2 ⟨rfl, hg⟩
  (try go_wp2_with fail)
  have hH' := tc5_kp hHeld hg
  have K2 := Lib.hid (K1.out.trans hg)
  have BB2 := Lib.hid (BB1.out.kp hg)
  refine hK.out _ _ hH' (fun hHeld2 => ?_)
  clear hK K hg hH' hHeld
  have hHeld := hHeld2
  clear hHeld2
  refine wpAnyH_take (i := 4) (oi := ?p4y6) (v := ?v4y6) ?o4y6 (by kernel_rfl) (by kernel_rfl) (by kernel_rfl) ?q4y6 ?y4y6 (by assumption) ?r4y6
  case o4y6 => (simp only [List.getElem?_toArray, List.getElem?_cons_succ, List.getElem?_cons_zero]; rfl)
  case q4y6 => (exact fun _ _ _ h => h)
  case y4y6 => (refine Or.inl ⟨by rfl, ?_⟩; intro w hSw; (try dsimp only at hSw); go_simp; (try with_reducible rfl))
  simp only [Act.put, List.setIfInBounds_toArray, List.set_cons_zero, List.set_cons_succ]
  refine wpAnyH_done (by kernel_rfl) ?_ _
  clear hHeld
  have p0 := str_at (.int .u64 a1) (.int .u64 a2) (.int .u64 a3) (.int .u64 a4) 0 0 rfl (by decide) _ _ rfl
  have p1 := str_at (.int .u64 a1) (.int .u64 a2) (.int .u64 a3) (.int .u64 a4) 1 1 rfl (by decide) _ _ rfl
  go_wp2_with fail
  refine wp_loop_rounds 4 ?_
  rw [rounds_succ]
  go_wp2_with fail
  have kS := kpA w2 #[.int .u64 a1, .int .u64 a2] 55
  have K10 := Lib.hid (K2.out.trans kS)
  have BS := Blk.new w2 #[.int .u64 a1, .int .u64 a2] 55
  have hS : (w2.alloc (.cells #[.int .u64 a1, .int .u64 a2] 55)).cell? ⟨w2.heap.size, 0, none⟩ = some (.int .u64 (a1 : Nat)) ∧ (w2.alloc (.cells #[.int .u64 a1, .int .u64 a2] 55)).cell? ⟨w2.heap.size, 1, none⟩ = some (.int .u64 (a2 : Nat)) ∧ (w2.alloc (.cells #[.int .u64 a1, .int .u64 a2] 55)).cell? ⟨(w.heap.size + 1), 0, none⟩ = some (.int .i8 b.k) ∧ (w2.alloc (.cells #[.int .u64 a1, .int .u64 a2] 55)).cell? ⟨(w.heap.size + 1), 1, none⟩ = some (.int .u64 b.w) ∧ (w2.alloc (.cells #[.int .u64 a1, .int .u64 a2] 55)).cell? ⟨(w.heap.size + 1), 2, none⟩ = some (.int .u64 b.x) ∧ (w2.alloc (.cells #[.int .u64 a1, .int .u64 a2] 55)).cell? ⟨(w.heap.size + 1), 3, none⟩ = some (.int .i64 b.fr) ∧ (w2.alloc (.cells #[.int .u64 a1, .int .u64 a2] 55)).cell? ⟨(w.heap.size + 1), 4, none⟩ = some (.int .i64 b.fm) := ⟨BS.cell 0, BS.cell 1, tc5_kp (Ent.five BB2.out) kS⟩
  have BB10 := Lib.hid (BB2.out.kp kS)
  clear kS BS
  have HS := Lib.hid hS; clear hS
  cases hm1 : meetB a1 a2 b1 b2 with
  | true =>
    refine wp_region_held_drew (S := fun w' => w'.cell? ⟨w2.heap.size, 0, none⟩ = some (.int .u64 (a1 : Nat)) ∧ w'.cell? ⟨w2.heap.size, 1, none⟩ = some (.int .u64 (a2 : Nat)) ∧ w'.cell? ⟨(w.heap.size + 1), 0, none⟩ = some (.int .i8 b.k) ∧ w'.cell? ⟨(w.heap.size + 1), 1, none⟩ = some (.int .u64 b.w) ∧ w'.cell? ⟨(w.heap.size + 1), 2, none⟩ = some (.int .u64 b.x) ∧ w'.cell? ⟨(w.heap.size + 1), 3, none⟩ = some (.int .i64 b.fr) ∧ w'.cell? ⟨(w.heap.size + 1), 4, none⟩ = some (.int .i64 b.fm)) (by kernel_rfl) HS.out (fun hHeld => ?_)
    clear HS
    refine wpAnyH_take (i := 0) (oi := ?p0y7) (v := ?v0y7) ?o0y7 (by kernel_rfl) (by kernel_rfl) (by kernel_rfl) ?q0y7 ?y0y7 (by assumption) ?r0y7
    case o0y7 => (simp only [List.getElem?_toArray, List.getElem?_cons_zero]; rfl)
    case q0y7 => (exact fun _ _ _ h => h)
    case y0y7 => (refine Or.inl ⟨by rfl, ?_⟩; intro w hSw; (try dsimp only at hSw); go_simp; (try with_reducible rfl))
    simp only [Act.put, List.setIfInBounds_toArray, List.set_cons_zero, List.set_cons_succ]
    refine wpAnyH_take (i := 1) (oi := ?p1y8) (v := ?v1y8) ?o1y8 (by kernel_rfl) (by kernel_rfl) (by kernel_rfl) ?q1y8 ?y1y8 (by assumption) ?r1y8
    case o1y8 => (simp only [List.getElem?_toArray, List.getElem?_cons_succ, List.getElem?_cons_zero]; rfl)
    case q1y8 => (exact fun _ _ _ h => h)
    case y1y8 => (refine Or.inl ⟨by rfl, ?_⟩; intro w hSw; (try dsimp only at hSw); go_simp; (try with_reducible rfl))
    simp only [Act.put, List.setIfInBounds_toArray, List.set_cons_zero, List.set_cons_succ]
    refine wpAnyH_ready (rs := [2]) (by kernel_rfl) (by simp) ?_
    refine AllReadyH.cons (o := ?pc9) ?oc9 (fun K hK => ?wc9) AllReadyH.nil
    case oc9 => (simp only [List.getElem?_toArray, List.getElem?_cons_succ, List.getElem?_cons_zero]; rfl)
    rw [if_pos (by rfl)]
    go_simp
    refine (HWb.out _ K10.out.drew).mono ?_; rintro r w11 ⟨rfl, hg⟩
    (try go_wp2_with fail)
    have hH' := tc7_kp hHeld hg
    have K11 := Lib.hid (K10.out.drew.trans hg)
    have BB11 := Lib.hid (BB10.out.drew.kp hg)
    refine hK.out _ _ hH' (fun hHeld2 => ?_)
    clear hK K hg hH' hHeld
    have hHeld := hHeld2
    clear hHeld2
    refine wpAnyH_ready (rs := [3]) (by kernel_rfl) (by simp) ?_
    refine AllReadyH.cons (o := ?pc10) ?oc10 (fun K hK => ?wc10) AllReadyH.nil
    case oc10 => (simp only [List.getElem?_toArray, List.getElem?_cons_succ, List.getElem?_cons_zero]; rfl)
    rw [if_pos (by rfl)]
    go_simp
    refine (meets_is a1 a2 b1 b2 true hm1 _).mono ?_; rintro r w12 ⟨rfl, hg⟩
    (try go_wp2_with fail)
    have hH' := tc7_kp hHeld hg
    have K12 := Lib.hid (K11.out.trans hg)
    have BB12 := Lib.hid (BB11.out.kp hg)
    refine hK.out _ _ hH' (fun hHeld2 => ?_)
    clear hK K hg hH' hHeld
    have hHeld := hHeld2
    clear hHeld2
    refine wpAnyH_take (i := 4) (oi := ?p4y11) (v := ?v4y11) ?o4y11 (by kernel_rfl) (by kernel_rfl) (by kernel_rfl) ?q4y11 ?y4y11 (by assumption) ?r4y11
    case o4y11 => (simp only [List.getElem?_toArray, List.getElem?_cons_succ, List.getElem?_cons_zero]; rfl)
    case q4y11 => (exact fun _ _ _ h => h)
    case y4y11 => (refine Or.inl ⟨by rfl, ?_⟩; intro w hSw; (try dsimp only at hSw); go_simp; (try with_reducible rfl))
    simp only [Act.put, List.setIfInBounds_toArray, List.set_cons_zero, List.set_cons_succ]
    refine wpAnyH_take (i := 5) (oi := ?p5y12) (v := undef) ?o5y12 (by kernel_rfl) (by kernel_rfl) (by kernel_rfl) ?q5y12 ?y5y12 (by assumption) ?r5y12
    case o5y12 => (simp only [List.getElem?_toArray, List.getElem?_cons_succ, List.getElem?_cons_zero]; rfl)
    case q5y12 => (exact fun _ _ _ h => h)
    case y5y12 => (exact Or.inr ⟨by rfl, rfl⟩)
    simp only [Act.put, List.setIfInBounds_toArray, List.set_cons_zero, List.set_cons_succ]
    refine wpAnyH_take (i := 6) (oi := ?p6y13) (v := undef) ?o6y13 (by kernel_rfl) (by kernel_rfl) (by kernel_rfl) ?q6y13 ?y6y13 (by assumption) ?r6y13
    case o6y13 => (simp only [List.getElem?_toArray, List.getElem?_cons_succ, List.getElem?_cons_zero]; rfl)
    case q6y13 => (exact fun _ _ _ h => h)
    case y6y13 => (exact Or.inr ⟨by rfl, rfl⟩)
    simp only [Act.put, List.setIfInBounds_toArray, List.set_cons_zero, List.set_cons_succ]
    refine wpAnyH_take (i := 7) (oi := ?p7y14) (v := undef) ?o7y14 (by kernel_rfl) (by kernel_rfl) (by kernel_rfl) ?q7y14 ?y7y14 (by assumption) ?r7y14
    case o7y14 => (simp only [List.getElem?_toArray, List.getElem?_cons_succ, List.getElem?_cons_zero]; rfl)
    case q7y14 => (exact fun _ _ _ h => h)
    case y7y14 => (exact Or.inr ⟨by rfl, rfl⟩)
    simp only [Act.put, List.setIfInBounds_toArray, List.set_cons_zero, List.set_cons_succ]
    refine wpAnyH_take (i := 8) (oi := ?p8y15) (v := undef) ?o8y15 (by kernel_rfl) (by kernel_rfl) (by kernel_rfl) ?q8y15 ?y8y15 (by assumption) ?r8y15
    case o8y15 => (simp only [List.getElem?_toArray, List.getElem?_cons_succ, List.getElem?_cons_zero]; rfl)
    case q8y15 => (exact fun _ _ _ h => h)
    case y8y15 => (exact Or.inr ⟨by rfl, rfl⟩)
    simp only [Act.put, List.setIfInBounds_toArray, List.set_cons_zero, List.set_cons_succ]
    refine wpAnyH_take (i := 9) (oi := ?p9y16) (v := ?v9y16) ?o9y16 (by kernel_rfl) (by kernel_rfl) (by kernel_rfl) ?q9y16 ?y9y16 (by assumption) ?r9y16
    case o9y16 => (simp only [List.getElem?_toArray, List.getElem?_cons_succ, List.getElem?_cons_zero]; rfl)
    case q9y16 => (exact fun _ _ _ h => h)
    case y9y16 => (refine Or.inl ⟨by rfl, ?_⟩; intro w hSw; (try dsimp only at hSw); go_simp; (try with_reducible rfl))
    simp only [Act.put, List.setIfInBounds_toArray, List.set_cons_zero, List.set_cons_succ]
    refine wpAnyH_done (by kernel_rfl) ?_ _
    clear hHeld
    go_wp2_with fail
    go_ret
    exact ⟨ret_bool (a := true) (by simp [hm1]), K12.out⟩
  | false =>
    cases hn1 : meetB a1 a2 b3 b4 with
    | true =>
      refine wp_region_held_drew (S := fun w' => w'.cell? ⟨w2.heap.size, 0, none⟩ = some (.int .u64 (a1 : Nat)) ∧ w'.cell? ⟨w2.heap.size, 1, none⟩ = some (.int .u64 (a2 : Nat)) ∧ w'.cell? ⟨(w.heap.size + 1), 0, none⟩ = some (.int .i8 b.k) ∧ w'.cell? ⟨(w.heap.size + 1), 1, none⟩ = some (.int .u64 b.w) ∧ w'.cell? ⟨(w.heap.size + 1), 2, none⟩ = some (.int .u64 b.x) ∧ w'.cell? ⟨(w.heap.size + 1), 3, none⟩ = some (.int .i64 b.fr) ∧ w'.cell? ⟨(w.heap.size + 1), 4, none⟩ = some (.int .i64 b.fm)) (by kernel_rfl) HS.out (fun hHeld => ?_)
      clear HS
      refine wpAnyH_take (i := 0) (oi := ?p0y17) (v := ?v0y17) ?o0y17 (by kernel_rfl) (by kernel_rfl) (by kernel_rfl) ?q0y17 ?y0y17 (by assumption) ?r0y17
      case o0y17 => (simp only [List.getElem?_toArray, List.getElem?_cons_zero]; rfl)
      case q0y17 => (exact fun _ _ _ h => h)
      case y0y17 => (refine Or.inl ⟨by rfl, ?_⟩; intro w hSw; (try dsimp only at hSw); go_simp; (try with_reducible rfl))
      simp only [Act.put, List.setIfInBounds_toArray, List.set_cons_zero, List.set_cons_succ]
      refine wpAnyH_take (i := 1) (oi := ?p1y18) (v := ?v1y18) ?o1y18 (by kernel_rfl) (by kernel_rfl) (by kernel_rfl) ?q1y18 ?y1y18 (by assumption) ?r1y18
      case o1y18 => (simp only [List.getElem?_toArray, List.getElem?_cons_succ, List.getElem?_cons_zero]; rfl)
      case q1y18 => (exact fun _ _ _ h => h)
      case y1y18 => (refine Or.inl ⟨by rfl, ?_⟩; intro w hSw; (try dsimp only at hSw); go_simp; (try with_reducible rfl))
      simp only [Act.put, List.setIfInBounds_toArray, List.set_cons_zero, List.set_cons_succ]
      refine wpAnyH_ready (rs := [2]) (by kernel_rfl) (by simp) ?_
      refine AllReadyH.cons (o := ?pc19) ?oc19 (fun K hK => ?wc19) AllReadyH.nil
      case oc19 => (simp only [List.getElem?_toArray, List.getElem?_cons_succ, List.getElem?_cons_zero]; rfl)
      rw [if_pos (by rfl)]
      go_simp
      refine (HWb.out _ K10.out.drew).mono ?_; rintro r w11 ⟨rfl, hg⟩
      (try go_wp2_with fail)
      have hH' := tc7_kp hHeld hg
      have K11 := Lib.hid (K10.out.drew.trans hg)
      have BB11 := Lib.hid (BB10.out.drew.kp hg)
      refine hK.out _ _ hH' (fun hHeld2 => ?_)
      clear hK K hg hH' hHeld
      have hHeld := hHeld2
      clear hHeld2
      refine wpAnyH_ready (rs := [3]) (by kernel_rfl) (by simp) ?_
      refine AllReadyH.cons (o := ?pc20) ?oc20 (fun K hK => ?wc20) AllReadyH.nil
      case oc20 => (simp only [List.getElem?_toArray, List.getElem?_cons_succ, List.getElem?_cons_zero]; rfl)
      rw [if_pos (by rfl)]
      go_simp
      refine (meets_is a1 a2 b1 b2 false hm1 _).mono ?_; rintro r w12 ⟨rfl, hg⟩
      (try go_wp2_with fail)
      have hH' := tc7_kp hHeld hg
      have K12 := Lib.hid (K11.out.trans hg)
      have BB12 := Lib.hid (BB11.out.kp hg)
      refine hK.out _ _ hH' (fun hHeld2 => ?_)
      clear hK K hg hH' hHeld
      have hHeld := hHeld2
      clear hHeld2
      refine wpAnyH_take (i := 4) (oi := ?p4y21) (v := ?v4y21) ?o4y21 (by kernel_rfl) (by kernel_rfl) (by kernel_rfl) ?q4y21 ?y4y21 (by assumption) ?r4y21
      case o4y21 => (simp only [List.getElem?_toArray, List.getElem?_cons_succ, List.getElem?_cons_zero]; rfl)
      case q4y21 => (exact fun _ _ _ h => h)
      case y4y21 => (refine Or.inl ⟨by rfl, ?_⟩; intro w hSw; (try dsimp only at hSw); go_simp; (try with_reducible rfl))
      simp only [Act.put, List.setIfInBounds_toArray, List.set_cons_zero, List.set_cons_succ]
      refine wpAnyH_take (i := 5) (oi := ?p5y22) (v := ?v5y22) ?o5y22 (by kernel_rfl) (by kernel_rfl) (by kernel_rfl) ?q5y22 ?y5y22 (by assumption) ?r5y22
      case o5y22 => (simp only [List.getElem?_toArray, List.getElem?_cons_succ, List.getElem?_cons_zero]; rfl)
      case q5y22 => (exact fun _ _ _ h => h)
      case y5y22 => (refine Or.inl ⟨by rfl, ?_⟩; intro w hSw; (try dsimp only at hSw); go_simp; (try with_reducible rfl))
      simp only [Act.put, List.setIfInBounds_toArray, List.set_cons_zero, List.set_cons_succ]
      refine wpAnyH_take (i := 6) (oi := ?p6y23) (v := ?v6y23) ?o6y23 (by kernel_rfl) (by kernel_rfl) (by kernel_rfl) ?q6y23 ?y6y23 (by assumption) ?r6y23
      case o6y23 => (simp only [List.getElem?_toArray, List.getElem?_cons_succ, List.getElem?_cons_zero]; rfl)
      case q6y23 => (exact fun _ _ _ h => h)
      case y6y23 => (refine Or.inl ⟨by rfl, ?_⟩; intro w hSw; (try dsimp only at hSw); go_simp; (try with_reducible rfl))
      simp only [Act.put, List.setIfInBounds_toArray, List.set_cons_zero, List.set_cons_succ]
      refine wpAnyH_ready (rs := [7]) (by kernel_rfl) (by simp) ?_
      refine AllReadyH.cons (o := ?pc24) ?oc24 (fun K hK => ?wc24) AllReadyH.nil
      case oc24 => (simp only [List.getElem?_toArray, List.getElem?_cons_succ, List.getElem?_cons_zero]; rfl)
      rw [if_pos (by rfl)]
      go_simp
      refine (HRb.out _ K12.out).mono ?_; rintro r w13 ⟨rfl, hg⟩
      (try go_wp2_with fail)
      have hH' := tc7_kp hHeld hg
      have K13 := Lib.hid (K12.out.trans hg)
      have BB13 := Lib.hid (BB12.out.kp hg)
      refine hK.out _ _ hH' (fun hHeld2 => ?_)
      clear hK K hg hH' hHeld
      have hHeld := hHeld2
      clear hHeld2
      refine wpAnyH_ready (rs := [8]) (by kernel_rfl) (by simp) ?_
      refine AllReadyH.cons (o := ?pc25) ?oc25 (fun K hK => ?wc25) AllReadyH.nil
      case oc25 => (simp only [List.getElem?_toArray, List.getElem?_cons_succ, List.getElem?_cons_zero]; rfl)
      rw [if_pos (by rfl)]
      go_simp
      refine (meets_is a1 a2 b3 b4 true hn1 _).mono ?_; rintro r w14 ⟨rfl, hg⟩
      (try go_wp2_with fail)
      have hH' := tc7_kp hHeld hg
      have K14 := Lib.hid (K13.out.trans hg)
      have BB14 := Lib.hid (BB13.out.kp hg)
      refine hK.out _ _ hH' (fun hHeld2 => ?_)
      clear hK K hg hH' hHeld
      have hHeld := hHeld2
      clear hHeld2
      refine wpAnyH_take (i := 9) (oi := ?p9y26) (v := ?v9y26) ?o9y26 (by kernel_rfl) (by kernel_rfl) (by kernel_rfl) ?q9y26 ?y9y26 (by assumption) ?r9y26
      case o9y26 => (simp only [List.getElem?_toArray, List.getElem?_cons_succ, List.getElem?_cons_zero]; rfl)
      case q9y26 => (exact fun _ _ _ h => h)
      case y9y26 => (refine Or.inl ⟨by rfl, ?_⟩; intro w hSw; (try dsimp only at hSw); go_simp; (try with_reducible rfl))
      simp only [Act.put, List.setIfInBounds_toArray, List.set_cons_zero, List.set_cons_succ]
      refine wpAnyH_done (by kernel_rfl) ?_ _
      clear hHeld
      go_wp2_with fail
      go_ret
      exact ⟨ret_bool (a := true) (by simp [hn1]), K14.out⟩
    | false =>
      refine wp_region_held_drew (S := fun w' => w'.cell? ⟨w2.heap.size, 0, none⟩ = some (.int .u64 (a1 : Nat)) ∧ w'.cell? ⟨w2.heap.size, 1, none⟩ = some (.int .u64 (a2 : Nat)) ∧ w'.cell? ⟨(w.heap.size + 1), 0, none⟩ = some (.int .i8 b.k) ∧ w'.cell? ⟨(w.heap.size + 1), 1, none⟩ = some (.int .u64 b.w) ∧ w'.cell? ⟨(w.heap.size + 1), 2, none⟩ = some (.int .u64 b.x) ∧ w'.cell? ⟨(w.heap.size + 1), 3, none⟩ = some (.int .i64 b.fr) ∧ w'.cell? ⟨(w.heap.size + 1), 4, none⟩ = some (.int .i64 b.fm)) (by kernel_rfl) HS.out (fun hHeld => ?_)
      clear HS
      refine wpAnyH_take (i := 0) (oi := ?p0y27) (v := ?v0y27) ?o0y27 (by kernel_rfl) (by kernel_rfl) (by kernel_rfl) ?q0y27 ?y0y27 (by assumption) ?r0y27
      case o0y27 => (simp only [List.getElem?_toArray, List.getElem?_cons_zero]; rfl)
      case q0y27 => (exact fun _ _ _ h => h)
      case y0y27 => (refine Or.inl ⟨by rfl, ?_⟩; intro w hSw; (try dsimp only at hSw); go_simp; (try with_reducible rfl))
      simp only [Act.put, List.setIfInBounds_toArray, List.set_cons_zero, List.set_cons_succ]
      refine wpAnyH_take (i := 1) (oi := ?p1y28) (v := ?v1y28) ?o1y28 (by kernel_rfl) (by kernel_rfl) (by kernel_rfl) ?q1y28 ?y1y28 (by assumption) ?r1y28
      case o1y28 => (simp only [List.getElem?_toArray, List.getElem?_cons_succ, List.getElem?_cons_zero]; rfl)
      case q1y28 => (exact fun _ _ _ h => h)
      case y1y28 => (refine Or.inl ⟨by rfl, ?_⟩; intro w hSw; (try dsimp only at hSw); go_simp; (try with_reducible rfl))
      simp only [Act.put, List.setIfInBounds_toArray, List.set_cons_zero, List.set_cons_succ]
      refine wpAnyH_ready (rs := [2]) (by kernel_rfl) (by simp) ?_
      refine AllReadyH.cons (o := ?pc29) ?oc29 (fun K hK => ?wc29) AllReadyH.nil
      case oc29 => (simp only [List.getElem?_toArray, List.getElem?_cons_succ, List.getElem?_cons_zero]; rfl)
      rw [if_pos (by rfl)]
      go_simp
      refine (HWb.out _ K10.out.drew).mono ?_; rintro r w11 ⟨rfl, hg⟩
      (try go_wp2_with fail)
      have hH' := tc7_kp hHeld hg
      have K11 := Lib.hid (K10.out.drew.trans hg)
      have BB11 := Lib.hid (BB10.out.drew.kp hg)
      refine hK.out _ _ hH' (fun hHeld2 => ?_)
      clear hK K hg hH' hHeld
      have hHeld := hHeld2
      clear hHeld2
      refine wpAnyH_ready (rs := [3]) (by kernel_rfl) (by simp) ?_
      refine AllReadyH.cons (o := ?pc30) ?oc30 (fun K hK => ?wc30) AllReadyH.nil
      case oc30 => (simp only [List.getElem?_toArray, List.getElem?_cons_succ, List.getElem?_cons_zero]; rfl)
      rw [if_pos (by rfl)]
      go_simp
      refine (meets_is a1 a2 b1 b2 false hm1 _).mono ?_; rintro r w12 ⟨rfl, hg⟩
      (try go_wp2_with fail)
      have hH' := tc7_kp hHeld hg
      have K12 := Lib.hid (K11.out.trans hg)
      have BB12 := Lib.hid (BB11.out.kp hg)
      refine hK.out _ _ hH' (fun hHeld2 => ?_)
      clear hK K hg hH' hHeld
      have hHeld := hHeld2
      clear hHeld2
      refine wpAnyH_take (i := 4) (oi := ?p4y31) (v := ?v4y31) ?o4y31 (by kernel_rfl) (by kernel_rfl) (by kernel_rfl) ?q4y31 ?y4y31 (by assumption) ?r4y31
      case o4y31 => (simp only [List.getElem?_toArray, List.getElem?_cons_succ, List.getElem?_cons_zero]; rfl)
      case q4y31 => (exact fun _ _ _ h => h)
      case y4y31 => (refine Or.inl ⟨by rfl, ?_⟩; intro w hSw; (try dsimp only at hSw); go_simp; (try with_reducible rfl))
      simp only [Act.put, List.setIfInBounds_toArray, List.set_cons_zero, List.set_cons_succ]
      refine wpAnyH_take (i := 5) (oi := ?p5y32) (v := ?v5y32) ?o5y32 (by kernel_rfl) (by kernel_rfl) (by kernel_rfl) ?q5y32 ?y5y32 (by assumption) ?r5y32
      case o5y32 => (simp only [List.getElem?_toArray, List.getElem?_cons_succ, List.getElem?_cons_zero]; rfl)
      case q5y32 => (exact fun _ _ _ h => h)
      case y5y32 => (refine Or.inl ⟨by rfl, ?_⟩; intro w hSw; (try dsimp only at hSw); go_simp; (try with_reducible rfl))
      simp only [Act.put, List.setIfInBounds_toArray, List.set_cons_zero, List.set_cons_succ]
      refine wpAnyH_take (i := 6) (oi := ?p6y33) (v := ?v6y33) ?o6y33 (by kernel_rfl) (by kernel_rfl) (by kernel_rfl) ?q6y33 ?y6y33 (by assumption) ?r6y33
      case o6y33 => (simp only [List.getElem?_toArray, List.getElem?_cons_succ, List.getElem?_cons_zero]; rfl)
      case q6y33 => (exact fun _ _ _ h => h)
      case y6y33 => (refine Or.inl ⟨by rfl, ?_⟩; intro w hSw; (try dsimp only at hSw); go_simp; (try with_reducible rfl))
      simp only [Act.put, List.setIfInBounds_toArray, List.set_cons_zero, List.set_cons_succ]
      refine wpAnyH_ready (rs := [7]) (by kernel_rfl) (by simp) ?_
      refine AllReadyH.cons (o := ?pc34) ?oc34 (fun K hK => ?wc34) AllReadyH.nil
      case oc34 => (simp only [List.getElem?_toArray, List.getElem?_cons_succ, List.getElem?_cons_zero]; rfl)
      rw [if_pos (by rfl)]
      go_simp
      refine (HRb.out _ K12.out).mono ?_; rintro r w13 ⟨rfl, hg⟩
      (try go_wp2_with fail)
      have hH' := tc7_kp hHeld hg
      have K13 := Lib.hid (K12.out.trans hg)
      have BB13 := Lib.hid (BB12.out.kp hg)
      refine hK.out _ _ hH' (fun hHeld2 => ?_)
      clear hK K hg hH' hHeld
      have hHeld := hHeld2
      clear hHeld2
      refine wpAnyH_ready (rs := [8]) (by kernel_rfl) (by simp) ?_
      refine AllReadyH.cons (o := ?pc35) ?oc35 (fun K hK => ?wc35) AllReadyH.nil
      case oc35 => (simp only [List.getElem?_toArray, List.getElem?_cons_succ, List.getElem?_cons_zero]; rfl)
      rw [if_pos (by rfl)]
      go_simp
      refine (meets_is a1 a2 b3 b4 false hn1 _).mono ?_; rintro r w14 ⟨rfl, hg⟩
      (try go_wp2_with fail)
      have hH' := tc7_kp hHeld hg
      have K14 := Lib.hid (K13.out.trans hg)
      have BB14 := Lib.hid (BB13.out.kp hg)
      refine hK.out _ _ hH' (fun hHeld2 => ?_)
      clear hK K hg hH' hHeld
      have hHeld := hHeld2
      clear hHeld2
      refine wpAnyH_take (i := 9) (oi := ?p9y36) (v := ?v9y36) ?o9y36 (by kernel_rfl) (by kernel_rfl) (by kernel_rfl) ?q9y36 ?y9y36 (by assumption) ?r9y36
      case o9y36 => (simp only [List.getElem?_toArray, List.getElem?_cons_succ, List.getElem?_cons_zero]; rfl)
      case q9y36 => (exact fun _ _ _ h => h)
      case y9y36 => (refine Or.inl ⟨by rfl, ?_⟩; intro w hSw; (try dsimp only at hSw); go_simp; (try with_reducible rfl))
      simp only [Act.put, List.setIfInBounds_toArray, List.set_cons_zero, List.set_cons_succ]
      refine wpAnyH_done (by kernel_rfl) ?_ _
      clear hHeld
      go_wp2_with fail
      rw [rounds_succ]
      go_wp2_with fail
      have kS := kpA w14 #[.int .u64 a3, .int .u64 a4] 55
      have K20 := Lib.hid (K14.out.trans kS)
      have BS := Blk.new w14 #[.int .u64 a3, .int .u64 a4] 55
      have hS : (w14.alloc (.cells #[.int .u64 a3, .int .u64 a4] 55)).cell? ⟨w14.heap.size, 0, none⟩ = some (.int .u64 (a3 : Nat)) ∧ (w14.alloc (.cells #[.int .u64 a3, .int .u64 a4] 55)).cell? ⟨w14.heap.size, 1, none⟩ = some (.int .u64 (a4 : Nat)) ∧ (w14.alloc (.cells #[.int .u64 a3, .int .u64 a4] 55)).cell? ⟨(w.heap.size + 1), 0, none⟩ = some (.int .i8 b.k) ∧ (w14.alloc (.cells #[.int .u64 a3, .int .u64 a4] 55)).cell? ⟨(w.heap.size + 1), 1, none⟩ = some (.int .u64 b.w) ∧ (w14.alloc (.cells #[.int .u64 a3, .int .u64 a4] 55)).cell? ⟨(w.heap.size + 1), 2, none⟩ = some (.int .u64 b.x) ∧ (w14.alloc (.cells #[.int .u64 a3, .int .u64 a4] 55)).cell? ⟨(w.heap.size + 1), 3, none⟩ = some (.int .i64 b.fr) ∧ (w14.alloc (.cells #[.int .u64 a3, .int .u64 a4] 55)).cell? ⟨(w.heap.size + 1), 4, none⟩ = some (.int .i64 b.fm) := ⟨BS.cell 0, BS.cell 1, tc5_kp (Ent.five BB14.out) kS⟩
      have BB20 := Lib.hid (BB14.out.kp kS)
      clear kS BS
      have HS := Lib.hid hS; clear hS
      cases hm2 : meetB a3 a4 b1 b2 with
      | true =>
        refine wp_region_held_drew (S := fun w' => w'.cell? ⟨w14.heap.size, 0, none⟩ = some (.int .u64 (a3 : Nat)) ∧ w'.cell? ⟨w14.heap.size, 1, none⟩ = some (.int .u64 (a4 : Nat)) ∧ w'.cell? ⟨(w.heap.size + 1), 0, none⟩ = some (.int .i8 b.k) ∧ w'.cell? ⟨(w.heap.size + 1), 1, none⟩ = some (.int .u64 b.w) ∧ w'.cell? ⟨(w.heap.size + 1), 2, none⟩ = some (.int .u64 b.x) ∧ w'.cell? ⟨(w.heap.size + 1), 3, none⟩ = some (.int .i64 b.fr) ∧ w'.cell? ⟨(w.heap.size + 1), 4, none⟩ = some (.int .i64 b.fm)) (by kernel_rfl) HS.out (fun hHeld => ?_)
        clear HS
        refine wpAnyH_take (i := 0) (oi := ?p0y37) (v := ?v0y37) ?o0y37 (by kernel_rfl) (by kernel_rfl) (by kernel_rfl) ?q0y37 ?y0y37 (by assumption) ?r0y37
        case o0y37 => (simp only [List.getElem?_toArray, List.getElem?_cons_zero]; rfl)
        case q0y37 => (exact fun _ _ _ h => h)
        case y0y37 => (refine Or.inl ⟨by rfl, ?_⟩; intro w hSw; (try dsimp only at hSw); go_simp; (try with_reducible rfl))
        simp only [Act.put, List.setIfInBounds_toArray, List.set_cons_zero, List.set_cons_succ]
        refine wpAnyH_take (i := 1) (oi := ?p1y38) (v := ?v1y38) ?o1y38 (by kernel_rfl) (by kernel_rfl) (by kernel_rfl) ?q1y38 ?y1y38 (by assumption) ?r1y38
        case o1y38 => (simp only [List.getElem?_toArray, List.getElem?_cons_succ, List.getElem?_cons_zero]; rfl)
        case q1y38 => (exact fun _ _ _ h => h)
        case y1y38 => (refine Or.inl ⟨by rfl, ?_⟩; intro w hSw; (try dsimp only at hSw); go_simp; (try with_reducible rfl))
        simp only [Act.put, List.setIfInBounds_toArray, List.set_cons_zero, List.set_cons_succ]
        refine wpAnyH_ready (rs := [2]) (by kernel_rfl) (by simp) ?_
        refine AllReadyH.cons (o := ?pc39) ?oc39 (fun K hK => ?wc39) AllReadyH.nil
        case oc39 => (simp only [List.getElem?_toArray, List.getElem?_cons_succ, List.getElem?_cons_zero]; rfl)
        rw [if_pos (by rfl)]
        go_simp
        refine (HWb.out _ K20.out.drew).mono ?_; rintro r w21 ⟨rfl, hg⟩
        (try go_wp2_with fail)
        have hH' := tc7_kp hHeld hg
        have K21 := Lib.hid (K20.out.drew.trans hg)
        have BB21 := Lib.hid (BB20.out.drew.kp hg)
        refine hK.out _ _ hH' (fun hHeld2 => ?_)
        clear hK K hg hH' hHeld
        have hHeld := hHeld2
        clear hHeld2
        refine wpAnyH_ready (rs := [3]) (by kernel_rfl) (by simp) ?_
        refine AllReadyH.cons (o := ?pc40) ?oc40 (fun K hK => ?wc40) AllReadyH.nil
        case oc40 => (simp only [List.getElem?_toArray, List.getElem?_cons_succ, List.getElem?_cons_zero]; rfl)
        rw [if_pos (by rfl)]
        go_simp
        refine (meets_is a3 a4 b1 b2 true hm2 _).mono ?_; rintro r w22 ⟨rfl, hg⟩
        (try go_wp2_with fail)
        have hH' := tc7_kp hHeld hg
        have K22 := Lib.hid (K21.out.trans hg)
        have BB22 := Lib.hid (BB21.out.kp hg)
        refine hK.out _ _ hH' (fun hHeld2 => ?_)
        clear hK K hg hH' hHeld
        have hHeld := hHeld2
        clear hHeld2
        refine wpAnyH_take (i := 4) (oi := ?p4y41) (v := ?v4y41) ?o4y41 (by kernel_rfl) (by kernel_rfl) (by kernel_rfl) ?q4y41 ?y4y41 (by assumption) ?r4y41
        case o4y41 => (simp only [List.getElem?_toArray, List.getElem?_cons_succ, List.getElem?_cons_zero]; rfl)
        case q4y41 => (exact fun _ _ _ h => h)
        case y4y41 => (refine Or.inl ⟨by rfl, ?_⟩; intro w hSw; (try dsimp only at hSw); go_simp; (try with_reducible rfl))
        simp only [Act.put, List.setIfInBounds_toArray, List.set_cons_zero, List.set_cons_succ]
        refine wpAnyH_take (i := 5) (oi := ?p5y42) (v := undef) ?o5y42 (by kernel_rfl) (by kernel_rfl) (by kernel_rfl) ?q5y42 ?y5y42 (by assumption) ?r5y42
        case o5y42 => (simp only [List.getElem?_toArray, List.getElem?_cons_succ, List.getElem?_cons_zero]; rfl)
        case q5y42 => (exact fun _ _ _ h => h)
        case y5y42 => (exact Or.inr ⟨by rfl, rfl⟩)
        simp only [Act.put, List.setIfInBounds_toArray, List.set_cons_zero, List.set_cons_succ]
        refine wpAnyH_take (i := 6) (oi := ?p6y43) (v := undef) ?o6y43 (by kernel_rfl) (by kernel_rfl) (by kernel_rfl) ?q6y43 ?y6y43 (by assumption) ?r6y43
        case o6y43 => (simp only [List.getElem?_toArray, List.getElem?_cons_succ, List.getElem?_cons_zero]; rfl)
        case q6y43 => (exact fun _ _ _ h => h)
        case y6y43 => (exact Or.inr ⟨by rfl, rfl⟩)
        simp only [Act.put, List.setIfInBounds_toArray, List.set_cons_zero, List.set_cons_succ]
        refine wpAnyH_take (i := 7) (oi := ?p7y44) (v := undef) ?o7y44 (by kernel_rfl) (by kernel_rfl) (by kernel_rfl) ?q7y44 ?y7y44 (by assumption) ?r7y44
        case o7y44 => (simp only [List.getElem?_toArray, List.getElem?_cons_succ, List.getElem?_cons_zero]; rfl)
        case q7y44 => (exact fun _ _ _ h => h)
        case y7y44 => (exact Or.inr ⟨by rfl, rfl⟩)
        simp only [Act.put, List.setIfInBounds_toArray, List.set_cons_zero, List.set_cons_succ]
        refine wpAnyH_take (i := 8) (oi := ?p8y45) (v := undef) ?o8y45 (by kernel_rfl) (by kernel_rfl) (by kernel_rfl) ?q8y45 ?y8y45 (by assumption) ?r8y45
        case o8y45 => (simp only [List.getElem?_toArray, List.getElem?_cons_succ, List.getElem?_cons_zero]; rfl)
        case q8y45 => (exact fun _ _ _ h => h)
        case y8y45 => (exact Or.inr ⟨by rfl, rfl⟩)
        simp only [Act.put, List.setIfInBounds_toArray, List.set_cons_zero, List.set_cons_succ]
        refine wpAnyH_take (i := 9) (oi := ?p9y46) (v := ?v9y46) ?o9y46 (by kernel_rfl) (by kernel_rfl) (by kernel_rfl) ?q9y46 ?y9y46 (by assumption) ?r9y46
        case o9y46 => (simp only [List.getElem?_toArray, List.getElem?_cons_succ, List.getElem?_cons_zero]; rfl)
        case q9y46 => (exact fun _ _ _ h => h)
        case y9y46 => (refine Or.inl ⟨by rfl, ?_⟩; intro w hSw; (try dsimp only at hSw); go_simp; (try with_reducible rfl))
        simp only [Act.put, List.setIfInBounds_toArray, List.set_cons_zero, List.set_cons_succ]
        refine wpAnyH_done (by kernel_rfl) ?_ _
        clear hHeld
        go_wp2_with fail
        go_ret
        exact ⟨ret_bool (a := true) (by simp [hm2]), K22.out⟩
      | false =>
        cases hn2 : meetB a3 a4 b3 b4 with
        | true =>
          refine wp_region_held_drew (S := fun w' => w'.cell? ⟨w14.heap.size, 0, none⟩ = some (.int .u64 (a3 : Nat)) ∧ w'.cell? ⟨w14.heap.size, 1, none⟩ = some (.int .u64 (a4 : Nat)) ∧ w'.cell? ⟨(w.heap.size + 1), 0, none⟩ = some (.int .i8 b.k) ∧ w'.cell? ⟨(w.heap.size + 1), 1, none⟩ = some (.int .u64 b.w) ∧ w'.cell? ⟨(w.heap.size + 1), 2, none⟩ = some (.int .u64 b.x) ∧ w'.cell? ⟨(w.heap.size + 1), 3, none⟩ = some (.int .i64 b.fr) ∧ w'.cell? ⟨(w.heap.size + 1), 4, none⟩ = some (.int .i64 b.fm)) (by kernel_rfl) HS.out (fun hHeld => ?_)
          clear HS
          refine wpAnyH_take (i := 0) (oi := ?p0y47) (v := ?v0y47) ?o0y47 (by kernel_rfl) (by kernel_rfl) (by kernel_rfl) ?q0y47 ?y0y47 (by assumption) ?r0y47
          case o0y47 => (simp only [List.getElem?_toArray, List.getElem?_cons_zero]; rfl)
          case q0y47 => (exact fun _ _ _ h => h)
          case y0y47 => (refine Or.inl ⟨by rfl, ?_⟩; intro w hSw; (try dsimp only at hSw); go_simp; (try with_reducible rfl))
          simp only [Act.put, List.setIfInBounds_toArray, List.set_cons_zero, List.set_cons_succ]
          refine wpAnyH_take (i := 1) (oi := ?p1y48) (v := ?v1y48) ?o1y48 (by kernel_rfl) (by kernel_rfl) (by kernel_rfl) ?q1y48 ?y1y48 (by assumption) ?r1y48
          case o1y48 => (simp only [List.getElem?_toArray, List.getElem?_cons_succ, List.getElem?_cons_zero]; rfl)
          case q1y48 => (exact fun _ _ _ h => h)
          case y1y48 => (refine Or.inl ⟨by rfl, ?_⟩; intro w hSw; (try dsimp only at hSw); go_simp; (try with_reducible rfl))
          simp only [Act.put, List.setIfInBounds_toArray, List.set_cons_zero, List.set_cons_succ]
          refine wpAnyH_ready (rs := [2]) (by kernel_rfl) (by simp) ?_
          refine AllReadyH.cons (o := ?pc49) ?oc49 (fun K hK => ?wc49) AllReadyH.nil
          case oc49 => (simp only [List.getElem?_toArray, List.getElem?_cons_succ, List.getElem?_cons_zero]; rfl)
          rw [if_pos (by rfl)]
          go_simp
          refine (HWb.out _ K20.out.drew).mono ?_; rintro r w21 ⟨rfl, hg⟩
          (try go_wp2_with fail)
          have hH' := tc7_kp hHeld hg
          have K21 := Lib.hid (K20.out.drew.trans hg)
          have BB21 := Lib.hid (BB20.out.drew.kp hg)
          refine hK.out _ _ hH' (fun hHeld2 => ?_)
          clear hK K hg hH' hHeld
          have hHeld := hHeld2
          clear hHeld2
          refine wpAnyH_ready (rs := [3]) (by kernel_rfl) (by simp) ?_
          refine AllReadyH.cons (o := ?pc50) ?oc50 (fun K hK => ?wc50) AllReadyH.nil
          case oc50 => (simp only [List.getElem?_toArray, List.getElem?_cons_succ, List.getElem?_cons_zero]; rfl)
          rw [if_pos (by rfl)]
          go_simp
          refine (meets_is a3 a4 b1 b2 false hm2 _).mono ?_; rintro r w22 ⟨rfl, hg⟩
          (try go_wp2_with fail)
          have hH' := tc7_kp hHeld hg
          have K22 := Lib.hid (K21.out.trans hg)
          have BB22 := Lib.hid (BB21.out.kp hg)
          refine hK.out _ _ hH' (fun hHeld2 => ?_)
          clear hK K hg hH' hHeld
          have hHeld := hHeld2
          clear hHeld2
          refine wpAnyH_take (i := 4) (oi := ?p4y51) (v := ?v4y51) ?o4y51 (by kernel_rfl) (by kernel_rfl) (by kernel_rfl) ?q4y51 ?y4y51 (by assumption) ?r4y51
          case o4y51 => (simp only [List.getElem?_toArray, List.getElem?_cons_succ, List.getElem?_cons_zero]; rfl)
          case q4y51 => (exact fun _ _ _ h => h)
          case y4y51 => (refine Or.inl ⟨by rfl, ?_⟩; intro w hSw; (try dsimp only at hSw); go_simp; (try with_reducible rfl))
          simp only [Act.put, List.setIfInBounds_toArray, List.set_cons_zero, List.set_cons_succ]
          refine wpAnyH_take (i := 5) (oi := ?p5y52) (v := ?v5y52) ?o5y52 (by kernel_rfl) (by kernel_rfl) (by kernel_rfl) ?q5y52 ?y5y52 (by assumption) ?r5y52
          case o5y52 => (simp only [List.getElem?_toArray, List.getElem?_cons_succ, List.getElem?_cons_zero]; rfl)
          case q5y52 => (exact fun _ _ _ h => h)
          case y5y52 => (refine Or.inl ⟨by rfl, ?_⟩; intro w hSw; (try dsimp only at hSw); go_simp; (try with_reducible rfl))
          simp only [Act.put, List.setIfInBounds_toArray, List.set_cons_zero, List.set_cons_succ]
          refine wpAnyH_take (i := 6) (oi := ?p6y53) (v := ?v6y53) ?o6y53 (by kernel_rfl) (by kernel_rfl) (by kernel_rfl) ?q6y53 ?y6y53 (by assumption) ?r6y53
          case o6y53 => (simp only [List.getElem?_toArray, List.getElem?_cons_succ, List.getElem?_cons_zero]; rfl)
          case q6y53 => (exact fun _ _ _ h => h)
          case y6y53 => (refine Or.inl ⟨by rfl, ?_⟩; intro w hSw; (try dsimp only at hSw); go_simp; (try with_reducible rfl))
          simp only [Act.put, List.setIfInBounds_toArray, List.set_cons_zero, List.set_cons_succ]
          refine wpAnyH_ready (rs := [7]) (by kernel_rfl) (by simp) ?_
          refine AllReadyH.cons (o := ?pc54) ?oc54 (fun K hK => ?wc54) AllReadyH.nil
          case oc54 => (simp only [List.getElem?_toArray, List.getElem?_cons_succ, List.getElem?_cons_zero]; rfl)
          rw [if_pos (by rfl)]
          go_simp
          refine (HRb.out _ K22.out).mono ?_; rintro r w23 ⟨rfl, hg⟩
          (try go_wp2_with fail)
          have hH' := tc7_kp hHeld hg
          have K23 := Lib.hid (K22.out.trans hg)
          have BB23 := Lib.hid (BB22.out.kp hg)
          refine hK.out _ _ hH' (fun hHeld2 => ?_)
          clear hK K hg hH' hHeld
          have hHeld := hHeld2
          clear hHeld2
          refine wpAnyH_ready (rs := [8]) (by kernel_rfl) (by simp) ?_
          refine AllReadyH.cons (o := ?pc55) ?oc55 (fun K hK => ?wc55) AllReadyH.nil
          case oc55 => (simp only [List.getElem?_toArray, List.getElem?_cons_succ, List.getElem?_cons_zero]; rfl)
          rw [if_pos (by rfl)]
          go_simp
          refine (meets_is a3 a4 b3 b4 true hn2 _).mono ?_; rintro r w24 ⟨rfl, hg⟩
          (try go_wp2_with fail)
          have hH' := tc7_kp hHeld hg
          have K24 := Lib.hid (K23.out.trans hg)
          have BB24 := Lib.hid (BB23.out.kp hg)
          refine hK.out _ _ hH' (fun hHeld2 => ?_)
          clear hK K hg hH' hHeld
          have hHeld := hHeld2
          clear hHeld2
          refine wpAnyH_take (i := 9) (oi := ?p9y56) (v := ?v9y56) ?o9y56 (by kernel_rfl) (by kernel_rfl) (by kernel_rfl) ?q9y56 ?y9y56 (by assumption) ?r9y56
          case o9y56 => (simp only [List.getElem?_toArray, List.getElem?_cons_succ, List.getElem?_cons_zero]; rfl)
          case q9y56 => (exact fun _ _ _ h => h)
          case y9y56 => (refine Or.inl ⟨by rfl, ?_⟩; intro w hSw; (try dsimp only at hSw); go_simp; (try with_reducible rfl))
          simp only [Act.put, List.setIfInBounds_toArray, List.set_cons_zero, List.set_cons_succ]
          refine wpAnyH_done (by kernel_rfl) ?_ _
          clear hHeld
          go_wp2_with fail
          go_ret
          exact ⟨ret_bool (a := true) (by simp [hn2]), K24.out⟩
        | false =>
          refine wp_region_held_drew (S := fun w' => w'.cell? ⟨w14.heap.size, 0, none⟩ = some (.int .u64 (a3 : Nat)) ∧ w'.cell? ⟨w14.heap.size, 1, none⟩ = some (.int .u64 (a4 : Nat)) ∧ w'.cell? ⟨(w.heap.size + 1), 0, none⟩ = some (.int .i8 b.k) ∧ w'.cell? ⟨(w.heap.size + 1), 1, none⟩ = some (.int .u64 b.w) ∧ w'.cell? ⟨(w.heap.size + 1), 2, none⟩ = some (.int .u64 b.x) ∧ w'.cell? ⟨(w.heap.size + 1), 3, none⟩ = some (.int .i64 b.fr) ∧ w'.cell? ⟨(w.heap.size + 1), 4, none⟩ = some (.int .i64 b.fm)) (by kernel_rfl) HS.out (fun hHeld => ?_)
          clear HS
          refine wpAnyH_take (i := 0) (oi := ?p0y57) (v := ?v0y57) ?o0y57 (by kernel_rfl) (by kernel_rfl) (by kernel_rfl) ?q0y57 ?y0y57 (by assumption) ?r0y57
          case o0y57 => (simp only [List.getElem?_toArray, List.getElem?_cons_zero]; rfl)
          case q0y57 => (exact fun _ _ _ h => h)
          case y0y57 => (refine Or.inl ⟨by rfl, ?_⟩; intro w hSw; (try dsimp only at hSw); go_simp; (try with_reducible rfl))
          simp only [Act.put, List.setIfInBounds_toArray, List.set_cons_zero, List.set_cons_succ]
          refine wpAnyH_take (i := 1) (oi := ?p1y58) (v := ?v1y58) ?o1y58 (by kernel_rfl) (by kernel_rfl) (by kernel_rfl) ?q1y58 ?y1y58 (by assumption) ?r1y58
          case o1y58 => (simp only [List.getElem?_toArray, List.getElem?_cons_succ, List.getElem?_cons_zero]; rfl)
          case q1y58 => (exact fun _ _ _ h => h)
          case y1y58 => (refine Or.inl ⟨by rfl, ?_⟩; intro w hSw; (try dsimp only at hSw); go_simp; (try with_reducible rfl))
          simp only [Act.put, List.setIfInBounds_toArray, List.set_cons_zero, List.set_cons_succ]
          refine wpAnyH_ready (rs := [2]) (by kernel_rfl) (by simp) ?_
          refine AllReadyH.cons (o := ?pc59) ?oc59 (fun K hK => ?wc59) AllReadyH.nil
          case oc59 => (simp only [List.getElem?_toArray, List.getElem?_cons_succ, List.getElem?_cons_zero]; rfl)
          rw [if_pos (by rfl)]
          go_simp
          refine (HWb.out _ K20.out.drew).mono ?_; rintro r w21 ⟨rfl, hg⟩
          (try go_wp2_with fail)
          have hH' := tc7_kp hHeld hg
          have K21 := Lib.hid (K20.out.drew.trans hg)
          have BB21 := Lib.hid (BB20.out.drew.kp hg)
          refine hK.out _ _ hH' (fun hHeld2 => ?_)
          clear hK K hg hH' hHeld
          have hHeld := hHeld2
          clear hHeld2
          refine wpAnyH_ready (rs := [3]) (by kernel_rfl) (by simp) ?_
          refine AllReadyH.cons (o := ?pc60) ?oc60 (fun K hK => ?wc60) AllReadyH.nil
          case oc60 => (simp only [List.getElem?_toArray, List.getElem?_cons_succ, List.getElem?_cons_zero]; rfl)
          rw [if_pos (by rfl)]
          go_simp
          refine (meets_is a3 a4 b1 b2 false hm2 _).mono ?_; rintro r w22 ⟨rfl, hg⟩
          (try go_wp2_with fail)
          have hH' := tc7_kp hHeld hg
          have K22 := Lib.hid (K21.out.trans hg)
          have BB22 := Lib.hid (BB21.out.kp hg)
          refine hK.out _ _ hH' (fun hHeld2 => ?_)
          clear hK K hg hH' hHeld
          have hHeld := hHeld2
          clear hHeld2
          refine wpAnyH_take (i := 4) (oi := ?p4y61) (v := ?v4y61) ?o4y61 (by kernel_rfl) (by kernel_rfl) (by kernel_rfl) ?q4y61 ?y4y61 (by assumption) ?r4y61
          case o4y61 => (simp only [List.getElem?_toArray, List.getElem?_cons_succ, List.getElem?_cons_zero]; rfl)
          case q4y61 => (exact fun _ _ _ h => h)
          case y4y61 => (refine Or.inl ⟨by rfl, ?_⟩; intro w hSw; (try dsimp only at hSw); go_simp; (try with_reducible rfl))
          simp only [Act.put, List.setIfInBounds_toArray, List.set_cons_zero, List.set_cons_succ]
          refine wpAnyH_take (i := 5) (oi := ?p5y62) (v := ?v5y62) ?o5y62 (by kernel_rfl) (by kernel_rfl) (by kernel_rfl) ?q5y62 ?y5y62 (by assumption) ?r5y62
          case o5y62 => (simp only [List.getElem?_toArray, List.getElem?_cons_succ, List.getElem?_cons_zero]; rfl)
          case q5y62 => (exact fun _ _ _ h => h)
          case y5y62 => (refine Or.inl ⟨by rfl, ?_⟩; intro w hSw; (try dsimp only at hSw); go_simp; (try with_reducible rfl))
          simp only [Act.put, List.setIfInBounds_toArray, List.set_cons_zero, List.set_cons_succ]
          refine wpAnyH_take (i := 6) (oi := ?p6y63) (v := ?v6y63) ?o6y63 (by kernel_rfl) (by kernel_rfl) (by kernel_rfl) ?q6y63 ?y6y63 (by assumption) ?r6y63
          case o6y63 => (simp only [List.getElem?_toArray, List.getElem?_cons_succ, List.getElem?_cons_zero]; rfl)
          case q6y63 => (exact fun _ _ _ h => h)
          case y6y63 => (refine Or.inl ⟨by rfl, ?_⟩; intro w hSw; (try dsimp only at hSw); go_simp; (try with_reducible rfl))
          simp only [Act.put, List.setIfInBounds_toArray, List.set_cons_zero, List.set_cons_succ]
          refine wpAnyH_ready (rs := [7]) (by kernel_rfl) (by simp) ?_
          refine AllReadyH.cons (o := ?pc64) ?oc64 (fun K hK => ?wc64) AllReadyH.nil
          case oc64 => (simp only [List.getElem?_toArray, List.getElem?_cons_succ, List.getElem?_cons_zero]; rfl)
          rw [if_pos (by rfl)]
          go_simp
          refine (HRb.out _ K22.out).mono ?_; rintro r w23 ⟨rfl, hg⟩
          (try go_wp2_with fail)
          have hH' := tc7_kp hHeld hg
          have K23 := Lib.hid (K22.out.trans hg)
          have BB23 := Lib.hid (BB22.out.kp hg)
          refine hK.out _ _ hH' (fun hHeld2 => ?_)
          clear hK K hg hH' hHeld
          have hHeld := hHeld2
          clear hHeld2
          refine wpAnyH_ready (rs := [8]) (by kernel_rfl) (by simp) ?_
          refine AllReadyH.cons (o := ?pc65) ?oc65 (fun K hK => ?wc65) AllReadyH.nil
          case oc65 => (simp only [List.getElem?_toArray, List.getElem?_cons_succ, List.getElem?_cons_zero]; rfl)
          rw [if_pos (by rfl)]
          go_simp
          refine (meets_is a3 a4 b3 b4 false hn2 _).mono ?_; rintro r w24 ⟨rfl, hg⟩
          (try go_wp2_with fail)
          have hH' := tc7_kp hHeld hg
          have K24 := Lib.hid (K23.out.trans hg)
          have BB24 := Lib.hid (BB23.out.kp hg)
          refine hK.out _ _ hH' (fun hHeld2 => ?_)
          clear hK K hg hH' hHeld
          have hHeld := hHeld2
          clear hHeld2
          refine wpAnyH_take (i := 9) (oi := ?p9y66) (v := ?v9y66) ?o9y66 (by kernel_rfl) (by kernel_rfl) (by kernel_rfl) ?q9y66 ?y9y66 (by assumption) ?r9y66
          case o9y66 => (simp only [List.getElem?_toArray, List.getElem?_cons_succ, List.getElem?_cons_zero]; rfl)
          case q9y66 => (exact fun _ _ _ h => h)
          case y9y66 => (refine Or.inl ⟨by rfl, ?_⟩; intro w hSw; (try dsimp only at hSw); go_simp; (try with_reducible rfl))
          simp only [Act.put, List.setIfInBounds_toArray, List.set_cons_zero, List.set_cons_succ]
          refine wpAnyH_done (by kernel_rfl) ?_ _
          clear hHeld
          go_wp2_with fail
          rw [rounds_succ]
          go_wp2_with fail
          go_ret
          exact ⟨ret_bool (a := false) (by simp [hm1, hn1, hm2, hn2]), K24.out⟩
theorem tc_is {a b : Ent} (ha : mayB a = true) (hb : mayB b = true) : tcB a b = tchB a b := by
  unfold tchB
  rw [ha, hb]
  simp only [Bool.and_self, if_true]
  rw [Bool.eq_iff_iff]
  rcases kinds ha with ⟨a0, _, _⟩ | a1 | ⟨a2, a3⟩ | ⟨a2, a3, a4⟩ <;> rcases kinds hb with ⟨b0, _, _⟩ | b1 | ⟨b2, b3⟩ | ⟨b2, b3, b4⟩ <;> unfold tcB mtB meetB wrS rdS nmB <;> simp [*] <;> omega
theorem ptch_in (a b : Ent) (w : World) (hT : TabsOk w) (ha : mayB a = true) (hb : mayB b = true) : Calls Tryd.prog 33 #[.agg (Ent.arr a), .agg (Ent.arr b)] w fun r w' => r = .returned (.bool (tchB a b)) ∧ Kp w w' := tc_is ha hb ▸ touch_in a b w hT ha hb
theorem ptouch_any (a b : Ent) (w : World) (hT : TabsOk w) (wa : a.wf) (wb : b.wf) : Calls Tryd.prog 19 #[.agg (Ent.arr a), .agg (Ent.arr b)] w fun r w' => r = .returned (.bool (tchB a b)) ∧ Kp w w' := by
  have HT := Lib.hid hT
  have HYa := Lib.hid (fun w1 (g : Kp w w1) => pmay_any a w1 (hT.kp g) wa.1)
  have HYb := Lib.hid (fun w1 (g : Kp w w1) => pmay_any b w1 (hT.kp g) wb.1)
  have K0 : Hid (Kp w ((w.alloc (.cells (Ent.arr a) 26)).alloc (.cells (Ent.arr b) 26))) := Lib.hid ((kpA _ _ _).alloc _ _)
  have BA := Lib.hid ((Blk.new w (Ent.arr a) 26).alloc (.cells (Ent.arr b) 26))
  have BB := Lib.hid (Blk.new2 w (.cells (Ent.arr a) 26) (Ent.arr b) 26)
  have HQ : Hid (mayB a = true → mayB b = true → ∀ w1, Kp w w1 → Calls Tryd.prog 33 #[.agg (Ent.arr a), .agg (Ent.arr b)] w1 fun r w' => r = .returned (.bool (tchB a b)) ∧ Kp w1 w') := Lib.hid (fun ha hb w1 g => ptch_in a b w1 (hT.kp g) ha hb)
  clear hT wa wb
  unfold Ent.arr at *
  cases ha : mayB a with
  | false =>
    rw [show tchB a b = false by unfold tchB; rw [ha]; rfl]
    rw [ha] at HYa
    go_enter Tryd.func19, Tryd.ntmps19
    go_wp2_with (go_at_call 22; refine (HYa.out _ K0.out).mono ?_; rintro r w1 ⟨rfl, hg⟩; have K1 := Lib.hid (K0.out.trans hg); clear hg)
    go_ret
    exact ⟨rfl, K1.out⟩
  | true =>
    rw [ha] at HYa
    cases hb : mayB b with
    | false =>
      rw [show tchB a b = false by unfold tchB; rw [ha, hb]; rfl]
      rw [hb] at HYb
      go_enter Tryd.func19, Tryd.ntmps19
      go_wp2_with fail
      refine (HYa.out _ K0.out).mono ?_; rintro r w1 ⟨rfl, hg⟩
      have K1 := Lib.hid (K0.out.trans hg)
      obtain ⟨q0, q1, q2, q3, q4⟩ := Ent.five (BB.out.kp hg)
      clear hg
      go_wp2_with fail
      refine (HYb.out _ K1.out).mono ?_; rintro r w2 ⟨rfl, hg⟩
      have K2 := Lib.hid (K1.out.trans hg)
      clear hg q0 q1 q2 q3 q4
      go_wp2_with fail
      go_ret
      exact ⟨rfl, K2.out⟩
    | true =>
      rw [hb] at HYb
      have HQ' := Lib.hid (HQ.out ha hb)
      clear HQ
      go_enter Tryd.func19, Tryd.ntmps19
      go_wp2_with fail
      refine (HYa.out _ K0.out).mono ?_; rintro r w1 ⟨rfl, hg⟩
      have K1 := Lib.hid (K0.out.trans hg)
      obtain ⟨q0, q1, q2, q3, q4⟩ := Ent.five (BB.out.kp hg)
      have g1 := Lib.hid hg
      clear hg
      go_wp2_with fail
      refine (HYb.out _ K1.out).mono ?_; rintro r w2 ⟨rfl, hg⟩
      have K2 := Lib.hid (K1.out.trans hg)
      clear q0 q1 q2 q3 q4
      obtain ⟨q0, q1, q2, q3, q4⟩ := Ent.five ((BB.out.kp g1.out).kp hg)
      obtain ⟨p0, p1, p2, p3, p4⟩ := Ent.five ((BA.out.kp g1.out).kp hg)
      clear hg
      go_wp2_with fail
      refine (HQ'.out _ K2.out).mono ?_; rintro r w3 ⟨rfl, hg⟩
      have K3 := Lib.hid (K2.out.trans hg)
      clear hg
      go_wp2_with fail
      go_ret
      exact ⟨rfl, K3.out⟩
end Go.Proofs.YtgjjbgijdgihcaaDoor
