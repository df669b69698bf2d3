/-
  wakes returns true. No condition.
-/
import Derived.Test.YtgchpicfhbhikaaInvHits
namespace Go.Proofs.Ytgchpicfhbhikaa
open Go Go.RowKit

theorem wk05 : hitsB 2 3 5 3 5 0 = true ∧ stepB 2 3 5 3 3 0 = false ∧ stepB 2 3 513 3 2 1 = true ∧ hitsB 2 3 5 4 5 0 = false := by decide
def W2 (w w' : World) : Prop := Blk w' w.heap.size #[.int .i8 2, .int .i64 3, .int .u64 5] 25 ∧ Blk w' (w.heap.size + 1) #[.int .i8 2, .int .i64 3, .int .u64 513] 25 ∧ Kp w w'
theorem W2.kp {w w1 w2 : World} (h : W2 w w1) (g : Kp w1 w2) : W2 w w2 := ⟨h.1.kp g, h.2.1.kp g, h.2.2.trans g⟩
theorem W2.cells {w w' : World} (h : W2 w w') : w'.cell? ⟨w.heap.size, 0, none⟩ = some (.int .i8 2) ∧ w'.cell? ⟨w.heap.size, 1, none⟩ = some (.int .i64 3) ∧ w'.cell? ⟨w.heap.size, 2, none⟩ = some (.int .u64 5) ∧ w'.cell? ⟨w.heap.size + 1, 0, none⟩ = some (.int .i8 2) ∧ w'.cell? ⟨w.heap.size + 1, 1, none⟩ = some (.int .i64 3) ∧ w'.cell? ⟨w.heap.size + 1, 2, none⟩ = some (.int .u64 513) :=
  ⟨h.1.cell 0, h.1.cell 1, h.1.cell 2, h.2.1.cell 0, h.2.1.cell 1, h.2.1.cell 2⟩
set_option maxHeartbeats 2000000 in
theorem wakes_any (w : World) :
    Calls Try.prog 17 #[] w fun e w' => e = .returned (.bool true) ∧ Kp w w' := by
  have HW := Lib.hid wk05
  have HA : Hid (W2 w ((w.alloc (.cells #[.int .i8 2, .int .i64 3, .int .u64 5] 25)).alloc (.cells #[.int .i8 2, .int .i64 3, .int .u64 513] 25))) := Lib.hid ⟨(Blk.new _ _ _).alloc _, Blk.new2 _ _ _ _, (kpA _ _ _).alloc _ _⟩
  go_enter Try.func17, Try.ntmps17
  go_wp2_with fail
  refine (hits_any 2 3 5 3 5 0 false _).mono ?_; rintro e w1 ⟨rfl, hg⟩
  rw [HW.out.1]
  have hA := HA.out.kp hg
  have HA1 := Lib.hid hA
  obtain ⟨z0, z1, z2, y0, y1, y2⟩ := hA.cells
  clear hg hA
  go_wp2_with fail
  refine (step_any 2 3 5 3 3 0 0 _).mono ?_; rintro e w2 ⟨rfl, hg⟩
  rw [HW.out.2.1]
  clear z0 z1 z2 y0 y1 y2
  have hA := HA1.out.kp hg
  have HA2 := Lib.hid hA
  obtain ⟨z0, z1, z2, y0, y1, y2⟩ := hA.cells
  clear hg hA
  go_wp2_with fail
  refine (step_any 2 3 513 3 2 1 0 _).mono ?_; rintro e w3 ⟨rfl, hg⟩
  rw [HW.out.2.2.1]
  clear z0 z1 z2 y0 y1 y2
  have hA := HA2.out.kp hg
  have HA3 := Lib.hid hA
  obtain ⟨z0, z1, z2, y0, y1, y2⟩ := hA.cells
  clear hg hA
  go_wp2_with fail
  refine (hits_any 2 3 5 4 5 0 false _).mono ?_; rintro e w4 ⟨rfl, hg⟩
  rw [HW.out.2.2.2]
  have HA4 := Lib.hid (HA3.out.kp hg)
  clear hg z0 z1 z2 y0 y1 y2
  go_wp2_with fail
  go_ret
  exact ⟨rfl, HA4.out.2.2⟩
end Go.Proofs.Ytgchpicfhbhikaa
