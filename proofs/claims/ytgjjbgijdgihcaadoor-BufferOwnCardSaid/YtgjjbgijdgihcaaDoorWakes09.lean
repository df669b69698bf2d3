/-
  What the document says of three buffers comes out so. No condition.
-/
import Derived.Test.YtgjjbgijdgihcaaDoorPFwd09
import Derived.Laws.MakeOwn
namespace Go.Proofs.YtgjjbgijdgihcaaDoor
open Go Go.RowKit

theorem Blk.setRowO {w : World} {b g : Nat} {cs : Array Value} {t : TypeId} (h : Blk w b cs t) (cs' : Array Value) (hb : b ≠ g) : Blk (w.setRow g cs') b cs t := (setRow_other w g b cs' hb).trans h
theorem Blk.setRow' {w : World} {b : Nat} {cs : Array Value} {t : TypeId} (h : Blk w b cs t) (cs' : Array Value) : Blk (w.setRow b cs') b cs' t := setRow_heap w b cs cs' t (0, 0) h
def e1 : Ent := ⟨0, 1, 0, 0, 0⟩
def e2 : Ent := ⟨0, 2, 0, 0, 0⟩
theorem two_boxes9 (w : World) : Kp w (((w.alloc (.cells #[.int .i8 0, .int .u64 0, .int .u64 0, .int .i64 0, .int .i64 0] 26)).alloc (.cells #[.int .i8 0, .int .u64 0, .int .u64 0, .int .i64 0, .int .i64 0] 26)).setRow w.heap.size (Ent.arr e1) |>.setRow (w.heap.size + 1) (Ent.arr e2)) ∧
    Blk (((w.alloc (.cells #[.int .i8 0, .int .u64 0, .int .u64 0, .int .i64 0, .int .i64 0] 26)).alloc (.cells #[.int .i8 0, .int .u64 0, .int .u64 0, .int .i64 0, .int .i64 0] 26)).setRow w.heap.size (Ent.arr e1) |>.setRow (w.heap.size + 1) (Ent.arr e2)) w.heap.size (Ent.arr e1) 26 ∧
    Blk (((w.alloc (.cells #[.int .i8 0, .int .u64 0, .int .u64 0, .int .i64 0, .int .i64 0] 26)).alloc (.cells #[.int .i8 0, .int .u64 0, .int .u64 0, .int .i64 0, .int .i64 0] 26)).setRow w.heap.size (Ent.arr e1) |>.setRow (w.heap.size + 1) (Ent.arr e2)) (w.heap.size + 1) (Ent.arr e2) 26 :=
  ⟨((((Kp.refl w).alloc _ _).alloc _ _).setRow (Nat.le_refl _) _).setRow (by omega) _, (((Blk.new w _ _).alloc _).setRow' _).setRowO _ (by omega), ((Blk.new2 w _ _ _).setRowO _ (by omega)).setRow' _⟩
theorem Kp.allocO {w0 w : World} (h : Kp w0 w) (o : Obj) : Kp w0 (w.alloc o) := Below.trans h ⟨rfl, rfl, rfl, by show _ ≤ (w.heap.push o).size; simp, fun k hk => Below.heap_alloc w o k (Nat.lt_of_lt_of_le hk h.size)⟩
def e5 : Ent := ⟨0, 5, 0, 0, 0⟩
def eb : Ent := ⟨1, 0, 0, 0, 0⟩
def ez : Ent := ⟨2, 0, 0, 0, 0⟩
instance (e : Ent) : Decidable e.wf := by unfold Ent.wf; infer_instance
theorem wf_all {L : List Ent} (h : L.all (fun e => decide (e.wf)) = true) : ∀ e ∈ L, e.wf := fun e he => of_decide_eq_true (List.all_eq_true.1 h e he)
theorem wk_may (a0 : Option Addr) (cap N : Nat) (L : List Ent) (k : Int) (v : Bool) (w : World) (hT : TabsOk w) (hN : N = L.length) (h : RowE w a0 cap L) (hw : ∀ e ∈ L, e.wf) (hv : mayAt L k = v) :
    Calls Tryd.prog 17 #[.slice a0 N cap, .int .i64 k] w fun r w' => r = .returned (.bool v) ∧ Kp w w' := by
  rw [← hv]; exact pmayat_any a0 cap N L k w hT hN h hw
theorem wk_push (a0 : Option Addr) (cap N : Nat) (L : List Ent) (e : Ent) (w : World) (hT : TabsOk w) (hN : N = L.length) (h : RowE w a0 cap L) (hw : ∀ e ∈ L, e.wf) (he : e.wf) (hv : pushB L e = ([], 20)) :
    Calls Tryd.prog 8 #[.slice a0 N cap, .agg (Ent.arr e)] w fun r w' => ∃ v, r = .returned (.tuple #[v, .int .i64 20]) ∧ Kp w w' := by
  refine (ppush_any a0 cap N L e w hT hN h hw he).mono ?_
  rintro r w' ⟨v, rfl, _, hk⟩
  rw [hv]
  exact ⟨_, rfl, hk⟩
theorem made_eight (w : World) : (Instr.makeSlice 22 (.int .i64 8) (.int .i64 8)).run Tryd.prog w = .ok (.slice (some ⟨w.heap.size, 0, none⟩) 8 8) (w.alloc (.cells ⟨(List.replicate 8 zeroE).flatMap Ent.cells⟩ 26)) := by
  obtain ⟨i0, hi0, hz0, hz1, hz2⟩ := info_parts ent_info
  have q := run_make (P := Tryd.prog) w 22 26 i0 _ Tryd.underlying22 hi0 hz0 .i64 .i64 8 8 (by omega) (by omega) (by rw [hz2]; omega) (by omega)
  rw [hz1] at q
  have hcells : madeCells (Value.agg #[.int .i8 0, .int .u64 0, .int .u64 0, .int .i64 0, .int .i64 0]).cells ((8 : Int).toNat * 5) = ⟨(List.replicate 8 zeroE).flatMap Ent.cells⟩ := by kernel_rfl
  rw [hcells] at q
  exact q
set_option maxRecDepth 20000 in
set_option maxHeartbeats 8000000 in
theorem wakes_any (w : World) (hT : TabsOk w) : Calls Tryd.prog 7 #[] w fun r w' => r = .returned (.bool true) ∧ Kp w w' := by
  have HT := Lib.hid hT
  clear hT
  have hmk := made_eight
  go_enter Tryd.func7, Tryd.ntmps7
  go_upto_region 2 with (first
    | (refine wpList_store_row rfl 26 (.tmp 1) (.tmp 9) rfl w.heap.size (Ent.arr e1) rfl rfl _ _ ((Blk.new w _ _).alloc _) (by kernel_rfl) rfl (by simp [Ent.arr, Value.oneCell']) ?_)
    | (refine wpList_store_row rfl 26 (.tmp 2) (.tmp 10) rfl (w.heap.size + 1) (Ent.arr e2) rfl rfl _ _ ((Blk.new2 w _ _ _).setRowO _ (by omega)) (by kernel_rfl) rfl (by simp [Ent.arr, Value.oneCell']) ?_))
  have hF := two_boxes9 w
  generalize World.setRow (World.setRow _ _ _) (w.heap.size + 1) _ = w3 at hF ⊢
  have K3 := Lib.hid hF.1
  have HB1 := Lib.hid hF.2.1
  have HB2 := Lib.hid hF.2.2
  clear hF
  go_upto_region 3 with (refine wpList_store_row rfl 26 (.tmp 3) (.tmp 11) rfl w3.heap.size (Ent.arr eb) rfl rfl _ _ (heap_alloc_last _ _) (by kernel_rfl) rfl (by simp [Ent.arr, Value.oneCell']) ?_; rw [World.setRow_alloc_new])
  have q1 := HB1.out.alloc (.cells (Ent.arr eb) 26)
  have q2 := HB2.out.alloc (.cells (Ent.arr eb) 26)
  have q3 := Blk.new w3 (Ent.arr eb) 26
  have qk := K3.out.allocO (.cells (Ent.arr eb) 26)
  generalize w3.alloc (.cells (Ent.arr eb) 26) = w4 at *
  clear HB1 HB2
  have HB1 := Lib.hid q1
  have HB2 := Lib.hid q2
  have HB3 := Lib.hid q3
  have K4 := Lib.hid qk
  clear q1 q2 q3 qk
  have a0 : World.cell? w4 ⟨w.heap.size, 0, none⟩ = some (.int .i8 0) := HB1.out.cell 0
  have a1 : World.cell? w4 ⟨w.heap.size, 1, none⟩ = some (.int .u64 1) := HB1.out.cell 1
  have a2 : World.cell? w4 ⟨w.heap.size, 2, none⟩ = some (.int .u64 0) := HB1.out.cell 2
  have a3 : World.cell? w4 ⟨w.heap.size, 3, none⟩ = some (.int .i64 0) := HB1.out.cell 3
  have a4 : World.cell? w4 ⟨w.heap.size, 4, none⟩ = some (.int .i64 0) := HB1.out.cell 4
  have b0 : World.cell? w4 ⟨w.heap.size + 1, 0, none⟩ = some (.int .i8 0) := HB2.out.cell 0
  have b1 : World.cell? w4 ⟨w.heap.size + 1, 1, none⟩ = some (.int .u64 2) := HB2.out.cell 1
  have b2 : World.cell? w4 ⟨w.heap.size + 1, 2, none⟩ = some (.int .u64 0) := HB2.out.cell 2
  have b3 : World.cell? w4 ⟨w.heap.size + 1, 3, none⟩ = some (.int .i64 0) := HB2.out.cell 3
  have b4 : World.cell? w4 ⟨w.heap.size + 1, 4, none⟩ = some (.int .i64 0) := HB2.out.cell 4
  have c0 : World.cell? w4 ⟨w3.heap.size, 0, none⟩ = some (.int .i8 1) := HB3.out.cell 0
  have c1 : World.cell? w4 ⟨w3.heap.size, 1, none⟩ = some (.int .u64 0) := HB3.out.cell 1
  have c2 : World.cell? w4 ⟨w3.heap.size, 2, none⟩ = some (.int .u64 0) := HB3.out.cell 2
  have c3 : World.cell? w4 ⟨w3.heap.size, 3, none⟩ = some (.int .i64 0) := HB3.out.cell 3
  have c4 : World.cell? w4 ⟨w3.heap.size, 4, none⟩ = some (.int .i64 0) := HB3.out.cell 4
  go_upto_region 4 with fail
  clear a0 a1 a2 a3 a4 b0 b1 b2 b3 b4 c0 c1 c2 c3 c4
  have q1 := HB1.out.alloc (.cells #[.int .i8 0, .int .u64 1, .int .u64 0, .int .i64 0, .int .i64 0, .int .i8 0, .int .u64 2, .int .u64 0, .int .i64 0, .int .i64 0, .int .i8 0, .int .u64 1, .int .u64 0, .int .i64 0, .int .i64 0] 26)
  have q2 := HB2.out.alloc (.cells #[.int .i8 0, .int .u64 1, .int .u64 0, .int .i64 0, .int .i64 0, .int .i8 0, .int .u64 2, .int .u64 0, .int .i64 0, .int .i64 0, .int .i8 0, .int .u64 1, .int .u64 0, .int .i64 0, .int .i64 0] 26)
  have q3 := HB3.out.alloc (.cells #[.int .i8 0, .int .u64 1, .int .u64 0, .int .i64 0, .int .i64 0, .int .i8 0, .int .u64 2, .int .u64 0, .int .i64 0, .int .i64 0, .int .i8 0, .int .u64 1, .int .u64 0, .int .i64 0, .int .i64 0] 26)
  have qk := K4.out.allocO (.cells #[.int .i8 0, .int .u64 1, .int .u64 0, .int .i64 0, .int .i64 0, .int .i8 0, .int .u64 2, .int .u64 0, .int .i64 0, .int .i64 0, .int .i8 0, .int .u64 1, .int .u64 0, .int .i64 0, .int .i64 0] 26)
  have qr := row_of (L := [e1, e2, e1]) (Blk.new w4 #[.int .i8 0, .int .u64 1, .int .u64 0, .int .i64 0, .int .i64 0, .int .i8 0, .int .u64 2, .int .u64 0, .int .i64 0, .int .i64 0, .int .i8 0, .int .u64 1, .int .u64 0, .int .i64 0, .int .i64 0] 26) (by rfl)
  generalize w4.alloc (.cells #[.int .i8 0, .int .u64 1, .int .u64 0, .int .i64 0, .int .i64 0, .int .i8 0, .int .u64 2, .int .u64 0, .int .i64 0, .int .i64 0, .int .i8 0, .int .u64 1, .int .u64 0, .int .i64 0, .int .i64 0] 26) = w5 at *
  clear HB1 HB2 HB3 K4
  have HB1 := Lib.hid q1
  have HB2 := Lib.hid q2
  have HB3 := Lib.hid q3
  have K4 := Lib.hid qk
  have HRa := Lib.hid qr
  clear q1 q2 q3 qk qr
  have a0 : World.cell? w5 ⟨w.heap.size, 0, none⟩ = some (.int .i8 0) := HB1.out.cell 0
  have a1 : World.cell? w5 ⟨w.heap.size, 1, none⟩ = some (.int .u64 1) := HB1.out.cell 1
  have a2 : World.cell? w5 ⟨w.heap.size, 2, none⟩ = some (.int .u64 0) := HB1.out.cell 2
  have a3 : World.cell? w5 ⟨w.heap.size, 3, none⟩ = some (.int .i64 0) := HB1.out.cell 3
  have a4 : World.cell? w5 ⟨w.heap.size, 4, none⟩ = some (.int .i64 0) := HB1.out.cell 4
  have b0 : World.cell? w5 ⟨w.heap.size + 1, 0, none⟩ = some (.int .i8 0) := HB2.out.cell 0
  have b1 : World.cell? w5 ⟨w.heap.size + 1, 1, none⟩ = some (.int .u64 2) := HB2.out.cell 1
  have b2 : World.cell? w5 ⟨w.heap.size + 1, 2, none⟩ = some (.int .u64 0) := HB2.out.cell 2
  have b3 : World.cell? w5 ⟨w.heap.size + 1, 3, none⟩ = some (.int .i64 0) := HB2.out.cell 3
  have b4 : World.cell? w5 ⟨w.heap.size + 1, 4, none⟩ = some (.int .i64 0) := HB2.out.cell 4
  have c0 : World.cell? w5 ⟨w3.heap.size, 0, none⟩ = some (.int .i8 1) := HB3.out.cell 0
  have c1 : World.cell? w5 ⟨w3.heap.size, 1, none⟩ = some (.int .u64 0) := HB3.out.cell 1
  have c2 : World.cell? w5 ⟨w3.heap.size, 2, none⟩ = some (.int .u64 0) := HB3.out.cell 2
  have c3 : World.cell? w5 ⟨w3.heap.size, 3, none⟩ = some (.int .i64 0) := HB3.out.cell 3
  have c4 : World.cell? w5 ⟨w3.heap.size, 4, none⟩ = some (.int .i64 0) := HB3.out.cell 4
  go_upto_region 5 with fail
  clear a0 a1 a2 a3 a4 b0 b1 b2 b3 b4 c0 c1 c2 c3 c4
  have q1 := HB1.out.alloc (.cells #[.int .i8 0, .int .u64 1, .int .u64 0, .int .i64 0, .int .i64 0, .int .i8 1, .int .u64 0, .int .u64 0, .int .i64 0, .int .i64 0, .int .i8 0, .int .u64 2, .int .u64 0, .int .i64 0, .int .i64 0] 26)
  have q2 := HB2.out.alloc (.cells #[.int .i8 0, .int .u64 1, .int .u64 0, .int .i64 0, .int .i64 0, .int .i8 1, .int .u64 0, .int .u64 0, .int .i64 0, .int .i64 0, .int .i8 0, .int .u64 2, .int .u64 0, .int .i64 0, .int .i64 0] 26)
  have q3 := HB3.out.alloc (.cells #[.int .i8 0, .int .u64 1, .int .u64 0, .int .i64 0, .int .i64 0, .int .i8 1, .int .u64 0, .int .u64 0, .int .i64 0, .int .i64 0, .int .i8 0, .int .u64 2, .int .u64 0, .int .i64 0, .int .i64 0] 26)
  have qk := K4.out.allocO (.cells #[.int .i8 0, .int .u64 1, .int .u64 0, .int .i64 0, .int .i64 0, .int .i8 1, .int .u64 0, .int .u64 0, .int .i64 0, .int .i64 0, .int .i8 0, .int .u64 2, .int .u64 0, .int .i64 0, .int .i64 0] 26)
  have mHRa := HRa.out.kp ((Kp.refl w5).allocO (.cells #[.int .i8 0, .int .u64 1, .int .u64 0, .int .i64 0, .int .i64 0, .int .i8 1, .int .u64 0, .int .u64 0, .int .i64 0, .int .i64 0, .int .i8 0, .int .u64 2, .int .u64 0, .int .i64 0, .int .i64 0] 26))
  have qr := row_of (L := [e1, eb, e2]) (Blk.new w5 #[.int .i8 0, .int .u64 1, .int .u64 0, .int .i64 0, .int .i64 0, .int .i8 1, .int .u64 0, .int .u64 0, .int .i64 0, .int .i64 0, .int .i8 0, .int .u64 2, .int .u64 0, .int .i64 0, .int .i64 0] 26) (by rfl)
  generalize w5.alloc (.cells #[.int .i8 0, .int .u64 1, .int .u64 0, .int .i64 0, .int .i64 0, .int .i8 1, .int .u64 0, .int .u64 0, .int .i64 0, .int .i64 0, .int .i8 0, .int .u64 2, .int .u64 0, .int .i64 0, .int .i64 0] 26) = w6 at *
  clear HB1 HB2 HB3 K4 HRa
  have HB1 := Lib.hid q1
  have HB2 := Lib.hid q2
  have HB3 := Lib.hid q3
  have K4 := Lib.hid qk
  have HRa := Lib.hid mHRa
  have HRb := Lib.hid qr
  clear q1 q2 q3 qk qr mHRa
  go_upto_region 6 with fail
  have q1 := HB1.out.alloc (.cells #[.int .i8 2, .int .u64 0, .int .u64 0, .int .i64 0, .int .i64 0, .int .i8 0, .int .u64 5, .int .u64 0, .int .i64 0, .int .i64 0] 26)
  have q2 := HB2.out.alloc (.cells #[.int .i8 2, .int .u64 0, .int .u64 0, .int .i64 0, .int .i64 0, .int .i8 0, .int .u64 5, .int .u64 0, .int .i64 0, .int .i64 0] 26)
  have q3 := HB3.out.alloc (.cells #[.int .i8 2, .int .u64 0, .int .u64 0, .int .i64 0, .int .i64 0, .int .i8 0, .int .u64 5, .int .u64 0, .int .i64 0, .int .i64 0] 26)
  have qk := K4.out.allocO (.cells #[.int .i8 2, .int .u64 0, .int .u64 0, .int .i64 0, .int .i64 0, .int .i8 0, .int .u64 5, .int .u64 0, .int .i64 0, .int .i64 0] 26)
  have mHRa := HRa.out.kp ((Kp.refl w6).allocO (.cells #[.int .i8 2, .int .u64 0, .int .u64 0, .int .i64 0, .int .i64 0, .int .i8 0, .int .u64 5, .int .u64 0, .int .i64 0, .int .i64 0] 26))
  have mHRb := HRb.out.kp ((Kp.refl w6).allocO (.cells #[.int .i8 2, .int .u64 0, .int .u64 0, .int .i64 0, .int .i64 0, .int .i8 0, .int .u64 5, .int .u64 0, .int .i64 0, .int .i64 0] 26))
  have qr := row_of (L := [ez, e5]) (Blk.new w6 #[.int .i8 2, .int .u64 0, .int .u64 0, .int .i64 0, .int .i64 0, .int .i8 0, .int .u64 5, .int .u64 0, .int .i64 0, .int .i64 0] 26) (by rfl)
  generalize w6.alloc (.cells #[.int .i8 2, .int .u64 0, .int .u64 0, .int .i64 0, .int .i64 0, .int .i8 0, .int .u64 5, .int .u64 0, .int .i64 0, .int .i64 0] 26) = w7 at *
  clear HB1 HB2 HB3 K4 HRa HRb
  have HB1 := Lib.hid q1
  have HB2 := Lib.hid q2
  have HB3 := Lib.hid q3
  have K4 := Lib.hid qk
  have HRa := Lib.hid mHRa
  have HRb := Lib.hid mHRb
  have HRc := Lib.hid qr
  clear q1 q2 q3 qk qr mHRa mHRb
  have h5 : Hid (World.cell? w7.drew ⟨w.heap.size, 0, none⟩ = some (.int .i8 0) ∧ World.cell? w7.drew ⟨w.heap.size, 1, none⟩ = some (.int .u64 1) ∧ World.cell? w7.drew ⟨w.heap.size, 2, none⟩ = some (.int .u64 0) ∧ World.cell? w7.drew ⟨w.heap.size, 3, none⟩ = some (.int .i64 0) ∧ World.cell? w7.drew ⟨w.heap.size, 4, none⟩ = some (.int .i64 0)) := Lib.hid ⟨HB1.out.drew.cell 0, HB1.out.drew.cell 1, HB1.out.drew.cell 2, HB1.out.drew.cell 3, HB1.out.drew.cell 4⟩
  have ra := Lib.hid (HRa.out.kp (Kp.refl w7).drew)
  have rb := Lib.hid (HRb.out.kp (Kp.refl w7).drew)
  have rc := Lib.hid (HRc.out.kp (Kp.refl w7).drew)
  have rk := Lib.hid (K4.out.drew)
  have HB1d := Lib.hid HB1.out.drew
  refine wp_region_held_drew (S := fun w' => w'.cell? ⟨w.heap.size, 0, none⟩ = some (.int .i8 0) ∧ w'.cell? ⟨w.heap.size, 1, none⟩ = some (.int .u64 1) ∧ w'.cell? ⟨w.heap.size, 2, none⟩ = some (.int .u64 0) ∧ w'.cell? ⟨w.heap.size, 3, none⟩ = some (.int .i64 0) ∧ w'.cell? ⟨w.heap.size, 4, none⟩ = some (.int .i64 0)) (by kernel_rfl) h5.out (fun hHeld => ?_)
  clear h5 HRa HRb HRc K4 HB1 HB2 HB3
  generalize World.drew _ = wz at hHeld ra rb rc rk HB1d ⊢
  refine wpAnyH_take (i := 1) (oi := ?p1z1) (v := ?v1z1) ?o1z1 (by kernel_rfl) (by kernel_rfl) (by kernel_rfl) ?q1z1 ?y1z1 (by assumption) ?r1z1
  case o1z1 => (simp only [List.getElem?_toArray, List.getElem?_cons_succ, List.getElem?_cons_zero]; rfl)
  case q1z1 => (exact fun _ _ _ h => h)
  case y1z1 => (refine Or.inl ⟨by rfl, ?_⟩; intro w hSw; (try dsimp only at hSw); go_simp; (try with_reducible rfl))
  simp only [Act.put, List.setIfInBounds_toArray, List.set_cons_zero, List.set_cons_succ]
  refine wpAnyH_ready (rs := [0]) (by kernel_rfl) (by simp) ?_
  refine (AllReadyH.cons (o := ?pz2) ?oz2 (fun K hK => ?wz2) AllReadyH.nil)
  case oz2 => (simp only [List.getElem?_toArray, List.getElem?_cons_zero]; rfl)
  case wz2 =>
    rw [if_pos (by rfl)]
    go_simp
    have hg0 := (Kp.refl wz).allocO (.cells ⟨(List.replicate 8 zeroE).flatMap Ent.cells⟩ 26)
    have hb0 := HB1d.out.kp hg0
    refine hK.out _ _ ⟨hb0.cell 0, hb0.cell 1, hb0.cell 2, hb0.cell 3, hb0.cell 4⟩ (fun hz3 => ?_)
    clear hK K
    generalize hw8 : wz.alloc _ = w8 at hz3 ⊢
    have hg : Kp wz w8 := by rw [← hw8]; exact hg0
    have hr : RowE w8 (some ⟨wz.heap.size, 0, none⟩) (List.replicate 8 zeroE).length (List.replicate 8 zeroE) := by rw [← hw8]; exact row_of (Blk.new wz _ _) rfl
    have ka := Lib.hid (rk.out.trans hg)
    have a8 := Lib.hid (ra.out.kp hg)
    have b8 := Lib.hid (rb.out.kp hg)
    have c8 := Lib.hid (rc.out.kp hg)
    have B8 := Lib.hid (HB1d.out.kp hg)
    have HR8 := Lib.hid hr
    clear hg hr hg0 hb0 hw8
    refine wpAnyH_ready (rs := [2]) (by kernel_rfl) (by simp) ?_
    refine (AllReadyH.cons (o := ?pz4) ?oz4 (fun K hK => ?wz4) AllReadyH.nil)
    case oz4 => (simp only [List.getElem?_toArray, List.getElem?_cons_succ, List.getElem?_cons_zero]; rfl)
    case wz4 =>
      rw [if_pos (by rfl)]
      go_simp
      refine (wk_push _ _ _ (List.replicate 8 zeroE) e1 _ (HT.out.kp ka.out) rfl HR8.out (wf_all (by decide)) (by decide) (by decide)).mono ?_; rintro r w9 ⟨v9, rfl, hg⟩
      (try go_wp2_with fail)
      have hb := B8.out.kp hg
      refine hK.out _ _ ⟨hb.cell 0, hb.cell 1, hb.cell 2, hb.cell 3, hb.cell 4⟩ (fun hz5 => ?_)
      clear hK K hb
      have K9 := Lib.hid (ka.out.trans hg)
      have M0a := Lib.hid (a8.out.kp hg)
      have M0b := Lib.hid (b8.out.kp hg)
      have M0c := Lib.hid (c8.out.kp hg)
      clear hg
      refine wpAnyH_take (i := 3) (oi := ?p3z6) (v := ?v3z6) ?o3z6 (by kernel_rfl) (by kernel_rfl) (by kernel_rfl) ?q3z6 ?y3z6 (by assumption) ?r3z6
      case o3z6 => (simp only [List.getElem?_toArray, List.getElem?_cons_succ, List.getElem?_cons_zero]; rfl)
      case q3z6 => (exact fun _ _ _ h => h)
      case y3z6 => (refine Or.inl ⟨by rfl, ?_⟩; intro w hSw; (try dsimp only at hSw); go_simp; (try with_reducible rfl))
      simp only [Act.put, List.setIfInBounds_toArray, List.set_cons_zero, List.set_cons_succ]
      refine wpAnyH_take (i := 4) (oi := ?p4z7) (v := ?v4z7) ?o4z7 (by kernel_rfl) (by kernel_rfl) (by kernel_rfl) ?q4z7 ?y4z7 (by assumption) ?r4z7
      case o4z7 => (simp only [List.getElem?_toArray, List.getElem?_cons_succ, List.getElem?_cons_zero]; rfl)
      case q4z7 => (exact fun _ _ _ h => h)
      case y4z7 => (refine Or.inl ⟨by rfl, ?_⟩; intro w hSw; (try dsimp only at hSw); go_simp; (try with_reducible rfl))
      simp only [Act.put, List.setIfInBounds_toArray, List.set_cons_zero, List.set_cons_succ]
      refine wpAnyH_take (i := 5) (oi := ?p5z8) (v := ?v5z8) ?o5z8 (by kernel_rfl) (by kernel_rfl) (by kernel_rfl) ?q5z8 ?y5z8 (by assumption) ?r5z8
      case o5z8 => (simp only [List.getElem?_toArray, List.getElem?_cons_succ, List.getElem?_cons_zero]; rfl)
      case q5z8 => (exact fun _ _ _ h => h)
      case y5z8 => (refine Or.inl ⟨by rfl, ?_⟩; intro w hSw; (try dsimp only at hSw); go_simp; (try with_reducible rfl))
      simp only [Act.put, List.setIfInBounds_toArray, List.set_cons_zero, List.set_cons_succ]
      refine wpAnyH_take (i := 6) (oi := ?p6z9) (v := ?v6z9) ?o6z9 (by kernel_rfl) (by kernel_rfl) (by kernel_rfl) ?q6z9 ?y6z9 (by assumption) ?r6z9
      case o6z9 => (simp only [List.getElem?_toArray, List.getElem?_cons_succ, List.getElem?_cons_zero]; rfl)
      case q6z9 => (exact fun _ _ _ h => h)
      case y6z9 => (refine Or.inl ⟨by rfl, ?_⟩; intro w hSw; (try dsimp only at hSw); go_simp; (try with_reducible rfl))
      simp only [Act.put, List.setIfInBounds_toArray, List.set_cons_zero, List.set_cons_succ]
      refine wpAnyH_take (i := 7) (oi := ?p7z10) (v := ?v7z10) ?o7z10 (by kernel_rfl) (by kernel_rfl) (by kernel_rfl) ?q7z10 ?y7z10 (by assumption) ?r7z10
      case o7z10 => (simp only [List.getElem?_toArray, List.getElem?_cons_succ, List.getElem?_cons_zero]; rfl)
      case q7z10 => (exact fun _ _ _ h => h)
      case y7z10 => (refine Or.inl ⟨by rfl, ?_⟩; intro w hSw; (try dsimp only at hSw); go_simp; (try with_reducible rfl))
      simp only [Act.put, List.setIfInBounds_toArray, List.set_cons_zero, List.set_cons_succ]
      refine wpAnyH_done (by kernel_rfl) ?_ _
      go_wp2_with (first
        | (go_at_call 17; refine (wk_may _ _ _ [ez, e5] 1 false _ (HT.out.kp L5.out) rfl M5c.out (wf_all (by decide)) (by decide)).mono ?_; rintro r x5 ⟨rfl, hg⟩; have M6a := Lib.hid (M5a.out.kp hg); have M6b := Lib.hid (M5b.out.kp hg); have M6c := Lib.hid (M5c.out.kp hg); have L6 := Lib.hid (L5.out.trans hg); clear hg)
        | (go_at_call 17; refine (wk_may _ _ _ [e1, eb, e2] 2 false _ (HT.out.kp L4.out) rfl M4b.out (wf_all (by decide)) (by decide)).mono ?_; rintro r x4 ⟨rfl, hg⟩; have M5a := Lib.hid (M4a.out.kp hg); have M5b := Lib.hid (M4b.out.kp hg); have M5c := Lib.hid (M4c.out.kp hg); have L5 := Lib.hid (L4.out.trans hg); clear hg)
        | (go_at_call 17; refine (wk_may _ _ _ [e1, eb, e2] 0 true _ (HT.out.kp L3.out) rfl M3b.out (wf_all (by decide)) (by decide)).mono ?_; rintro r x3 ⟨rfl, hg⟩; have M4a := Lib.hid (M3a.out.kp hg); have M4b := Lib.hid (M3b.out.kp hg); have M4c := Lib.hid (M3c.out.kp hg); have L4 := Lib.hid (L3.out.trans hg); clear hg)
        | (go_at_call 17; refine (wk_may _ _ _ [e1, e2, e1] 2 false _ (HT.out.kp L2.out) rfl M2a.out (wf_all (by decide)) (by decide)).mono ?_; rintro r x2 ⟨rfl, hg⟩; have M3a := Lib.hid (M2a.out.kp hg); have M3b := Lib.hid (M2b.out.kp hg); have M3c := Lib.hid (M2c.out.kp hg); have L3 := Lib.hid (L2.out.trans hg); clear hg)
        | (go_at_call 17; refine (wk_may _ _ _ [e1, e2, e1] 1 true _ (HT.out.kp L1.out) rfl M1a.out (wf_all (by decide)) (by decide)).mono ?_; rintro r x1 ⟨rfl, hg⟩; have M2a := Lib.hid (M1a.out.kp hg); have M2b := Lib.hid (M1b.out.kp hg); have M2c := Lib.hid (M1c.out.kp hg); have L2 := Lib.hid (L1.out.trans hg); clear hg)
        | (go_at_call 17; refine (wk_may _ _ _ [e1, e2, e1] 0 true _ (HT.out.kp K9.out) rfl M0a.out (wf_all (by decide)) (by decide)).mono ?_; rintro r x0 ⟨rfl, hg⟩; have M1a := Lib.hid (M0a.out.kp hg); have M1b := Lib.hid (M0b.out.kp hg); have M1c := Lib.hid (M0c.out.kp hg); have L1 := Lib.hid (K9.out.trans hg); clear hg))
      go_ret
      exact ⟨rfl, L6.out⟩
end Go.Proofs.YtgjjbgijdgihcaaDoor
