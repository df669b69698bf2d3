/-
  The contracts of package desc: bit, values, read, Encode, Decode, page, Touch, Differ, for every descriptor and every word, where its three tables hold what the program's text lays. No condition.
-/
import Derived.Test.YtpdgajlookhpfaaDoorWordsN
import Derived.Test.YtpdgajlookhpfaaDoorBlk
import Derived.StillTailTactics
namespace Go.Proofs.YtpdgajlookhpfaaDoor
open Go Go.RowKit

/-! The three tables, cell by cell. -/
def Tab (w : World) (g : Nat) (l : List Value) : Prop := ∀ i, i < l.length → w.cell? ⟨g, i, none⟩ = l[i]?
def spotsL : List Value := [.int .i64 47, .int .i64 12, .int .i64 6, .int .i64 6, .int .i64 7, .int .i64 7, .int .i64 10, .int .i64 10, .int .i64 11, .int .i64 11]
def kindsL : List Value := [.int .u64 0, .int .u64 0, .int .u64 0, .int .u64 0, .int .u64 0, .int .u64 0, .int .u64 3, .int .u64 63, .int .u64 0, .int .u64 0, .int .u64 0, .int .u64 0, .int .u64 3, .int .u64 63, .int .u64 1, .int .u64 1, .int .u64 1, .int .u64 1]
def levelsL : List Value := [.int .i8 1, .int .i8 1, .int .i8 1, .int .i8 2]
def TabsOk (w : World) : Prop := Tab w 1 spotsL ∧ Tab w 0 kindsL ∧ Tab w 2 levelsL
theorem lt_of_cell {w : World} {b o : Nat} {v : Value} (h : w.cell? ⟨b, o, none⟩ = some v) : b < w.heap.size := by
  unfold World.cell? at h
  apply Nat.lt_of_not_le
  intro hn
  rw [Array.getElem?_eq_none hn] at h
  simp at h
theorem Tab.lt {w : World} {g : Nat} {l : List Value} (h : Tab w g l) (h0 : 0 < l.length) : g < w.heap.size := by
  have := h 0 h0
  rw [List.getElem?_eq_getElem h0] at this
  exact lt_of_cell this
theorem Tab.kp {w w' : World} {g : Nat} {l : List Value} (h : Tab w g l) (h0 : 0 < l.length) (hk : Kp w w') : Tab w' g l := fun i hi => (hk.cell (h.lt h0)).trans (h i hi)
theorem TabsOk.kp {w w' : World} (h : TabsOk w) (hk : Kp w w') : TabsOk w' := ⟨h.1.kp (by decide) hk, h.2.1.kp (by decide) hk, h.2.2.kp (by decide) hk⟩
theorem TabsOk.size {w : World} (h : TabsOk w) : 2 < w.heap.size := by
  have h1 := h.1.lt (by decide)
  have h2 := h.2.1.lt (by decide)
  have h3 := h.2.2.lt (by decide)
  omega
theorem Tab.at {w : World} {g : Nat} {l : List Value} (h : Tab w g l) (i : Nat) (v : Value) (hv : l[i]? = some v) : w.cell? ⟨g, i, none⟩ = some v := by
  rw [h i (List.getElem?_eq_some_iff.1 hv).1, hv]

def bB (b : Bool) : BitVec 64 := if b then 1#64 else 0#64
theorem bit_desc (b : Bool) (w : World) :
    Calls Tryd.prog 21 #[.bool b] w fun e w' => e = .returned (.int .u64 (bB b).toNat) ∧ w' = w := by
  cases b
  all_goals
    go_enter Tryd.func21, Tryd.ntmps21
    go_wp2
    go_ret
    exact ⟨rfl, rfl⟩
def vF (f : Int) : BitVec 64 := BitVec.ofInt 64 f
theorem vF_num (f : Int) : IntKind.u64.wrap f = ((vF f).toNat : Int) := by
  unfold vF
  rw [BitVec.toNat_ofInt, IntKind.wrap_u64]
  omega
theorem ret_agg5 {a b c d e a' : Int} (h : a = a') : Ending.returned (.agg #[.int .u64 a, .int .u64 b, .int .u64 c, .int .u64 d, .int .u64 e]) = .returned (.agg #[.int .u64 a', .int .u64 b, .int .u64 c, .int .u64 d, .int .u64 e]) := by rw [h]
set_option maxHeartbeats 1000000 in
theorem values_any (k f : Int) (af ro us ng : Bool) (w : World) :
    Calls Tryd.prog 16 #[.agg #[.int .i8 k, .int .i64 f, .bool af, .bool ro, .bool us, .bool ng]] w fun e w' => e = .returned (.agg #[.int .u64 (vF f).toNat, .int .u64 (bB us).toNat, .int .u64 (bB ro).toNat, .int .u64 (bB af).toNat, .int .u64 (bB ng).toNat]) ∧ Kp w w' := by
  have HF := Lib.hid (vF_num f)
  go_enter Tryd.func16, Tryd.ntmps16
  go_wp2
  have B1 : Blk ((w.alloc (.cells #[.int .i8 k, .int .i64 f, .bool af, .bool ro, .bool us, .bool ng] 24)).alloc (.cells #[.int .u64 0, .int .u64 0, .int .u64 0, .int .u64 0, .int .u64 0] 38)) w.heap.size #[.int .i8 k, .int .i64 f, .bool af, .bool ro, .bool us, .bool ng] 24 := (Blk.new _ _ _).alloc _
  have B2 : Blk ((w.alloc (.cells #[.int .i8 k, .int .i64 f, .bool af, .bool ro, .bool us, .bool ng] 24)).alloc (.cells #[.int .u64 0, .int .u64 0, .int .u64 0, .int .u64 0, .int .u64 0] 38)) (w.heap.size + 1) #[.int .u64 0, .int .u64 0, .int .u64 0, .int .u64 0, .int .u64 0] 38 := by have := Blk.new (w.alloc (.cells #[.int .i8 k, .int .i64 f, .bool af, .bool ro, .bool us, .bool ng] 24)) #[.int .u64 0, .int .u64 0, .int .u64 0, .int .u64 0, .int .u64 0] 38; simpa using this
  have hk : Kp w ((w.alloc (.cells #[.int .i8 k, .int .i64 f, .bool af, .bool ro, .bool us, .bool ng] 24)).alloc (.cells #[.int .u64 0, .int .u64 0, .int .u64 0, .int .u64 0, .int .u64 0] 38)) := ((Kp.refl w).alloc _ _).alloc _ _
  generalize ((w.alloc (.cells #[.int .i8 k, .int .i64 f, .bool af, .bool ro, .bool us, .bool ng] 24)).alloc (.cells #[.int .u64 0, .int .u64 0, .int .u64 0, .int .u64 0, .int .u64 0] 38)) = w2 at *
  refine wp_region_still_tail 16 (by kernel_rfl) (by kernel_rfl) ?_
  simp only [List.take_succ_cons, List.take_zero, List.drop_succ_cons, List.drop_zero]
  have c1 := B1.cell 1
  have c2 := B1.cell 2
  have c3 := B1.cell 3
  have c4 := B1.cell 4
  have c5 := B1.cell 5
  simp at c1 c2 c3 c4 c5
  repeat still_step
  still_call (bit_desc us _)
  repeat still_step
  still_call (bit_desc ro _)
  repeat still_step
  still_call (bit_desc af _)
  repeat still_step
  still_call (bit_desc ng _)
  repeat still_step
  refine wpStill_nil ?_
  have d0 := B2.cell 0
  have d1 := B2.cell 1
  have d2 := B2.cell 2
  have d3 := B2.cell 3
  have d4 := B2.cell 4
  simp at d0 d1 d2 d3 d4
  have e0 := B2.frozen 0
  have e1 := B2.frozen 1
  have e2 := B2.frozen 2
  have e3 := B2.frozen 3
  have e4 := B2.frozen 4
  go_wp2
  have B3 := ((((B2.set 0 (.int .u64 (IntKind.u64.wrap f))).set 1 (.int .u64 (bB us).toNat)).set 2 (.int .u64 (bB ro).toNat)).set 3 (.int .u64 (bB af).toNat)).set 4 (.int .u64 (bB ng).toNat)
  have B3 : Blk _ _ #[.int .u64 (IntKind.u64.wrap f), .int .u64 (bB us).toNat, .int .u64 (bB ro).toNat, .int .u64 (bB af).toNat, .int .u64 (bB ng).toNat] _ := B3
  refine bodyPost_ret (results_cell_row rfl _ _ _ _ _ _ _ rfl B3.drew Tryd.underlying38 rfl (by kernel_rfl)) rfl ?_
  exact ⟨ret_agg5 HF.out, (((((hk.setCell (Nat.le_succ _) _).setCell (Nat.le_succ _) _).setCell (Nat.le_succ _) _).setCell (Nat.le_succ _) _).setCell (Nat.le_succ _) _).drew⟩
end Go.Proofs.YtpdgajlookhpfaaDoor
