/-
  InvalTells returns true. No condition.
-/
import Derived.Test.YtgchpicfhbhikaaBack05
import Derived.Test.YtgchpicfhbhikaaInvRef
namespace Go.Proofs.Ytgchpicfhbhikaa
open Go Go.RowKit

/-- Four boxed structs, carried through calls. -/
def H4 (w w' : World) (k a : Int) (X : Nat) (k' a' : Int) (X' : Nat) (b : Int) (p : Nat) (f : Int) (r : Bool) (b' l : Int) (p' : Nat) (f' : Int) : Prop :=
  Blk w' w.heap.size #[.int .i8 k, .int .i64 a, .int .u64 X] 25 ∧ Blk w' (w.heap.size + 1) #[.int .i8 k', .int .i64 a', .int .u64 X'] 25 ∧ Blk w' (w.heap.size + 2) #[.int .i64 b, .int .u64 p, .int .i64 f, .bool r] 27 ∧ Blk w' (w.heap.size + 3) #[.int .i64 b', .int .i8 l, .int .u64 p', .int .i64 f'] 29 ∧ Kp w w'
theorem H4.kp {w w1 w2 : World} {k a : Int} {X : Nat} {k' a' : Int} {X' : Nat} {b : Int} {p : Nat} {f : Int} {r : Bool} {b' l : Int} {p' : Nat} {f' : Int} (h : H4 w w1 k a X k' a' X' b p f r b' l p' f') (g : Kp w1 w2) : H4 w w2 k a X k' a' X' b p f r b' l p' f' :=
  ⟨h.1.kp g, h.2.1.kp g, h.2.2.1.kp g, h.2.2.2.1.kp g, h.2.2.2.2.trans g⟩
theorem H4.new (w : World) (k a : Int) (X : Nat) (k' a' : Int) (X' : Nat) (b : Int) (p : Nat) (f : Int) (r : Bool) (b' l : Int) (p' : Nat) (f' : Int) : H4 w ((((w.alloc (.cells #[.int .i8 k, .int .i64 a, .int .u64 X] 25)).alloc (.cells #[.int .i8 k', .int .i64 a', .int .u64 X'] 25)).alloc (.cells #[.int .i64 b, .int .u64 p, .int .i64 f, .bool r] 27)).alloc (.cells #[.int .i64 b', .int .i8 l, .int .u64 p', .int .i64 f'] 29)) k a X k' a' X' b p f r b' l p' f' := by
  have b0 := (((Blk.new w #[.int .i8 k, .int .i64 a, .int .u64 X] 25).alloc (.cells #[.int .i8 k', .int .i64 a', .int .u64 X'] 25)).alloc (.cells #[.int .i64 b, .int .u64 p, .int .i64 f, .bool r] 27)).alloc (.cells #[.int .i64 b', .int .i8 l, .int .u64 p', .int .i64 f'] 29)
  have b1 := ((Blk.new (w.alloc (.cells #[.int .i8 k, .int .i64 a, .int .u64 X] 25)) #[.int .i8 k', .int .i64 a', .int .u64 X'] 25).alloc (.cells #[.int .i64 b, .int .u64 p, .int .i64 f, .bool r] 27)).alloc (.cells #[.int .i64 b', .int .i8 l, .int .u64 p', .int .i64 f'] 29)
  have b2 := (Blk.new ((w.alloc (.cells #[.int .i8 k, .int .i64 a, .int .u64 X] 25)).alloc (.cells #[.int .i8 k', .int .i64 a', .int .u64 X'] 25)) #[.int .i64 b, .int .u64 p, .int .i64 f, .bool r] 27).alloc (.cells #[.int .i64 b', .int .i8 l, .int .u64 p', .int .i64 f'] 29)
  have b3 := Blk.new (((w.alloc (.cells #[.int .i8 k, .int .i64 a, .int .u64 X] 25)).alloc (.cells #[.int .i8 k', .int .i64 a', .int .u64 X'] 25)).alloc (.cells #[.int .i64 b, .int .u64 p, .int .i64 f, .bool r] 27)) #[.int .i64 b', .int .i8 l, .int .u64 p', .int .i64 f'] 29
  simp at b1 b2 b3
  exact ⟨b0, b1, b2, b3, (((kpA _ _ _).alloc _ _).alloc _ _).alloc _ _⟩

theorem H4.cells {w w' : World} {k a : Int} {X : Nat} {k' a' : Int} {X' : Nat} {b : Int} {p : Nat} {f : Int} {r : Bool} {b' l : Int} {p' : Nat} {f' : Int} (h : H4 w w' k a X k' a' X' b p f r b' l p' f') : w'.cell? ⟨w.heap.size, 0, none⟩ = some (.int .i8 k) ∧ w'.cell? ⟨w.heap.size, 1, none⟩ = some (.int .i64 a) ∧ w'.cell? ⟨w.heap.size, 2, none⟩ = some (.int .u64 X) ∧ w'.cell? ⟨w.heap.size + 1, 0, none⟩ = some (.int .i8 k') ∧ w'.cell? ⟨w.heap.size + 1, 1, none⟩ = some (.int .i64 a') ∧ w'.cell? ⟨w.heap.size + 1, 2, none⟩ = some (.int .u64 X') ∧ w'.cell? ⟨w.heap.size + 2, 0, none⟩ = some (.int .i64 b) ∧ w'.cell? ⟨w.heap.size + 2, 1, none⟩ = some (.int .u64 p) ∧ w'.cell? ⟨w.heap.size + 2, 2, none⟩ = some (.int .i64 f) ∧ w'.cell? ⟨w.heap.size + 2, 3, none⟩ = some (.bool r) ∧ w'.cell? ⟨w.heap.size + 3, 0, none⟩ = some (.int .i64 b') ∧ w'.cell? ⟨w.heap.size + 3, 1, none⟩ = some (.int .i8 l) ∧ w'.cell? ⟨w.heap.size + 3, 2, none⟩ = some (.int .u64 p') ∧ w'.cell? ⟨w.heap.size + 3, 3, none⟩ = some (.int .i64 f') :=
  ⟨h.1.cell 0, h.1.cell 1, h.1.cell 2, h.2.1.cell 0, h.2.1.cell 1, h.2.1.cell 2, h.2.2.1.cell 0, h.2.2.1.cell 1, h.2.2.1.cell 2, h.2.2.1.cell 3, h.2.2.2.1.cell 0, h.2.2.2.1.cell 1, h.2.2.2.1.cell 2, h.2.2.2.1.cell 3⟩

def TS (w : World) (g g2 : Nat) (k a : Int) (X : Nat) (k' a' : Int) (X' : Nat) (b : Int) (p : Nat) (f : Int) (r : Bool) (b' l : Int) (p' : Nat) (f' : Int) (W : Nat) (w' : World) : Prop := H4 w w' k a X k' a' X' b p f r b' l p' f' ∧ Blk w' g #[.int .i8 (dK k W), .int .i64 (dA k W), .int .u64 (dX k W)] 25 ∧ Blk w' g2 #[.int .i8 (dK k W), .int .i64 (dA k W), .int .u64 (dX k W)] 25
theorem TS.kp {w w1 w2 : World} {g g2 : Nat} {k a : Int} {X : Nat} {k' a' : Int} {X' : Nat} {b : Int} {p : Nat} {f : Int} {r : Bool} {b' l : Int} {p' : Nat} {f' : Int} {W : Nat} (h : TS w g g2 k a X k' a' X' b p f r b' l p' f' W w1) (q : Kp w1 w2) : TS w g g2 k a X k' a' X' b p f r b' l p' f' W w2 := ⟨h.1.kp q, h.2.1.kp q, h.2.2.kp q⟩
theorem TS.cells {w w' : World} {g g2 : Nat} {k a : Int} {X : Nat} {k' a' : Int} {X' : Nat} {b : Int} {p : Nat} {f : Int} {r : Bool} {b' l : Int} {p' : Nat} {f' : Int} {W : Nat} (h : TS w g g2 k a X k' a' X' b p f r b' l p' f' W w') : w'.cell? ⟨w.heap.size, 0, none⟩ = some (.int .i8 k) ∧ w'.cell? ⟨w.heap.size, 1, none⟩ = some (.int .i64 a) ∧ w'.cell? ⟨w.heap.size, 2, none⟩ = some (.int .u64 X) ∧ w'.cell? ⟨w.heap.size + 1, 0, none⟩ = some (.int .i8 k') ∧ w'.cell? ⟨w.heap.size + 1, 1, none⟩ = some (.int .i64 a') ∧ w'.cell? ⟨w.heap.size + 1, 2, none⟩ = some (.int .u64 X') ∧ w'.cell? ⟨w.heap.size + 2, 0, none⟩ = some (.int .i64 b) ∧ w'.cell? ⟨w.heap.size + 2, 1, none⟩ = some (.int .u64 p) ∧ w'.cell? ⟨w.heap.size + 2, 2, none⟩ = some (.int .i64 f) ∧ w'.cell? ⟨w.heap.size + 2, 3, none⟩ = some (.bool r) ∧ w'.cell? ⟨w.heap.size + 3, 0, none⟩ = some (.int .i64 b') ∧ w'.cell? ⟨w.heap.size + 3, 1, none⟩ = some (.int .i8 l) ∧ w'.cell? ⟨w.heap.size + 3, 2, none⟩ = some (.int .u64 p') ∧ w'.cell? ⟨w.heap.size + 3, 3, none⟩ = some (.int .i64 f') ∧ w'.cell? ⟨g, 0, none⟩ = some (.int .i8 (dK k W)) ∧ w'.cell? ⟨g, 1, none⟩ = some (.int .i64 (dA k W)) ∧ w'.cell? ⟨g, 2, none⟩ = some (.int .u64 (dX k W)) ∧ w'.cell? ⟨g2, 0, none⟩ = some (.int .i8 (dK k W)) ∧ w'.cell? ⟨g2, 1, none⟩ = some (.int .i64 (dA k W)) ∧ w'.cell? ⟨g2, 2, none⟩ = some (.int .u64 (dX k W)) ∧ TS w g g2 k a X k' a' X' b p f r b' l p' f' W w' :=
  ⟨h.1.1.cell 0, h.1.1.cell 1, h.1.1.cell 2, h.1.2.1.cell 0, h.1.2.1.cell 1, h.1.2.1.cell 2, h.1.2.2.1.cell 0, h.1.2.2.1.cell 1, h.1.2.2.1.cell 2, h.1.2.2.1.cell 3, h.1.2.2.2.1.cell 0, h.1.2.2.2.1.cell 1, h.1.2.2.2.1.cell 2, h.1.2.2.2.1.cell 3, h.2.1.cell 0, h.2.1.cell 1, h.2.1.cell 2, h.2.2.cell 0, h.2.2.cell 1, h.2.2.cell 2, h⟩

set_option maxHeartbeats 4000000 in
theorem tells_any (k a : Int) (X : Nat) (k' a' : Int) (X' : Nat) (b : Int) (p : Nat) (f : Int) (r : Bool) (b' l : Int) (p' : Nat) (f' : Int) (W : Nat) (w : World) (hW : W < 18446744073709551616) :
    Calls Try.prog 3 #[.agg #[.int .i8 k, .int .i64 a, .int .u64 X], .agg #[.int .i8 k', .int .i64 a', .int .u64 X'], .int .u64 W, .agg #[.int .i64 b, .int .u64 p, .int .i64 f, .bool r], .agg #[.int .i64 b', .int .i8 l, .int .u64 p', .int .i64 f']] w fun e w' => e = .returned (.bool true) ∧ Kp w w' := by
  have HW := Lib.hid hW
  have HS := Lib.hid (H4.new w k a X k' a' X' b p f r b' l p' f')
  clear hW
  go_enter Try.func3, Try.ntmps3
  go_wp2_with fail
  refine (encode_any k a X _).mono ?_; rintro e w1 ⟨rfl, hg⟩
  have HS1 := Lib.hid (HS.out.kp hg)
  clear hg
  obtain ⟨z0, z1, z2, z3, z4, z5, z6, z7, z8, z9, z10, z11, z12, z13⟩ := HS1.out.cells
  go_wp2_with fail
  refine (rencode_any k a X _).mono ?_; rintro e w2 ⟨rfl, hg⟩
  have HS2 := Lib.hid (HS1.out.kp hg)
  clear hg z0 z1 z2 z3 z4 z5 z6 z7 z8 z9 z10 z11 z12 z13
  obtain ⟨z0, z1, z2, z3, z4, z5, z6, z7, z8, z9, z10, z11, z12, z13⟩ := HS2.out.cells
  go_wp2_with fail
  refine (decode_any k W _ HW.out).mono ?_; rintro e w3 ⟨rfl, hg⟩
  have HS3 := Lib.hid (HS2.out.kp (hg.alloc #[.int .i8 (dK k W), .int .i64 (dA k W), .int .u64 (dX k W)] 25))
  have HN := Lib.hid (Blk.new w3 #[.int .i8 (dK k W), .int .i64 (dA k W), .int .u64 (dX k W)] 25)
  clear hg z0 z1 z2 z3 z4 z5 z6 z7 z8 z9 z10 z11 z12 z13
  obtain ⟨z0, z1, z2, z3, z4, z5, z6, z7, z8, z9, z10, z11, z12, z13⟩ := HS3.out.cells
  go_wp2_with fail
  refine (rdecode_any k W _ HW.out).mono ?_; rintro e w4 ⟨rfl, hg⟩
  have HS4 : Hid (TS w w3.heap.size w4.heap.size k a X k' a' X' b p f r b' l p' f' W (w4.alloc (.cells #[.int .i8 (dK k W), .int .i64 (dA k W), .int .u64 (dX k W)] 25))) := Lib.hid ⟨HS3.out.kp (hg.alloc #[.int .i8 (dK k W), .int .i64 (dA k W), .int .u64 (dX k W)] 25), HN.out.kp (hg.alloc #[.int .i8 (dK k W), .int .i64 (dA k W), .int .u64 (dX k W)] 25), Blk.new w4 #[.int .i8 (dK k W), .int .i64 (dA k W), .int .u64 (dX k W)] 25⟩
  clear hg z0 z1 z2 z3 z4 z5 z6 z7 z8 z9 z10 z11 z12 z13
  have HC := Lib.hid HS4.out.cells
  go_wp2
  generalize w3.heap.size = g at HC ⊢
  generalize w4.heap.size = g2 at HC ⊢
  go_region_held3 (fun w' => w'.cell? ⟨w.heap.size, 0, none⟩ = some (.int .i8 k) ∧ w'.cell? ⟨w.heap.size, 1, none⟩ = some (.int .i64 a) ∧ w'.cell? ⟨w.heap.size, 2, none⟩ = some (.int .u64 X) ∧ w'.cell? ⟨w.heap.size + 1, 0, none⟩ = some (.int .i8 k') ∧ w'.cell? ⟨w.heap.size + 1, 1, none⟩ = some (.int .i64 a') ∧ w'.cell? ⟨w.heap.size + 1, 2, none⟩ = some (.int .u64 X') ∧ w'.cell? ⟨w.heap.size + 2, 0, none⟩ = some (.int .i64 b) ∧ w'.cell? ⟨w.heap.size + 2, 1, none⟩ = some (.int .u64 p) ∧ w'.cell? ⟨w.heap.size + 2, 2, none⟩ = some (.int .i64 f) ∧ w'.cell? ⟨w.heap.size + 2, 3, none⟩ = some (.bool r) ∧ w'.cell? ⟨w.heap.size + 3, 0, none⟩ = some (.int .i64 b') ∧ w'.cell? ⟨w.heap.size + 3, 1, none⟩ = some (.int .i8 l) ∧ w'.cell? ⟨w.heap.size + 3, 2, none⟩ = some (.int .u64 p') ∧ w'.cell? ⟨w.heap.size + 3, 3, none⟩ = some (.int .i64 f') ∧ w'.cell? ⟨g, 0, none⟩ = some (.int .i8 (dK k W)) ∧ w'.cell? ⟨g, 1, none⟩ = some (.int .i64 (dA k W)) ∧ w'.cell? ⟨g, 2, none⟩ = some (.int .u64 (dX k W)) ∧ w'.cell? ⟨g2, 0, none⟩ = some (.int .i8 (dK k W)) ∧ w'.cell? ⟨g2, 1, none⟩ = some (.int .i64 (dA k W)) ∧ w'.cell? ⟨g2, 2, none⟩ = some (.int .u64 (dX k W)) ∧ TS w g g2 k a X k' a' X' b p f r b' l p' f' W w')
    (first | exact HC.out | exact (TS.kp HC.out.2.2.2.2.2.2.2.2.2.2.2.2.2.2.2.2.2.2.2.2 (Kp.refl _).drew).cells | assumption | exact (TS.kp (by assumption) (Kp.refl _).drew).cells)
    (first | (go_at_call 11; rename_i hh _ _; refine (hits_any _ _ _ _ _ _ _ _).mono ?_; rintro e w' ⟨rfl, hg⟩; have hh' := TS.cells (TS.kp hh.2.2.2.2.2.2.2.2.2.2.2.2.2.2.2.2.2.2.2.2 hg); clear hh hg) | (go_at_call 12; rename_i hh _ _; refine (rhits_any _ _ _ _ _ _ _ _).mono ?_; rintro e w' ⟨rfl, hg⟩; have hh' := TS.cells (TS.kp hh.2.2.2.2.2.2.2.2.2.2.2.2.2.2.2.2.2.2.2.2 hg); clear hh hg) | (go_at_call 13; rename_i hh _ _; refine (step_any _ _ _ _ _ _ _ _).mono ?_; rintro e w' ⟨rfl, hg⟩; have hh' := TS.cells (TS.kp hh.2.2.2.2.2.2.2.2.2.2.2.2.2.2.2.2.2.2.2.2 hg); clear hh hg) | (go_at_call 14; rename_i hh _ _; refine (rstep_any _ _ _ _ _ _ _ _).mono ?_; rintro e w' ⟨rfl, hg⟩; have hh' := TS.cells (TS.kp hh.2.2.2.2.2.2.2.2.2.2.2.2.2.2.2.2.2.2.2.2 hg); clear hh hg) | (go_at_call 15; rename_i hh _ _; refine (cov_any _ _ _ _ _ _ _).mono ?_; rintro e w' ⟨rfl, hg⟩; have hh' := TS.cells (TS.kp hh.2.2.2.2.2.2.2.2.2.2.2.2.2.2.2.2.2.2.2.2 hg); clear hh hg) | (go_at_call 16; rename_i hh _ _; refine (rcov_any _ _ _ _ _ _ _).mono ?_; rintro e w' ⟨rfl, hg⟩; have hh' := TS.cells (TS.kp hh.2.2.2.2.2.2.2.2.2.2.2.2.2.2.2.2.2.2.2.2 hg); clear hh hg) | (go_at_call 17; rename_i hh _ _; refine (wakes_any _).mono ?_; rintro e w' ⟨rfl, hg⟩; have hh' := TS.cells (TS.kp hh.2.2.2.2.2.2.2.2.2.2.2.2.2.2.2.2.2.2.2.2 hg); clear hh hg))
  all_goals
    rename_i hh
    have HH := Lib.hid hh; clear hh
    go_wp2_with fail
    go_ret
    exact ⟨rfl, HH.out.2.2.2.2.2.2.2.2.2.2.2.2.2.2.2.2.2.2.2.2.1.2.2.2.2⟩
theorem walkTells (k a X k' a' X' W b p f : Int) (r : Bool) (b' l p' f' : Int) (wX : (Lit.int .u64 X).wf = true) (wX' : (Lit.int .u64 X').wf = true) (wW : (Lit.int .u64 W).wf = true) (wp : (Lit.int .u64 p).wf = true) (wp' : (Lit.int .u64 p').wf = true) (w : World) :
    Calls Try.prog 3 #[.agg #[.int .i8 k, .int .i64 a, .int .u64 X], .agg #[.int .i8 k', .int .i64 a', .int .u64 X'], .int .u64 W, .agg #[.int .i64 b, .int .u64 p, .int .i64 f, .bool r], .agg #[.int .i64 b', .int .i8 l, .int .u64 p', .int .i64 f']] w fun e w' => e = .returned (.bool true) ∧ Kp w w' := by
  obtain ⟨X, rfl, -⟩ := nat_of X wX
  obtain ⟨X', rfl, -⟩ := nat_of X' wX'
  obtain ⟨W, rfl, hW⟩ := nat_of W wW
  obtain ⟨p, rfl, -⟩ := nat_of p wp
  obtain ⟨p', rfl, -⟩ := nat_of p' wp'
  exact tells_any k a X k' a' X' b p f r b' l p' f' W w hW
end Go.Proofs.Ytgchpicfhbhikaa
