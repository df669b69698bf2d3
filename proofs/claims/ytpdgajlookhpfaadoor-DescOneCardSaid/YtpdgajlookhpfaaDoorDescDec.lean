/-
  The contract of package desc's Decode, for every word and every level, where the tables hold what the program's text lays. No condition.
-/
import Derived.Test.YtpdgajlookhpfaaDoorDescEnc
namespace Go.Proofs.YtpdgajlookhpfaaDoor
open Go Go.RowKit

/-! What it comes to. -/
def kindOf (l : Int) : Int := if l = 3 then 2 else 1
def WOk (x : BitVec 64) (l : Int) : Prop := encE (kindOf l) (frN x) (flg x 10) (flg x 7) (flg x 6) (flg x 11) = 0 ∧ encW (kindOf l) (frN x) (flg x 10) (flg x 7) (flg x 6) (flg x 11) = x
instance (x : BitVec 64) (l : Int) : Decidable (WOk x l) := by unfold WOk; infer_instance
def DecOk (x : BitVec 64) (l : Int) : Prop := (0 ≤ l ∧ l < 4) ∧ x.toNat % 2 = 1 ∧ WOk x l
instance (x : BitVec 64) (l : Int) : Decidable (DecOk x l) := by unfold DecOk; infer_instance
def dE (x : BitVec 64) (l : Int) : Int := if l < 0 ∨ 4 ≤ l then 2 else if x.toNat % 2 = 0 then 0 else if WOk x l then 0 else 30
def dK (x : BitVec 64) (l : Int) : Int := if DecOk x l then kindOf l else 0
def dF (x : BitVec 64) (l : Int) : Int := if DecOk x l then (frN x : Int) else 0
def dB (x : BitVec 64) (l : Int) (j : Nat) : Bool := decide (DecOk x l) && flg x j
def dV (x : BitVec 64) (l : Int) : Value := .agg #[.int .i8 (dK x l), .int .i64 (dF x l), .bool (dB x l 10), .bool (dB x l 7), .bool (dB x l 6), .bool (dB x l 11)]
theorem dec_arg (x : BitVec 64) (l : Int) (h : l < 0 ∨ 4 ≤ l) : dV x l = .agg noDesc ∧ dE x l = 2 := by
  have g : ¬ DecOk x l := by intro g; have := g.1; omega
  refine ⟨?_, if_pos h⟩
  simp [dV, dK, dF, dB, g, noDesc]
theorem dec_none (x : BitVec 64) (l : Int) (h : 0 ≤ l ∧ l < 4) (hx : x.toNat % 2 = 0) : dV x l = .agg noDesc ∧ dE x l = 0 := by
  have g : ¬ DecOk x l := by intro g; have := g.2.1; omega
  refine ⟨?_, ?_⟩
  · simp [dV, dK, dF, dB, g, noDesc]
  · unfold dE
    rw [if_neg (by omega), if_pos hx]
theorem dec_bad (x : BitVec 64) (l : Int) (h : 0 ≤ l ∧ l < 4) (hx : x.toNat % 2 = 1) (hw : ¬ WOk x l) : dV x l = .agg noDesc ∧ dE x l = 30 := by
  have g : ¬ DecOk x l := by intro g; exact hw g.2.2
  refine ⟨?_, ?_⟩
  · simp [dV, dK, dF, dB, g, noDesc]
  · unfold dE
    rw [if_neg (by omega), if_neg (by omega), if_neg hw]
theorem dec_good (x : BitVec 64) (l : Int) (h : 0 ≤ l ∧ l < 4) (hx : x.toNat % 2 = 1) (hw : WOk x l) : dV x l = .agg #[.int .i8 (kindOf l), .int .i64 (frN x), .bool (flg x 10), .bool (flg x 7), .bool (flg x 6), .bool (flg x 11)] ∧ dE x l = 0 := by
  have g : DecOk x l := ⟨h, hx, hw⟩
  refine ⟨?_, ?_⟩
  · simp [dV, dK, dF, dB, g]
  · unfold dE
    rw [if_neg (by omega), if_neg (by omega), if_pos hw]
theorem and1 (x : BitVec 64) : bits BinOp.and IntKind.u64 (x.toNat : Int) 1 = ((x.toNat % 2 : Nat) : Int) := by
  have := bv_and x 1#64
  rw [show (((1#64 : BitVec 64).toNat : Nat) : Int) = 1 from rfl] at this
  rw [this, BitVec.toNat_and, show (1#64 : BitVec 64).toNat = 2 ^ 1 - 1 from rfl, Nat.and_two_pow_sub_one_eq_mod]
theorem TabsOk.levels {w : World} (h : TabsOk w) (l : Nat) (hl : l < 4) : w.cell? ⟨2, l, none⟩ = some (.int .i8 (kindOf l)) := by
  obtain rfl | rfl | rfl | rfl : l = 0 ∨ l = 1 ∨ l = 2 ∨ l = 3 := by omega
  all_goals exact h.2.2.at _ _ rfl
theorem kind_wf (l : Int) : (Lit.int .i8 (kindOf l)).wf = true := by unfold kindOf; split <;> decide
theorem fr_lt (x : BitVec 64) : (frN x : Int) < 68719476736 := by unfold frN; omega
theorem fr_wf (x : BitVec 64) : (Lit.int .i64 (frN x : Int)).wf = true := by
  have := fr_lt x
  simp [Lit.wf, IntKind.min, IntKind.max, IntKind.bits, IntKind.signed]
  omega
theorem ret_dec {cs : Array Value} {v : Value} {a b : Int} (h : v = .agg cs) (g : b = a) : Ending.returned (.tuple #[.agg cs, .int .i64 a]) = .returned (.tuple #[v, .int .i64 b]) := by rw [h, g]
theorem decode_arg (x : BitVec 64) (l : Int) (w : World) (h : l < 0 ∨ 4 ≤ l) :
    Calls Tryd.prog 9 #[.int .u64 x.toNat, .int .i64 l] w fun e w' => e = .returned (.tuple #[dV x l, .int .i64 (dE x l)]) ∧ Kp w w' := by
  have HD := Lib.hid (dec_arg x l h)
  by_cases a : l < 0
  · clear h
    go_enter Tryd.func9, Tryd.ntmps9
    go_wp2_with fail
    refine bodyPost_ret (results_cell_tmp rfl _ _ _ _ _ _ rfl (Blk.new _ _ _) Tryd.underlying24 rfl (by kernel_rfl)) rfl ?_
    exact ⟨ret_dec HD.out.1 HD.out.2, (Kp.refl _).alloc _ _⟩
  · have b : 4 ≤ l := by omega
    clear h
    go_enter Tryd.func9, Tryd.ntmps9
    go_wp2_with fail
    refine bodyPost_ret (results_cell_tmp rfl _ _ _ _ _ _ rfl (Blk.new _ _ _) Tryd.underlying24 rfl (by kernel_rfl)) rfl ?_
    exact ⟨ret_dec HD.out.1 HD.out.2, (Kp.refl _).alloc _ _⟩
set_option maxHeartbeats 1000000 in
theorem decode_at (x : BitVec 64) (l : Nat) (w : World) (hT : TabsOk w) (hl : l < 4) :
    Calls Tryd.prog 9 #[.int .u64 x.toNat, .int .i64 l] w fun e w' => e = .returned (.tuple #[dV x l, .int .i64 (dE x l)]) ∧ Kp w w' := by
  have hT1 := hT.kp ((Kp.refl w).alloc #[.int .i8 0, .int .i64 0, .bool false, .bool false, .bool false, .bool false] 24)
  have c := hT1.levels l hl
  by_cases hx : x.toNat % 2 = 0
  · have H := and1 x
    rw [hx] at H
    have HD := Lib.hid (dec_none x l ⟨by omega, by omega⟩ hx)
    clear hT1 hT
    go_enter Tryd.func9, Tryd.ntmps9
    go_wp2_with fail
    refine bodyPost_ret (results_cell_tmp rfl _ _ _ _ _ _ rfl (Blk.new _ _ _) Tryd.underlying24 rfl (by kernel_rfl)) rfl ?_
    exact ⟨ret_dec HD.out.1 HD.out.2, (Kp.refl _).alloc _ _⟩
  · have h1 : x.toNat % 2 = 1 := by omega
    have H := and1 x
    rw [h1] at H
    have L : (0 : Int) ≤ (l : Int) ∧ (l : Int) < 4 := ⟨by omega, by omega⟩
    have HL := Lib.hid L; clear L
    have HX := Lib.hid h1; clear h1 hx
    have HT := Lib.hid hT1; clear hT1 hT
    go_enter Tryd.func9, Tryd.ntmps9
    go_wp2_with fail
    refine (read_any x (kindOf l) _ HT.out).mono ?_; rintro e w1 ⟨rfl, hg1⟩
    have B0 : Blk w1 w.heap.size #[.int .i8 0, .int .i64 0, .bool false, .bool false, .bool false, .bool false] 24 := (Blk.new _ _ _).kp hg1
    have hT2 := HT.out.kp hg1
    have G1 := Lib.hid (Kp.trans ((Kp.refl w).alloc _ _) hg1); clear hg1
    clear c H
    have H0 := Lib.hid B0; clear B0
    have HT2 := Lib.hid hT2; clear hT2
    go_wp2_with fail
    refine (encode_any (kindOf l) (frN x) (flg x 10) (flg x 7) (flg x 6) (flg x 11) _ (HT2.out.kp ((Kp.refl _).alloc _ _)) (kind_wf _) (fr_wf _)).mono ?_; rintro e w2 ⟨rfl, hg2⟩
    have B0 := ((H0.out.alloc _).kp hg2)
    have B1 := ((Blk.new _ _ _).kp hg2)
    have G2 := Lib.hid (Kp.trans (G1.out.alloc _ _) hg2); clear hg2
    have p0 := B0.cell 0
    have q0 := B0.frozen 0
    have r0 := B1.cell 0
    have p1 := B0.cell 1
    have q1 := B0.frozen 1
    have r1 := B1.cell 1
    have p2 := B0.cell 2
    have q2 := B0.frozen 2
    have r2 := B1.cell 2
    have p3 := B0.cell 3
    have q3 := B0.frozen 3
    have r3 := B1.cell 3
    have p4 := B0.cell 4
    have q4 := B0.frozen 4
    have r4 := B1.cell 4
    have p5 := B0.cell 5
    have q5 := B0.frozen 5
    have r5 := B1.cell 5
    simp at p0 p1 p2 p3 p4 p5 r0 r1 r2 r3 r4 r5
    have HB0 := Lib.hid B0; clear B0 B1
    have ho : encE (kindOf l) (frN x) (flg x 10) (flg x 7) (flg x 6) (flg x 11) = 0 ∨ encE (kindOf l) (frN x) (flg x 10) (flg x 7) (flg x 6) (flg x 11) = 30 := by unfold encE; split <;> simp
    by_cases hw : WOk x l
    · have HD := Lib.hid (dec_good x l HL.out HX.out hw)
      rw [hw.1, hw.2]
      clear ho hw
      go_wp2_with fail
      have B3 := (((((HB0.out.set 0 (.int .i8 (kindOf l))).set 1 (.int .i64 (frN x))).set 2 (.bool (flg x 10))).set 3 (.bool (flg x 7))).set 4 (.bool (flg x 6))).set 5 (.bool (flg x 11))
      have B3 : Blk _ _ #[.int .i8 (kindOf l), .int .i64 (frN x), .bool (flg x 10), .bool (flg x 7), .bool (flg x 6), .bool (flg x 11)] _ := B3
      refine bodyPost_ret (results_cell_tmp rfl _ _ _ _ _ _ rfl B3 Tryd.underlying24 rfl (by kernel_rfl)) rfl ?_
      exact ⟨ret_dec HD.out.1 HD.out.2, (((((G2.out.setCell (Nat.le_refl _) _).setCell (Nat.le_refl _) _).setCell (Nat.le_refl _) _).setCell (Nat.le_refl _) _).setCell (Nat.le_refl _) _).setCell (Nat.le_refl _) _⟩
    · have HD := Lib.hid (dec_bad x l HL.out HX.out hw)
      rcases ho with ho | ho
      · have hne : encW (kindOf l) (frN x) (flg x 10) (flg x 7) (flg x 6) (flg x 11) ≠ x := fun h => hw ⟨ho, h⟩
        rw [ho]
        clear ho hw
        generalize encW (kindOf l) (frN x) (flg x 10) (flg x 7) (flg x 6) (flg x 11) = y at hne ⊢
        have hd : ((y.toNat : Int) == (x.toNat : Int)) = false := by
          rw [beq_eq_false_iff_ne]
          intro h
          exact hne (BitVec.eq_of_toNat_eq (by omega))
        clear hne
        generalize (y.toNat : Int) = Y at hd ⊢
        go_wp2_with fail
        have B3 := (((((HB0.out.set 0 (.int .i8 0)).set 1 (.int .i64 0)).set 2 (.bool false)).set 3 (.bool false)).set 4 (.bool false)).set 5 (.bool false)
        have B3 : Blk _ _ #[.int .i8 0, .int .i64 0, .bool false, .bool false, .bool false, .bool false] _ := B3
        refine bodyPost_ret (results_cell_tmp rfl _ _ _ _ _ _ rfl B3 Tryd.underlying24 rfl (by kernel_rfl)) rfl ?_
        exact ⟨ret_dec HD.out.1 HD.out.2, (((((G2.out.setCell (Nat.le_refl _) _).setCell (Nat.le_refl _) _).setCell (Nat.le_refl _) _).setCell (Nat.le_refl _) _).setCell (Nat.le_refl _) _).setCell (Nat.le_refl _) _⟩
      · rw [ho]
        clear ho hw
        generalize encW (kindOf l) (frN x) (flg x 10) (flg x 7) (flg x 6) (flg x 11) = y
        go_wp2_with fail
        have B3 := (((((HB0.out.set 0 (.int .i8 0)).set 1 (.int .i64 0)).set 2 (.bool false)).set 3 (.bool false)).set 4 (.bool false)).set 5 (.bool false)
        have B3 : Blk _ _ #[.int .i8 0, .int .i64 0, .bool false, .bool false, .bool false, .bool false] _ := B3
        refine bodyPost_ret (results_cell_tmp rfl _ _ _ _ _ _ rfl B3 Tryd.underlying24 rfl (by kernel_rfl)) rfl ?_
        exact ⟨ret_dec HD.out.1 HD.out.2, (((((G2.out.setCell (Nat.le_refl _) _).setCell (Nat.le_refl _) _).setCell (Nat.le_refl _) _).setCell (Nat.le_refl _) _).setCell (Nat.le_refl _) _).setCell (Nat.le_refl _) _⟩
theorem decode_any (x : BitVec 64) (l : Int) (w : World) (hT : TabsOk w) :
    Calls Tryd.prog 9 #[.int .u64 x.toNat, .int .i64 l] w fun e w' => e = .returned (.tuple #[dV x l, .int .i64 (dE x l)]) ∧ Kp w w' := by
  by_cases h : l < 0 ∨ 4 ≤ l
  · exact decode_arg x l w h
  · obtain ⟨n, rfl⟩ := Int.eq_ofNat_of_zero_le (show 0 ≤ l by omega)
    exact decode_at x n w hT (by omega)
end Go.Proofs.YtpdgajlookhpfaaDoor
