/-
  The document's own answers for package desc: Decode, Touch, Differ, for every word. No condition.
-/
import Derived.Test.YtpdgajlookhpfaaDoorRefDesc
namespace Go.Proofs.YtpdgajlookhpfaaDoor
open Go Go.RowKit

theorem get0 (x : BitVec 64) : (getB x 0 0).toNat = x.toNat % 2 := by
  rw [getB_nat x 0 0 (by decide) (by decide)]
  omega
theorem getF (x : BitVec 64) : (getB x 47 12).toNat = frN x := by
  rw [getB_nat x 47 12 (by decide) (by decide)]
  rfl
theorem rdecode_arg (x : BitVec 64) (l : Int) (w : World) (h : l < 0 ∨ 4 ≤ l) :
    Calls Tryd.prog 10 #[.int .u64 x.toNat, .int .i64 l] w fun e w' => e = .returned (.tuple #[dV x l, .int .i64 (dE x l)]) ∧ Kp w w' := by
  have HD := Lib.hid (dec_arg x l h)
  by_cases a : l < 0
  · clear h
    go_enter Tryd.func10, Tryd.ntmps10
    go_wp2_with fail
    refine bodyPost_ret (results_cell_tmp rfl _ _ _ _ _ _ rfl (Blk.new _ _ _) Tryd.underlying24 rfl (by kernel_rfl)) rfl ?_
    exact ⟨ret_dec HD.out.1 HD.out.2, (Kp.refl _).alloc _ _⟩
  · have b : 3 < l := by omega
    clear h
    go_enter Tryd.func10, Tryd.ntmps10
    go_wp2_with fail
    refine bodyPost_ret (results_cell_tmp rfl _ _ _ _ _ _ rfl (Blk.new _ _ _) Tryd.underlying24 rfl (by kernel_rfl)) rfl ?_
    exact ⟨ret_dec HD.out.1 HD.out.2, (Kp.refl _).alloc _ _⟩
theorem rdecode_none (x : BitVec 64) (l : Int) (w : World) (h : 0 ≤ l ∧ l < 4) (hx : x.toNat % 2 = 0) :
    Calls Tryd.prog 10 #[.int .u64 x.toNat, .int .i64 l] w fun e w' => e = .returned (.tuple #[dV x l, .int .i64 (dE x l)]) ∧ Kp w w' := by
  have HD := Lib.hid (dec_none x l h hx)
  have G : Hid ((getB x 0 0).toNat = 0) := Lib.hid (by rw [get0, hx])
  have a : 0 ≤ l := h.1
  have b : l ≤ 3 := by omega
  clear h hx
  go_enter Tryd.func10, Tryd.ntmps10
  go_wp2_with fail
  refine (rget_yes x 0 0 _ (by decide) (by decide)).mono ?_; rintro e w1 ⟨rfl, rfl⟩
  rw [G.out]
  go_wp2_with fail
  refine bodyPost_ret (results_cell_tmp rfl _ _ _ _ _ _ rfl (Blk.new _ _ _) Tryd.underlying24 rfl (by kernel_rfl)) rfl ?_
  exact ⟨ret_dec HD.out.1 HD.out.2, (Kp.refl _).alloc _ _⟩
theorem wok_frame (x : BitVec 64) (l : Int) (h : WOk x l) : frN x < 64 := by
  have g := h.1
  unfold encE at g
  split at g
  · rename_i d
    unfold DOk at d
    omega
  · cases g
theorem rdecode_far (x : BitVec 64) (l : Int) (w : World) (h : 0 ≤ l ∧ l < 4) (hx : x.toNat % 2 = 1) (hf : 64 ≤ frN x) :
    Calls Tryd.prog 10 #[.int .u64 x.toNat, .int .i64 l] w fun e w' => e = .returned (.tuple #[dV x l, .int .i64 (dE x l)]) ∧ Kp w w' := by
  have HD := Lib.hid (dec_bad x l h hx (fun g => by have := wok_frame x l g; omega))
  have G : Hid ((getB x 0 0).toNat = 1) := Lib.hid (by rw [get0, hx])
  have F := Lib.hid (getF x)
  have a : 0 ≤ l := h.1
  have b : l ≤ 3 := by omega
  clear h hx
  go_enter Tryd.func10, Tryd.ntmps10
  go_wp2_with fail
  refine (rget_yes x 0 0 _ (by decide) (by decide)).mono ?_; rintro e w1 ⟨rfl, rfl⟩
  rw [G.out]
  go_wp2_with fail
  refine (rget_yes x 47 12 _ (by decide) (by decide)).mono ?_; rintro e w1 ⟨rfl, rfl⟩
  rw [F.out]
  go_wp2_with fail
  refine bodyPost_ret (results_cell_tmp rfl _ _ _ _ _ _ rfl (Blk.new _ _ _) Tryd.underlying24 rfl (by kernel_rfl)) rfl ?_
  exact ⟨ret_dec HD.out.1 HD.out.2, (Kp.refl _).alloc _ _⟩
theorem wok_table (x : BitVec 64) (l : Int) (hl : l ≠ 3) (hf : frN x < 64) : encE 1 (frN x) false false false false = 0 ∧ (WOk x l ↔ encW 1 (frN x) false false false false = x) := by
  have hk : kindOf l = 1 := if_neg hl
  have g : DOk 1 (frN x) false false false false := .inr (.inl ⟨rfl, by omega, by omega, rfl, rfl, rfl, rfl⟩)
  refine ⟨if_pos g, ?_⟩
  unfold WOk
  rw [hk]
  constructor
  · rintro ⟨h1, h2⟩
    unfold encE at h1
    split at h1
    · rename_i d
      unfold DOk bare at d
      have d' : flg x 10 = false ∧ flg x 7 = false ∧ flg x 6 = false ∧ flg x 11 = false := by
        rcases d with d | d | d
        · have := d.1; omega
        · exact d.2.2.2
        · have := d.1; omega
      rw [d'.1, d'.2.1, d'.2.2.1, d'.2.2.2] at h2
      exact h2
    · cases h1
  · intro h
    have e : encW 1 (frN x) false false false false = BitVec.ofNat 64 (encN 1 (frN x) false false false false) := if_pos g
    have n : x.toNat = 3 + 4096 * frN x := by
      have := congrArg BitVec.toNat h
      rw [e, ofN _ (by simp [encN, bN]; omega)] at this
      rw [← this]
      simp [encN, bN]
    have f10 : flg x 10 = false := by unfold flg; rw [n]; simp; omega
    have f7 : flg x 7 = false := by unfold flg; rw [n]; simp; omega
    have f6 : flg x 6 = false := by unfold flg; rw [n]; simp; omega
    have f11 : flg x 11 = false := by unfold flg; rw [n]; simp; omega
    rw [f10, f7, f6, f11]
    exact ⟨if_pos g, h⟩
theorem wok_flags (x : BitVec 64) (l : Int) (hk : kindOf l = 1) (h : WOk x l) : flg x 10 = false ∧ flg x 7 = false ∧ flg x 6 = false ∧ flg x 11 = false := by
  have h1 := h.1
  rw [hk] at h1
  unfold encE at h1
  split at h1
  · rename_i d
    unfold DOk bare at d
    rcases d with d | d | d
    · have := d.1; omega
    · exact d.2.2.2
    · have := d.1; omega
  · cases h1
theorem pair_ne {x y : BitVec 64} (h : y ≠ x) : ((y.toNat : Int) == (x.toNat : Int)) = false := by
  rw [beq_eq_false_iff_ne]
  intro g
  exact h (BitVec.eq_of_toNat_eq (by omega))
set_option maxHeartbeats 1000000 in
theorem rdecode_table (x : BitVec 64) (l : Int) (w : World) (hl : 0 ≤ l ∧ l < 3) (hx : x.toNat % 2 = 1) (hf : frN x < 64) :
    Calls Tryd.prog 10 #[.int .u64 x.toNat, .int .i64 l] w fun e w' => e = .returned (.tuple #[dV x l, .int .i64 (dE x l)]) ∧ Kp w w' := by
  have G : Hid ((getB x 0 0).toNat = 1) := Lib.hid (by rw [get0, hx])
  have F := Lib.hid (getF x)
  have HX := Lib.hid hx; clear hx
  have HF := Lib.hid hf
  have hw64 : (frN x : Int) < 64 := by omega
  have hw63 : wrap64 (frN x : Int) = (frN x : Int) := by unfold wrap64; omega
  clear hf
  have HL := Lib.hid hl
  have a : 0 ≤ l := hl.1
  have b : l ≤ 3 := by omega
  have c := beq_no (show l ≠ 3 by omega)
  clear hl
  go_enter Tryd.func10, Tryd.ntmps10
  go_wp2_with fail
  refine (rget_yes x 0 0 _ (by decide) (by decide)).mono ?_; rintro e w1 ⟨rfl, rfl⟩
  rw [G.out]
  go_wp2_with fail
  refine (rget_yes x 47 12 _ (by decide) (by decide)).mono ?_; rintro e w1 ⟨rfl, rfl⟩
  rw [F.out]
  go_wp2_with fail
  refine (rencode_any 1 (frN x) false false false false _).mono ?_; rintro e w2 ⟨rfl, hg2⟩
  have B0 := ((Blk.new w #[.int .i8 0, .int .i64 0, .bool false, .bool false, .bool false, .bool false] 24).alloc _).kp hg2
  have B1 := (Blk.new2 w (.cells #[.int .i8 0, .int .i64 0, .bool false, .bool false, .bool false, .bool false] 24) #[.int .i8 1, .int .i64 (frN x), .bool false, .bool false, .bool false, .bool false] 24).kp hg2
  have G2 := Lib.hid (Kp.trans (((Kp.refl w).alloc _ _).alloc _ _) hg2); clear hg2
  have p0 := B0.cell 0
  have q0 := B0.frozen 0
  have r0 := B1.cell 0
  have p1 := B0.cell 1
  have q1 := B0.frozen 1
  have r1 := B1.cell 1
  have p2 := B0.cell 2
  have q2 := B0.frozen 2
  have r2 := B1.cell 2
  have p3 := B0.cell 3
  have q3 := B0.frozen 3
  have r3 := B1.cell 3
  have p4 := B0.cell 4
  have q4 := B0.frozen 4
  have r4 := B1.cell 4
  have p5 := B0.cell 5
  have q5 := B0.frozen 5
  have r5 := B1.cell 5
  simp at p0 p1 p2 p3 p4 p5 r0 r1 r2 r3 r4 r5
  have HB0 := Lib.hid B0; clear B0 B1
  have hlt := (wok_table x l (by have := HL.out; omega) HF.out)
  rw [hlt.1]
  by_cases hw : encW 1 (frN x) false false false false = x
  · have W := hlt.2.2 hw
    have HD := dec_good x l ⟨by omega, by have := HL.out; omega⟩ HX.out W
    have hk : kindOf l = 1 := if_neg (by have := HL.out; omega)
    have hb : flg x 10 = false ∧ flg x 7 = false ∧ flg x 6 = false ∧ flg x 11 = false := wok_flags x l hk W
    rw [hk, hb.1, hb.2.1, hb.2.2.1, hb.2.2.2] at HD
    have HD := Lib.hid HD
    rw [hw]
    clear hw W hk hb hlt
    go_wp2_with fail
    have B3 := (((((HB0.out.set 0 (.int .i8 1)).set 1 (.int .i64 (frN x))).set 2 (.bool false)).set 3 (.bool false)).set 4 (.bool false)).set 5 (.bool false)
    have B3 : Blk _ _ #[.int .i8 1, .int .i64 (frN x), .bool false, .bool false, .bool false, .bool false] _ := B3
    refine bodyPost_ret (results_cell_tmp rfl _ _ _ _ _ _ rfl B3 Tryd.underlying24 rfl (by kernel_rfl)) rfl ?_
    exact ⟨ret_dec HD.out.1 HD.out.2, (((((G2.out.setCell (Nat.le_refl _) _).setCell (Nat.le_refl _) _).setCell (Nat.le_refl _) _).setCell (Nat.le_refl _) _).setCell (Nat.le_refl _) _).setCell (Nat.le_refl _) _⟩
  · have HD := Lib.hid (dec_bad x l ⟨by omega, by have := HL.out; omega⟩ HX.out (fun g => hw (hlt.2.1 g)))
    have hd := pair_ne hw
    clear hw hlt
    generalize ((encW 1 (frN x) false false false false).toNat : Int) = Y at hd ⊢
    go_wp2_with fail
    have B3 := (((((HB0.out.set 0 (.int .i8 0)).set 1 (.int .i64 0)).set 2 (.bool false)).set 3 (.bool false)).set 4 (.bool false)).set 5 (.bool false)
    have B3 : Blk _ _ #[.int .i8 0, .int .i64 0, .bool false, .bool false, .bool false, .bool false] _ := B3
    refine bodyPost_ret (results_cell_tmp rfl _ _ _ _ _ _ rfl B3 Tryd.underlying24 rfl (by kernel_rfl)) rfl ?_
    exact ⟨ret_dec HD.out.1 HD.out.2, (((((G2.out.setCell (Nat.le_refl _) _).setCell (Nat.le_refl _) _).setCell (Nat.le_refl _) _).setCell (Nat.le_refl _) _).setCell (Nat.le_refl _) _).setCell (Nat.le_refl _) _⟩
set_option maxHeartbeats 1000000 in
theorem rdecode_page (x : BitVec 64) (w : World) (hx : x.toNat % 2 = 1) (hf : frN x < 64) :
    Calls Tryd.prog 10 #[.int .u64 x.toNat, .int .i64 3] w fun e w' => e = .returned (.tuple #[dV x 3, .int .i64 (dE x 3)]) ∧ Kp w w' := by
  have G : Hid ((getB x 0 0).toNat = 1) := Lib.hid (by rw [get0, hx])
  have F := Lib.hid (getF x)
  have HX := Lib.hid hx; clear hx
  have HF := Lib.hid hf
  have hw64 : (frN x : Int) < 64 := by omega
  have hw63 : wrap64 (frN x : Int) = (frN x : Int) := by unfold wrap64; omega
  clear hf
  go_enter Tryd.func10, Tryd.ntmps10
  go_wp2_with fail
  refine (rget_yes x 0 0 _ (by decide) (by decide)).mono ?_; rintro e w1 ⟨rfl, rfl⟩
  rw [G.out]
  go_wp2_with fail
  refine (rget_yes x 47 12 _ (by decide) (by decide)).mono ?_; rintro e w1 ⟨rfl, rfl⟩
  rw [F.out]
  go_wp2_with fail
  refine (rget_yes x 10 10 _ (by decide) (by decide)).mono ?_; rintro e w1 ⟨rfl, rfl⟩
  go_wp2_with fail
  refine (rget_yes x 7 7 _ (by decide) (by decide)).mono ?_; rintro e w1 ⟨rfl, rfl⟩
  go_wp2_with fail
  refine (rget_yes x 6 6 _ (by decide) (by decide)).mono ?_; rintro e w1 ⟨rfl, rfl⟩
  go_wp2_with fail
  refine (rget_yes x 11 11 _ (by decide) (by decide)).mono ?_; rintro e w1 ⟨rfl, rfl⟩
  go_wp2_with fail
  rw [flg_num x 10 (by decide), flg_num x 7 (by decide), flg_num x 6 (by decide), flg_num x 11 (by decide)]
  refine (rencode_any 2 (frN x) (flg x 10) (flg x 7) (flg x 6) (flg x 11) _).mono ?_; rintro e w2 ⟨rfl, hg2⟩
  have B0 := ((Blk.new w #[.int .i8 0, .int .i64 0, .bool false, .bool false, .bool false, .bool false] 24).alloc _).kp hg2
  have B1 := (Blk.new2 w (.cells #[.int .i8 0, .int .i64 0, .bool false, .bool false, .bool false, .bool false] 24) #[.int .i8 2, .int .i64 (frN x), .bool (flg x 10), .bool (flg x 7), .bool (flg x 6), .bool (flg x 11)] 24).kp hg2
  have G2 := Lib.hid (Kp.trans (((Kp.refl w).alloc _ _).alloc _ _) hg2); clear hg2
  have p0 := B0.cell 0
  have q0 := B0.frozen 0
  have r0 := B1.cell 0
  have p1 := B0.cell 1
  have q1 := B0.frozen 1
  have r1 := B1.cell 1
  have p2 := B0.cell 2
  have q2 := B0.frozen 2
  have r2 := B1.cell 2
  have p3 := B0.cell 3
  have q3 := B0.frozen 3
  have r3 := B1.cell 3
  have p4 := B0.cell 4
  have q4 := B0.frozen 4
  have r4 := B1.cell 4
  have p5 := B0.cell 5
  have q5 := B0.frozen 5
  have r5 := B1.cell 5
  simp at p0 p1 p2 p3 p4 p5 r0 r1 r2 r3 r4 r5
  have HB0 := Lib.hid B0; clear B0 B1
  have ho : encE 2 (frN x) (flg x 10) (flg x 7) (flg x 6) (flg x 11) = 0 ∨ encE 2 (frN x) (flg x 10) (flg x 7) (flg x 6) (flg x 11) = 30 := by unfold encE; split <;> simp
  have hk : kindOf 3 = 2 := rfl
  by_cases hw : WOk x 3
  · have HD := Lib.hid (dec_good x 3 ⟨by decide, by decide⟩ HX.out hw)
    have hw1 : encE 2 (frN x) (flg x 10) (flg x 7) (flg x 6) (flg x 11) = 0 := hw.1
    have hw2 : encW 2 (frN x) (flg x 10) (flg x 7) (flg x 6) (flg x 11) = x := hw.2
    rw [hw1, hw2]
    clear ho hw hk hw1 hw2
    go_wp2_with fail
    have B3 := (((((HB0.out.set 0 (.int .i8 2)).set 1 (.int .i64 (frN x))).set 2 (.bool (flg x 10))).set 3 (.bool (flg x 7))).set 4 (.bool (flg x 6))).set 5 (.bool (flg x 11))
    have B3 : Blk _ _ #[.int .i8 2, .int .i64 (frN x), .bool (flg x 10), .bool (flg x 7), .bool (flg x 6), .bool (flg x 11)] _ := B3
    refine bodyPost_ret (results_cell_tmp rfl _ _ _ _ _ _ rfl B3 Tryd.underlying24 rfl (by kernel_rfl)) rfl ?_
    exact ⟨ret_dec HD.out.1 HD.out.2, (((((G2.out.setCell (Nat.le_refl _) _).setCell (Nat.le_refl _) _).setCell (Nat.le_refl _) _).setCell (Nat.le_refl _) _).setCell (Nat.le_refl _) _).setCell (Nat.le_refl _) _⟩
  · have HD := Lib.hid (dec_bad x 3 ⟨by decide, by decide⟩ HX.out hw)
    rcases ho with ho | ho
    · have hd := pair_ne (fun h => hw ⟨ho, h⟩)
      rw [hk] at hd
      rw [ho]
      clear ho hw hk
      generalize ((encW 2 (frN x) (flg x 10) (flg x 7) (flg x 6) (flg x 11)).toNat : Int) = Y at hd ⊢
      go_wp2_with fail
      have B3 := (((((HB0.out.set 0 (.int .i8 0)).set 1 (.int .i64 0)).set 2 (.bool false)).set 3 (.bool false)).set 4 (.bool false)).set 5 (.bool false)
      have B3 : Blk _ _ #[.int .i8 0, .int .i64 0, .bool false, .bool false, .bool false, .bool false] _ := B3
      refine bodyPost_ret (results_cell_tmp rfl _ _ _ _ _ _ rfl B3 Tryd.underlying24 rfl (by kernel_rfl)) rfl ?_
      exact ⟨ret_dec HD.out.1 HD.out.2, (((((G2.out.setCell (Nat.le_refl _) _).setCell (Nat.le_refl _) _).setCell (Nat.le_refl _) _).setCell (Nat.le_refl _) _).setCell (Nat.le_refl _) _).setCell (Nat.le_refl _) _⟩
    · rw [ho]
      clear ho hw hk
      generalize encW 2 (frN x) (flg x 10) (flg x 7) (flg x 6) (flg x 11) = y
      go_wp2_with fail
      have B3 := (((((HB0.out.set 0 (.int .i8 0)).set 1 (.int .i64 0)).set 2 (.bool false)).set 3 (.bool false)).set 4 (.bool false)).set 5 (.bool false)
      have B3 : Blk _ _ #[.int .i8 0, .int .i64 0, .bool false, .bool false, .bool false, .bool false] _ := B3
      refine bodyPost_ret (results_cell_tmp rfl _ _ _ _ _ _ rfl B3 Tryd.underlying24 rfl (by kernel_rfl)) rfl ?_
      exact ⟨ret_dec HD.out.1 HD.out.2, (((((G2.out.setCell (Nat.le_refl _) _).setCell (Nat.le_refl _) _).setCell (Nat.le_refl _) _).setCell (Nat.le_refl _) _).setCell (Nat.le_refl _) _).setCell (Nat.le_refl _) _⟩
theorem rdecode_any (x : BitVec 64) (l : Int) (w : World) :
    Calls Tryd.prog 10 #[.int .u64 x.toNat, .int .i64 l] w fun e w' => e = .returned (.tuple #[dV x l, .int .i64 (dE x l)]) ∧ Kp w w' := by
  by_cases a : l < 0 ∨ 4 ≤ l
  · exact rdecode_arg x l w a
  · by_cases hx : x.toNat % 2 = 0
    · exact rdecode_none x l w (by omega) hx
    · by_cases hf : 64 ≤ frN x
      · exact rdecode_far x l w (by omega) (by omega) hf
      · by_cases h3 : l = 3
        · subst h3; exact rdecode_page x w (by omega) (by omega)
        · exact rdecode_table x l w (by omega) (by omega) (by omega)
end Go.Proofs.YtpdgajlookhpfaaDoor
