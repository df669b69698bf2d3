/-
  IsaDecodes, IsaEncodes and IsaBack return true. No condition but the tables.
-/
import Derived.Test.YtfbkppncaampdaaDoorWakes07
namespace Go.Proofs.YtfbkppncaampdaaDoor
open Go Go.RowKit

theorem u32_of (a : Int) (h : (Lit.int .u32 a).wf = true) : ∃ W : Nat, a = (W : Int) ∧ W < 4294967296 := by
  have h' : 0 ≤ a ∧ a < 4294967296 := by
    simp [Lit.wf, IntKind.min, IntKind.max, IntKind.bits, IntKind.signed] at h
    omega
  exact ⟨a.toNat, by omega, by omega⟩
theorem dec_ex (W : Nat) : ∃ op d n m imm, DecOk W op d n m imm := by
  by_cases h : ∃ op d n m imm, OkA op d n m imm ∧ encN op d n m imm = W
  · obtain ⟨op, d, n, m, imm, h⟩ := h
    exact ⟨op, d, n, m, imm, .inl h⟩
  · exact ⟨18, 0, 0, 0, 0, .inr ⟨⟨rfl, rfl, rfl, rfl, rfl⟩, fun op d n m imm h1 h2 => h ⟨op, d, n, m, imm, h1, h2⟩⟩⟩
set_option maxHeartbeats 1000000 in
theorem decodes_any (W : Nat) (w : World) (hT : TAll w) (hW : W < 4294967296) :
    Calls Tryd.prog 3 #[.int .u32 W] w fun e w' => e = .returned (.bool true) ∧ Kp w w' := by
  have HT := Lib.hid hT; clear hT
  have HW := Lib.hid hW; clear hW
  go_enter Tryd.func3, Tryd.ntmps3
  go_wp2_with fail
  refine (decode_any W _ HT.out.1 HT.out.2.1 HW.out).mono ?_
  rintro e w1 ⟨op, d, n, m, imm, rfl, hd, hg⟩
  have HD := Lib.hid hd
  have H1 := Lib.hid hg
  clear hd hg
  go_wp2_with fail
  refine (rdec_any W _ HW.out).mono ?_
  rintro e w2 ⟨op', d', n', m', imm', rfl, hd, hg⟩
  obtain ⟨rfl, rfl, rfl, rfl, rfl⟩ := dec_one HD.out hd
  have H2 := Lib.hid hg
  clear hd hg
  unfold insV
  go_wp2_with fail
  refine (wakes_any _ (HT.out.kp (H1.out.trans H2.out))).mono ?_
  rintro e w3 ⟨rfl, hg⟩
  have H3 := Lib.hid hg
  clear hg
  go_wp2
  go_ret
  exact ⟨rfl, H1.out.trans (H2.out.trans H3.out)⟩
set_option maxRecDepth 20000 in
set_option maxHeartbeats 2000000 in
theorem encodes_any (op d n m imm : Int) (w : World) (hT : TAll w) (hop : -128 ≤ op ∧ op < 128) :
    Calls Tryd.prog 4 #[.agg (insV op d n m imm)] w fun e w' => e = .returned (.bool true) ∧ Kp w w' := by
  have HT := Lib.hid hT; clear hT
  have HO := Lib.hid hop; clear hop
  have HI := Lib.hid (IAt.new w op d n m imm)
  unfold insV at HI
  unfold insV
  go_enter Tryd.func4, Tryd.ntmps4
  go_wp2_with fail
  refine (encode_any op d n m imm _ (HT.out.1.kp (kpA _ _ _)) (HT.out.2.1.kp (kpA _ _ _)).ok HO.out).mono ?_
  rintro e w1 ⟨rfl, hg⟩
  have I1 := Lib.hid (HI.out.kp hg)
  obtain ⟨c0, c1, c2, c3, c4, -⟩ := HI.out.kp hg
  clear hg
  go_wp2_with fail
  refine (rencode_any op d n m imm _).mono ?_
  rintro e w2 ⟨rfl, hg⟩
  have I2 := Lib.hid (I1.out.kp hg)
  clear hg c0 c1 c2 c3 c4
  obtain ⟨c0, c1, c2, c3, c4, -⟩ := I2.out
  go_wp2_with fail
  go_region_held3 (fun w' => w'.cell? ⟨w.heap.size, 0, none⟩ = some (.int .i8 op) ∧ w'.cell? ⟨w.heap.size, 1, none⟩ = some (.int .i8 d) ∧ w'.cell? ⟨w.heap.size, 2, none⟩ = some (.int .i8 n) ∧ w'.cell? ⟨w.heap.size, 3, none⟩ = some (.int .i8 m) ∧ w'.cell? ⟨w.heap.size, 4, none⟩ = some (.int .i64 imm) ∧ w.heap.size < w'.heap.size ∧ Kp w w')
      (first | exact I2.out.drew | assumption | exact IAt.drew (by assumption))
      (first | (go_at_call 12; rename_i hh _ _; refine (text_any op d n m imm _ (HT.out.1.kp hh.2.2.2.2.2.2) (HT.out.2.1.kp hh.2.2.2.2.2.2).ok (HT.out.2.2.kp hh.2.2.2.2.2.2) HO.out).mono ?_; rintro e w' ⟨rfl, hg⟩; have hh' := IAt.kp hh hg; clear hh hg) | (go_at_call 13; rename_i hh _ _; refine (rtext_any op d n m imm _).mono ?_; rintro e w' ⟨rfl, hg⟩; have hh' := IAt.kp hh hg; clear hh hg) | (go_at_call 9; rename_i hh _ _; refine (wakes_any _ (HT.out.kp hh.2.2.2.2.2.2)).mono ?_; rintro e w' ⟨rfl, hg⟩; have hh' := IAt.kp hh hg; clear hh hg))
  rename_i hh
  have HH := Lib.hid hh
  clear hh
  go_wp2
  go_ret
  exact ⟨rfl, HH.out.2.2.2.2.2.2⟩
set_option maxRecDepth 20000 in
set_option maxHeartbeats 2000000 in
theorem back_Aok (W : Nat) (op d n m imm : Int) (p a b c k : Int) (w : World) (hT : TAll w) (hW : W < 4294967296) (hp : -128 ≤ p ∧ p < 128) (hx : OkA op d n m imm ∧ encN op d n m imm = W) (hy : OkA p a b c k) :
    Calls Tryd.prog 6 #[.int .u32 W, .agg (insV p a b c k)] w fun e w' => e = .returned (.bool true) ∧ Kp w w' := by
  have HT := Lib.hid hT
  have HW := Lib.hid hW
  have HP := Lib.hid hp
  have HX := Lib.hid hx
  have HY := Lib.hid hy
  have e18 : (op == 18) = false := by have := hx.1.2; simp; omega
  clear hT hW hp hx hy
  have HI := Lib.hid (IAt.new w p a b c k)
  unfold insV at HI
  unfold insV
  go_enter Tryd.func6, Tryd.ntmps6
  go_wp2_with fail
  refine (decode_is (W := W) (op := op) (d := d) (n := n) (m := m) (imm := imm) (.inl HX.out) _ (HT.out.kp (kpA _ _ _)) HW.out).mono ?_
  rintro e w1 ⟨rfl, hg⟩
  have I1 := Lib.hid (HI.out.kp hg)
  clear hg
  have BX : Hid (Blk (w1.alloc (.cells #[.int .i8 op, .int .i8 d, .int .i8 n, .int .i8 m, .int .i64 imm] 25)) w1.heap.size #[.int .i8 op, .int .i8 d, .int .i8 n, .int .i8 m, .int .i64 imm] 25) := Lib.hid (Blk.new w1 _ _)
  go_wp2_with fail
  refine (check_ok op d n m imm _ (HT.out.1.kp (I1.out.2.2.2.2.2.2.trans (kpA _ _ _))) (i8s_of HX.out.1) HX.out.1.1).mono ?_
  rintro e w2 ⟨rfl, hg⟩
  have B2 := Lib.hid (BX.out.kp hg)
  have I2 := Lib.hid (I1.out.kp ((kpA _ _ _).trans hg))
  clear hg
  have x0 := B2.out.cell 0
  have x1 := B2.out.cell 1
  have x2 := B2.out.cell 2
  have x3 := B2.out.cell 3
  have x4 := B2.out.cell 4
  simp at x0 x1 x2 x3 x4
  go_wp2_with fail
  have henc := encode_any op d n m imm w2 (HT.out.1.kp I2.out.2.2.2.2.2.2) (HT.out.2.1.kp I2.out.2.2.2.2.2.2).ok (i8s_of HX.out.1)
  rw [show encR op d n m imm = W from (if_pos HX.out.1).trans HX.out.2, show encE op d n m imm = 0 from if_pos HX.out.1] at henc
  refine henc.mono ?_
  clear henc x0 x1 x2 x3 x4
  rintro e w3 ⟨rfl, hg⟩
  have B3 := Lib.hid (B2.out.kp hg)
  have I3 := Lib.hid (I2.out.kp hg)
  clear hg
  have x0 := B3.out.cell 0
  have x1 := B3.out.cell 1
  have x2 := B3.out.cell 2
  have x3 := B3.out.cell 3
  have x4 := B3.out.cell 4
  simp at x0 x1 x2 x3 x4
  obtain ⟨y0, y1, y2, y3, y4, -⟩ := I3.out
  go_wp2_with fail
  have hen2 := encode_any p a b c k w3 (HT.out.1.kp I3.out.2.2.2.2.2.2) (HT.out.2.1.kp I3.out.2.2.2.2.2.2).ok HP.out
  rw [show encR p a b c k = encN p a b c k from if_pos HY.out, show encE p a b c k = 0 from if_pos HY.out] at hen2
  refine hen2.mono ?_
  clear hen2 x0 x1 x2 x3 x4 y0 y1 y2 y3 y4
  rintro e w4 ⟨rfl, hg⟩
  have I4 := Lib.hid (I3.out.kp hg)
  clear hg
  obtain ⟨y0, y1, y2, y3, y4, -⟩ := I4.out
  go_wp2_with fail
  go_region_held3 (fun w' => w'.cell? ⟨w.heap.size, 0, none⟩ = some (.int .i8 p) ∧ w'.cell? ⟨w.heap.size, 1, none⟩ = some (.int .i8 a) ∧ w'.cell? ⟨w.heap.size, 2, none⟩ = some (.int .i8 b) ∧ w'.cell? ⟨w.heap.size, 3, none⟩ = some (.int .i8 c) ∧ w'.cell? ⟨w.heap.size, 4, none⟩ = some (.int .i64 k) ∧ w.heap.size < w'.heap.size ∧ Kp w w')
      (first | exact I4.out.drew | assumption | exact IAt.drew (by assumption))
      (first | (go_at_call 7; rename_i hh _ _; refine (decode_is (W := encN p a b c k) (op := p) (d := a) (n := b) (m := c) (imm := k) (.inl ⟨HY.out, rfl⟩) _ (HT.out.kp hh.2.2.2.2.2.2) (encN_row p a b c k HY.out).2.1).mono ?_; rintro e w' ⟨rfl, hg⟩; have hh' := IAt.kp hh hg; clear hh hg) | (go_at_call 16; rename_i hh _ _; refine (check_ok p a b c k _ (HT.out.1.kp hh.2.2.2.2.2.2) HP.out HY.out.1).mono ?_; rintro e w' ⟨rfl, hg⟩; have hh' := IAt.kp hh hg; clear hh hg) | (go_at_call 9; rename_i hh _ _; refine (wakes_any _ (HT.out.kp hh.2.2.2.2.2.2)).mono ?_; rintro e w' ⟨rfl, hg⟩; have hh' := IAt.kp hh hg; clear hh hg))
  rename_i hh
  have HH := Lib.hid hh
  clear hh
  go_wp2
  go_ret
  exact ⟨rfl, HH.out.2.2.2.2.2.2⟩
set_option maxRecDepth 20000 in
set_option maxHeartbeats 2000000 in
theorem back_Ano (W : Nat) (op d n m imm : Int) (p a b c k : Int) (w : World) (hT : TAll w) (hW : W < 4294967296) (hp : -128 ≤ p ∧ p < 128) (hx : OkA op d n m imm ∧ encN op d n m imm = W) (hy : ¬ InsA p a b c k) :
    Calls Tryd.prog 6 #[.int .u32 W, .agg (insV p a b c k)] w fun e w' => e = .returned (.bool true) ∧ Kp w w' := by
  have HT := Lib.hid hT
  have HW := Lib.hid hW
  have HP := Lib.hid hp
  have HX := Lib.hid hx
  have HY := Lib.hid hy
  have e18 : (op == 18) = false := by have := hx.1.2; simp; omega
  clear hT hW hp hx hy
  have HI := Lib.hid (IAt.new w p a b c k)
  unfold insV at HI
  unfold insV
  go_enter Tryd.func6, Tryd.ntmps6
  go_wp2_with fail
  refine (decode_is (W := W) (op := op) (d := d) (n := n) (m := m) (imm := imm) (.inl HX.out) _ (HT.out.kp (kpA _ _ _)) HW.out).mono ?_
  rintro e w1 ⟨rfl, hg⟩
  have I1 := Lib.hid (HI.out.kp hg)
  clear hg
  have BX : Hid (Blk (w1.alloc (.cells #[.int .i8 op, .int .i8 d, .int .i8 n, .int .i8 m, .int .i64 imm] 25)) w1.heap.size #[.int .i8 op, .int .i8 d, .int .i8 n, .int .i8 m, .int .i64 imm] 25) := Lib.hid (Blk.new w1 _ _)
  go_wp2_with fail
  refine (check_ok op d n m imm _ (HT.out.1.kp (I1.out.2.2.2.2.2.2.trans (kpA _ _ _))) (i8s_of HX.out.1) HX.out.1.1).mono ?_
  rintro e w2 ⟨rfl, hg⟩
  have B2 := Lib.hid (BX.out.kp hg)
  have I2 := Lib.hid (I1.out.kp ((kpA _ _ _).trans hg))
  clear hg
  have x0 := B2.out.cell 0
  have x1 := B2.out.cell 1
  have x2 := B2.out.cell 2
  have x3 := B2.out.cell 3
  have x4 := B2.out.cell 4
  simp at x0 x1 x2 x3 x4
  go_wp2_with fail
  have henc := encode_any op d n m imm w2 (HT.out.1.kp I2.out.2.2.2.2.2.2) (HT.out.2.1.kp I2.out.2.2.2.2.2.2).ok (i8s_of HX.out.1)
  rw [show encR op d n m imm = W from (if_pos HX.out.1).trans HX.out.2, show encE op d n m imm = 0 from if_pos HX.out.1] at henc
  refine henc.mono ?_
  clear henc x0 x1 x2 x3 x4
  rintro e w3 ⟨rfl, hg⟩
  have B3 := Lib.hid (B2.out.kp hg)
  have I3 := Lib.hid (I2.out.kp hg)
  clear hg
  have x0 := B3.out.cell 0
  have x1 := B3.out.cell 1
  have x2 := B3.out.cell 2
  have x3 := B3.out.cell 3
  have x4 := B3.out.cell 4
  simp at x0 x1 x2 x3 x4
  obtain ⟨y0, y1, y2, y3, y4, -⟩ := I3.out
  go_wp2_with fail
  have hen2 := encode_any p a b c k w3 (HT.out.1.kp I3.out.2.2.2.2.2.2) (HT.out.2.1.kp I3.out.2.2.2.2.2.2).ok HP.out
  rw [show encR p a b c k = 0 from if_neg (fun h => HY.out h.1), show encE p a b c k = 60 from if_neg (fun h => HY.out h.1)] at hen2
  refine hen2.mono ?_
  clear hen2 x0 x1 x2 x3 x4 y0 y1 y2 y3 y4
  rintro e w4 ⟨rfl, hg⟩
  have I4 := Lib.hid (I3.out.kp hg)
  clear hg
  obtain ⟨y0, y1, y2, y3, y4, -⟩ := I4.out
  go_wp2_with fail
  refine (check_bad p a b c k _ (HT.out.1.kp I4.out.2.2.2.2.2.2) HP.out HY.out).mono ?_
  rintro e w5 ⟨rfl, hg⟩
  have I5 := Lib.hid (I4.out.kp hg)
  clear hg y0 y1 y2 y3 y4
  obtain ⟨y0, y1, y2, y3, y4, -⟩ := I5.out
  go_wp2_with fail
  refine (wakes_any _ (HT.out.kp I5.out.2.2.2.2.2.2)).mono ?_
  rintro e w6 ⟨rfl, hg⟩
  have I6 := Lib.hid (I5.out.kp hg)
  clear hg
  go_wp2
  go_ret
  exact ⟨rfl, I6.out.2.2.2.2.2.2⟩
set_option maxRecDepth 20000 in
set_option maxHeartbeats 2000000 in
theorem back_Abad (W : Nat) (op d n m imm : Int) (p a b c k : Int) (w : World) (hT : TAll w) (hW : W < 4294967296) (hp : -128 ≤ p ∧ p < 128) (hx : OkA op d n m imm ∧ encN op d n m imm = W) (hy : InsA p a b c k ∧ p = 18) :
    Calls Tryd.prog 6 #[.int .u32 W, .agg (insV p a b c k)] w fun e w' => e = .returned (.bool true) ∧ Kp w w' := by
  have HT := Lib.hid hT
  have HW := Lib.hid hW
  have HP := Lib.hid hp
  have HX := Lib.hid hx
  have HY := Lib.hid hy
  obtain ⟨hy, rfl⟩ := hy
  have e18 : (op == 18) = false := by have := hx.1.2; simp; omega
  clear hT hW hp hx hy
  have HI := Lib.hid (IAt.new w 18 a b c k)
  unfold insV at HI
  unfold insV
  go_enter Tryd.func6, Tryd.ntmps6
  go_wp2_with fail
  refine (decode_is (W := W) (op := op) (d := d) (n := n) (m := m) (imm := imm) (.inl HX.out) _ (HT.out.kp (kpA _ _ _)) HW.out).mono ?_
  rintro e w1 ⟨rfl, hg⟩
  have I1 := Lib.hid (HI.out.kp hg)
  clear hg
  have BX : Hid (Blk (w1.alloc (.cells #[.int .i8 op, .int .i8 d, .int .i8 n, .int .i8 m, .int .i64 imm] 25)) w1.heap.size #[.int .i8 op, .int .i8 d, .int .i8 n, .int .i8 m, .int .i64 imm] 25) := Lib.hid (Blk.new w1 _ _)
  go_wp2_with fail
  refine (check_ok op d n m imm _ (HT.out.1.kp (I1.out.2.2.2.2.2.2.trans (kpA _ _ _))) (i8s_of HX.out.1) HX.out.1.1).mono ?_
  rintro e w2 ⟨rfl, hg⟩
  have B2 := Lib.hid (BX.out.kp hg)
  have I2 := Lib.hid (I1.out.kp ((kpA _ _ _).trans hg))
  clear hg
  have x0 := B2.out.cell 0
  have x1 := B2.out.cell 1
  have x2 := B2.out.cell 2
  have x3 := B2.out.cell 3
  have x4 := B2.out.cell 4
  simp at x0 x1 x2 x3 x4
  go_wp2_with fail
  have henc := encode_any op d n m imm w2 (HT.out.1.kp I2.out.2.2.2.2.2.2) (HT.out.2.1.kp I2.out.2.2.2.2.2.2).ok (i8s_of HX.out.1)
  rw [show encR op d n m imm = W from (if_pos HX.out.1).trans HX.out.2, show encE op d n m imm = 0 from if_pos HX.out.1] at henc
  refine henc.mono ?_
  clear henc x0 x1 x2 x3 x4
  rintro e w3 ⟨rfl, hg⟩
  have B3 := Lib.hid (B2.out.kp hg)
  have I3 := Lib.hid (I2.out.kp hg)
  clear hg
  have x0 := B3.out.cell 0
  have x1 := B3.out.cell 1
  have x2 := B3.out.cell 2
  have x3 := B3.out.cell 3
  have x4 := B3.out.cell 4
  simp at x0 x1 x2 x3 x4
  obtain ⟨y0, y1, y2, y3, y4, -⟩ := I3.out
  go_wp2_with fail
  have hen2 := encode_any 18 a b c k w3 (HT.out.1.kp I3.out.2.2.2.2.2.2) (HT.out.2.1.kp I3.out.2.2.2.2.2.2).ok (by decide)
  rw [show encR 18 a b c k = 0 from if_neg (fun h => h.2 rfl), show encE 18 a b c k = 60 from if_neg (fun h => h.2 rfl)] at hen2
  refine hen2.mono ?_
  clear hen2 x0 x1 x2 x3 x4 y0 y1 y2 y3 y4
  rintro e w4 ⟨rfl, hg⟩
  have I4 := Lib.hid (I3.out.kp hg)
  clear hg
  obtain ⟨y0, y1, y2, y3, y4, -⟩ := I4.out
  go_wp2_with fail
  refine (check_ok 18 a b c k _ (HT.out.1.kp I4.out.2.2.2.2.2.2) (by decide) HY.out.1).mono ?_
  rintro e w5 ⟨rfl, hg⟩
  have I5 := Lib.hid (I4.out.kp hg)
  clear hg y0 y1 y2 y3 y4
  obtain ⟨y0, y1, y2, y3, y4, -⟩ := I5.out
  go_wp2_with fail
  refine (wakes_any _ (HT.out.kp I5.out.2.2.2.2.2.2)).mono ?_
  rintro e w6 ⟨rfl, hg⟩
  have I6 := Lib.hid (I5.out.kp hg)
  clear hg
  go_wp2
  go_ret
  exact ⟨rfl, I6.out.2.2.2.2.2.2⟩
set_option maxRecDepth 20000 in
set_option maxHeartbeats 2000000 in
theorem back_Bok (W : Nat) (p a b c k : Int) (w : World) (hT : TAll w) (hW : W < 4294967296) (hp : -128 ≤ p ∧ p < 128) (hx : DecOk W 18 0 0 0 0) (hy : OkA p a b c k) :
    Calls Tryd.prog 6 #[.int .u32 W, .agg (insV p a b c k)] w fun e w' => e = .returned (.bool true) ∧ Kp w w' := by
  have HT := Lib.hid hT
  have HW := Lib.hid hW
  have HP := Lib.hid hp
  have HX := Lib.hid hx
  have HY := Lib.hid hy
  clear hT hW hp hx hy
  have HI := Lib.hid (IAt.new w p a b c k)
  unfold insV at HI
  unfold insV
  go_enter Tryd.func6, Tryd.ntmps6
  go_wp2_with fail
  refine (decode_is (W := W) (op := 18) (d := 0) (n := 0) (m := 0) (imm := 0) HX.out _ (HT.out.kp (kpA _ _ _)) HW.out).mono ?_
  rintro e w1 ⟨rfl, hg⟩
  have I1 := Lib.hid (HI.out.kp hg)
  clear hg
  have BX : Hid (Blk (w1.alloc (.cells #[.int .i8 18, .int .i8 0, .int .i8 0, .int .i8 0, .int .i64 0] 25)) w1.heap.size #[.int .i8 18, .int .i8 0, .int .i8 0, .int .i8 0, .int .i64 0] 25) := Lib.hid (Blk.new w1 _ _)
  go_wp2_with fail
  refine (check_ok 18 0 0 0 0 _ (HT.out.1.kp (I1.out.2.2.2.2.2.2.trans (kpA _ _ _))) (by decide) (by decide)).mono ?_
  rintro e w2 ⟨rfl, hg⟩
  have B2 := Lib.hid (BX.out.kp hg)
  have I2 := Lib.hid (I1.out.kp ((kpA _ _ _).trans hg))
  clear hg
  have x0 := B2.out.cell 0
  have x1 := B2.out.cell 1
  have x2 := B2.out.cell 2
  have x3 := B2.out.cell 3
  have x4 := B2.out.cell 4
  simp at x0 x1 x2 x3 x4
  go_wp2_with fail
  have henc := encode_any 18 0 0 0 0 w2 (HT.out.1.kp I2.out.2.2.2.2.2.2) (HT.out.2.1.kp I2.out.2.2.2.2.2.2).ok (by decide)
  rw [show encR 18 0 0 0 0 = 0 from if_neg (by decide), show encE 18 0 0 0 0 = 60 from if_neg (by decide)] at henc
  refine henc.mono ?_
  clear henc x0 x1 x2 x3 x4
  rintro e w3 ⟨rfl, hg⟩
  have B3 := Lib.hid (B2.out.kp hg)
  have I3 := Lib.hid (I2.out.kp hg)
  clear hg
  have x0 := B3.out.cell 0
  have x1 := B3.out.cell 1
  have x2 := B3.out.cell 2
  have x3 := B3.out.cell 3
  have x4 := B3.out.cell 4
  simp at x0 x1 x2 x3 x4
  obtain ⟨y0, y1, y2, y3, y4, -⟩ := I3.out
  go_wp2_with fail
  have hen2 := encode_any p a b c k w3 (HT.out.1.kp I3.out.2.2.2.2.2.2) (HT.out.2.1.kp I3.out.2.2.2.2.2.2).ok HP.out
  rw [show encR p a b c k = encN p a b c k from if_pos HY.out, show encE p a b c k = 0 from if_pos HY.out] at hen2
  refine hen2.mono ?_
  clear hen2 x0 x1 x2 x3 x4 y0 y1 y2 y3 y4
  rintro e w4 ⟨rfl, hg⟩
  have I4 := Lib.hid (I3.out.kp hg)
  clear hg
  obtain ⟨y0, y1, y2, y3, y4, -⟩ := I4.out
  go_wp2_with fail
  go_region_held3 (fun w' => w'.cell? ⟨w.heap.size, 0, none⟩ = some (.int .i8 p) ∧ w'.cell? ⟨w.heap.size, 1, none⟩ = some (.int .i8 a) ∧ w'.cell? ⟨w.heap.size, 2, none⟩ = some (.int .i8 b) ∧ w'.cell? ⟨w.heap.size, 3, none⟩ = some (.int .i8 c) ∧ w'.cell? ⟨w.heap.size, 4, none⟩ = some (.int .i64 k) ∧ w.heap.size < w'.heap.size ∧ Kp w w')
      (first | exact I4.out.drew | assumption | exact IAt.drew (by assumption))
      (first | (go_at_call 7; rename_i hh _ _; refine (decode_is (W := encN p a b c k) (op := p) (d := a) (n := b) (m := c) (imm := k) (.inl ⟨HY.out, rfl⟩) _ (HT.out.kp hh.2.2.2.2.2.2) (encN_row p a b c k HY.out).2.1).mono ?_; rintro e w' ⟨rfl, hg⟩; have hh' := IAt.kp hh hg; clear hh hg) | (go_at_call 16; rename_i hh _ _; refine (check_ok p a b c k _ (HT.out.1.kp hh.2.2.2.2.2.2) HP.out HY.out.1).mono ?_; rintro e w' ⟨rfl, hg⟩; have hh' := IAt.kp hh hg; clear hh hg) | (go_at_call 9; rename_i hh _ _; refine (wakes_any _ (HT.out.kp hh.2.2.2.2.2.2)).mono ?_; rintro e w' ⟨rfl, hg⟩; have hh' := IAt.kp hh hg; clear hh hg))
  rename_i hh
  have HH := Lib.hid hh
  clear hh
  go_wp2
  go_ret
  exact ⟨rfl, HH.out.2.2.2.2.2.2⟩
set_option maxRecDepth 20000 in
set_option maxHeartbeats 2000000 in
theorem back_Bno (W : Nat) (p a b c k : Int) (w : World) (hT : TAll w) (hW : W < 4294967296) (hp : -128 ≤ p ∧ p < 128) (hx : DecOk W 18 0 0 0 0) (hy : ¬ InsA p a b c k) :
    Calls Tryd.prog 6 #[.int .u32 W, .agg (insV p a b c k)] w fun e w' => e = .returned (.bool true) ∧ Kp w w' := by
  have HT := Lib.hid hT
  have HW := Lib.hid hW
  have HP := Lib.hid hp
  have HX := Lib.hid hx
  have HY := Lib.hid hy
  clear hT hW hp hx hy
  have HI := Lib.hid (IAt.new w p a b c k)
  unfold insV at HI
  unfold insV
  go_enter Tryd.func6, Tryd.ntmps6
  go_wp2_with fail
  refine (decode_is (W := W) (op := 18) (d := 0) (n := 0) (m := 0) (imm := 0) HX.out _ (HT.out.kp (kpA _ _ _)) HW.out).mono ?_
  rintro e w1 ⟨rfl, hg⟩
  have I1 := Lib.hid (HI.out.kp hg)
  clear hg
  have BX : Hid (Blk (w1.alloc (.cells #[.int .i8 18, .int .i8 0, .int .i8 0, .int .i8 0, .int .i64 0] 25)) w1.heap.size #[.int .i8 18, .int .i8 0, .int .i8 0, .int .i8 0, .int .i64 0] 25) := Lib.hid (Blk.new w1 _ _)
  go_wp2_with fail
  refine (check_ok 18 0 0 0 0 _ (HT.out.1.kp (I1.out.2.2.2.2.2.2.trans (kpA _ _ _))) (by decide) (by decide)).mono ?_
  rintro e w2 ⟨rfl, hg⟩
  have B2 := Lib.hid (BX.out.kp hg)
  have I2 := Lib.hid (I1.out.kp ((kpA _ _ _).trans hg))
  clear hg
  have x0 := B2.out.cell 0
  have x1 := B2.out.cell 1
  have x2 := B2.out.cell 2
  have x3 := B2.out.cell 3
  have x4 := B2.out.cell 4
  simp at x0 x1 x2 x3 x4
  go_wp2_with fail
  have henc := encode_any 18 0 0 0 0 w2 (HT.out.1.kp I2.out.2.2.2.2.2.2) (HT.out.2.1.kp I2.out.2.2.2.2.2.2).ok (by decide)
  rw [show encR 18 0 0 0 0 = 0 from if_neg (by decide), show encE 18 0 0 0 0 = 60 from if_neg (by decide)] at henc
  refine henc.mono ?_
  clear henc x0 x1 x2 x3 x4
  rintro e w3 ⟨rfl, hg⟩
  have B3 := Lib.hid (B2.out.kp hg)
  have I3 := Lib.hid (I2.out.kp hg)
  clear hg
  have x0 := B3.out.cell 0
  have x1 := B3.out.cell 1
  have x2 := B3.out.cell 2
  have x3 := B3.out.cell 3
  have x4 := B3.out.cell 4
  simp at x0 x1 x2 x3 x4
  obtain ⟨y0, y1, y2, y3, y4, -⟩ := I3.out
  go_wp2_with fail
  have hen2 := encode_any p a b c k w3 (HT.out.1.kp I3.out.2.2.2.2.2.2) (HT.out.2.1.kp I3.out.2.2.2.2.2.2).ok HP.out
  rw [show encR p a b c k = 0 from if_neg (fun h => HY.out h.1), show encE p a b c k = 60 from if_neg (fun h => HY.out h.1)] at hen2
  refine hen2.mono ?_
  clear hen2 x0 x1 x2 x3 x4 y0 y1 y2 y3 y4
  rintro e w4 ⟨rfl, hg⟩
  have I4 := Lib.hid (I3.out.kp hg)
  clear hg
  obtain ⟨y0, y1, y2, y3, y4, -⟩ := I4.out
  go_wp2_with fail
  refine (check_bad p a b c k _ (HT.out.1.kp I4.out.2.2.2.2.2.2) HP.out HY.out).mono ?_
  rintro e w5 ⟨rfl, hg⟩
  have I5 := Lib.hid (I4.out.kp hg)
  clear hg y0 y1 y2 y3 y4
  obtain ⟨y0, y1, y2, y3, y4, -⟩ := I5.out
  go_wp2_with fail
  refine (wakes_any _ (HT.out.kp I5.out.2.2.2.2.2.2)).mono ?_
  rintro e w6 ⟨rfl, hg⟩
  have I6 := Lib.hid (I5.out.kp hg)
  clear hg
  go_wp2
  go_ret
  exact ⟨rfl, I6.out.2.2.2.2.2.2⟩
set_option maxRecDepth 20000 in
set_option maxHeartbeats 2000000 in
theorem back_Bbad (W : Nat) (p a b c k : Int) (w : World) (hT : TAll w) (hW : W < 4294967296) (hp : -128 ≤ p ∧ p < 128) (hx : DecOk W 18 0 0 0 0) (hy : InsA p a b c k ∧ p = 18) :
    Calls Tryd.prog 6 #[.int .u32 W, .agg (insV p a b c k)] w fun e w' => e = .returned (.bool true) ∧ Kp w w' := by
  have HT := Lib.hid hT
  have HW := Lib.hid hW
  have HP := Lib.hid hp
  have HX := Lib.hid hx
  have HY := Lib.hid hy
  obtain ⟨hy, rfl⟩ := hy
  clear hT hW hp hx hy
  have HI := Lib.hid (IAt.new w 18 a b c k)
  unfold insV at HI
  unfold insV
  go_enter Tryd.func6, Tryd.ntmps6
  go_wp2_with fail
  refine (decode_is (W := W) (op := 18) (d := 0) (n := 0) (m := 0) (imm := 0) HX.out _ (HT.out.kp (kpA _ _ _)) HW.out).mono ?_
  rintro e w1 ⟨rfl, hg⟩
  have I1 := Lib.hid (HI.out.kp hg)
  clear hg
  have BX : Hid (Blk (w1.alloc (.cells #[.int .i8 18, .int .i8 0, .int .i8 0, .int .i8 0, .int .i64 0] 25)) w1.heap.size #[.int .i8 18, .int .i8 0, .int .i8 0, .int .i8 0, .int .i64 0] 25) := Lib.hid (Blk.new w1 _ _)
  go_wp2_with fail
  refine (check_ok 18 0 0 0 0 _ (HT.out.1.kp (I1.out.2.2.2.2.2.2.trans (kpA _ _ _))) (by decide) (by decide)).mono ?_
  rintro e w2 ⟨rfl, hg⟩
  have B2 := Lib.hid (BX.out.kp hg)
  have I2 := Lib.hid (I1.out.kp ((kpA _ _ _).trans hg))
  clear hg
  have x0 := B2.out.cell 0
  have x1 := B2.out.cell 1
  have x2 := B2.out.cell 2
  have x3 := B2.out.cell 3
  have x4 := B2.out.cell 4
  simp at x0 x1 x2 x3 x4
  go_wp2_with fail
  have henc := encode_any 18 0 0 0 0 w2 (HT.out.1.kp I2.out.2.2.2.2.2.2) (HT.out.2.1.kp I2.out.2.2.2.2.2.2).ok (by decide)
  rw [show encR 18 0 0 0 0 = 0 from if_neg (by decide), show encE 18 0 0 0 0 = 60 from if_neg (by decide)] at henc
  refine henc.mono ?_
  clear henc x0 x1 x2 x3 x4
  rintro e w3 ⟨rfl, hg⟩
  have B3 := Lib.hid (B2.out.kp hg)
  have I3 := Lib.hid (I2.out.kp hg)
  clear hg
  have x0 := B3.out.cell 0
  have x1 := B3.out.cell 1
  have x2 := B3.out.cell 2
  have x3 := B3.out.cell 3
  have x4 := B3.out.cell 4
  simp at x0 x1 x2 x3 x4
  obtain ⟨y0, y1, y2, y3, y4, -⟩ := I3.out
  go_wp2_with fail
  have hen2 := encode_any 18 a b c k w3 (HT.out.1.kp I3.out.2.2.2.2.2.2) (HT.out.2.1.kp I3.out.2.2.2.2.2.2).ok (by decide)
  rw [show encR 18 a b c k = 0 from if_neg (fun h => h.2 rfl), show encE 18 a b c k = 60 from if_neg (fun h => h.2 rfl)] at hen2
  refine hen2.mono ?_
  clear hen2 x0 x1 x2 x3 x4 y0 y1 y2 y3 y4
  rintro e w4 ⟨rfl, hg⟩
  have I4 := Lib.hid (I3.out.kp hg)
  clear hg
  obtain ⟨y0, y1, y2, y3, y4, -⟩ := I4.out
  go_wp2_with fail
  refine (check_ok 18 a b c k _ (HT.out.1.kp I4.out.2.2.2.2.2.2) (by decide) HY.out.1).mono ?_
  rintro e w5 ⟨rfl, hg⟩
  have I5 := Lib.hid (I4.out.kp hg)
  clear hg y0 y1 y2 y3 y4
  obtain ⟨y0, y1, y2, y3, y4, -⟩ := I5.out
  go_wp2_with fail
  refine (wakes_any _ (HT.out.kp I5.out.2.2.2.2.2.2)).mono ?_
  rintro e w6 ⟨rfl, hg⟩
  have I6 := Lib.hid (I5.out.kp hg)
  clear hg
  go_wp2
  go_ret
  exact ⟨rfl, I6.out.2.2.2.2.2.2⟩
theorem back_any (W : Nat) (p a b c k : Int) (w : World) (hT : TAll w) (hW : W < 4294967296) (hp : -128 ≤ p ∧ p < 128) :
    Calls Tryd.prog 6 #[.int .u32 W, .agg (insV p a b c k)] w fun e w' => e = .returned (.bool true) ∧ Kp w w' := by
  have hd : ∃ op d n m imm, DecOk W op d n m imm := dec_ex W
  obtain ⟨op, d, n, m, imm, hd⟩ := hd
  rcases hd with hx | ⟨⟨rfl, rfl, rfl, rfl, rfl⟩, hx⟩
  · by_cases h1 : InsA p a b c k
    · by_cases h2 : p = 18
      · exact back_Abad W op d n m imm p a b c k w hT hW hp hx ⟨h1, h2⟩
      · exact back_Aok W op d n m imm p a b c k w hT hW hp hx ⟨h1, h2⟩
    · exact back_Ano W op d n m imm p a b c k w hT hW hp hx h1
  · have hx' : DecOk W 18 0 0 0 0 := .inr ⟨⟨rfl, rfl, rfl, rfl, rfl⟩, hx⟩
    by_cases h1 : InsA p a b c k
    · by_cases h2 : p = 18
      · exact back_Bbad W p a b c k w hT hW hp hx' ⟨h1, h2⟩
      · exact back_Bok W p a b c k w hT hW hp hx' ⟨h1, h2⟩
    · exact back_Bno W p a b c k w hT hW hp hx' h1
end Go.Proofs.YtfbkppncaampdaaDoor
