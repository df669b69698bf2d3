/-
  Package isa: a format's mask, what it reads, the decoder's functions. No condition but the tables.
-/
import Derived.Test.YtfbkppncaampdaaDoorDecN07
import Derived.Deep.DeepCutAuto
import Derived.LoopN
namespace Go.Proofs.YtfbkppncaampdaaDoor
open Go Go.RowKit

theorem onesB_nat (lo n : Nat) (h : lo + (n + 1) ≤ 32) : (onesB (lo + n) lo).toNat = onesN lo (n + 1) := by
  unfold onesB onesN
  rw [BitVec.toNat_shiftLeft, mask_toNat _ (by omega), Nat.shiftLeft_eq, show lo + n - lo + 1 = n + 1 by omega]
  apply Nat.mod_eq_of_lt
  have h1 := Nat.two_pow_pos (n + 1)
  have h2 := Nat.two_pow_pos lo
  have h3 : 2 ^ (n + 1) * 2 ^ lo ≤ 2 ^ 32 := by
    rw [← Nat.pow_add]
    exact Nat.pow_le_pow_right (by decide) (by omega)
  have h4 : (2 ^ (n + 1) - 1) * 2 ^ lo ≤ 2 ^ (n + 1) * 2 ^ lo := Nat.mul_le_mul_right _ (by omega)
  omega
theorem ones_any (lo wd : Nat) (H : Int) (w : World) (hH : H = (lo : Int) + (wd : Int) - 1) (h : lo + wd ≤ 32) :
    Calls Tryd.prog 80 #[.int .i64 H, .int .i64 lo] w fun e w' => e = .returned (.int .u64 (onesN lo wd)) ∧ Kp w w' := by
  subst hH
  cases wd with
  | zero =>
    rw [show onesN lo 0 = 0 from by simp [onesN]]
    exact ones_no _ _ w (.inr (.inl (by omega)))
  | succ n =>
    rw [← onesB_nat lo n h, show (lo : Int) + ((n + 1 : Nat) : Int) - 1 = ((lo + n : Nat) : Int) by omega]
    exact ones_yes (lo + n) lo w (by omega) (by omega)
theorem own_le (o : Nat) (ho : o < 19) : ∀ k, k ≤ 4 → ownTo o k < 4294967296
  | 0, _ => (by decide : 0 < 4294967296)
  | k + 1, h => by
    have h1 := own_le o ho k (by omega)
    have h2 := ones_le (pLo o k) (pWd o k) (prt_ok o k ho (by omega)).1
    exact Nat.or_lt_two_pow (n := 32) (by omega) (by omega)
theorem own_or (o k : Nat) (ho : o < 19) (hk : k < 4) : bits .or .u64 (ownTo o k : Int) (onesN (pLo o k) (pWd o k) : Int) = (ownTo o (k + 1) : Int) := by
  have h1 := own_le o ho k (by omega)
  have h2 := ones_le (pLo o k) (pWd o k) (prt_ok o k ho hk).1
  exact bits_or_u64_nat _ _ (by omega) (by omega)
theorem not_u32 (x : Nat) (h : x < 4294967296) : bits .xor .u32 IntKind.u32.max ((x : Int) % 4294967296) = ((4294967295 - x : Nat) : Int) := by
  rw [show (x : Int) % 4294967296 = (x : Int) by omega]
  have h2 : (BitVec.ofInt 32 (x : Int)).toNat = x := by
    rw [BitVec.ofInt_natCast, BitVec.toNat_ofNat]; exact Nat.mod_eq_of_lt (by omega)
  have h3 : (BitVec.ofInt 32 IntKind.u32.max ^^^ BitVec.ofInt 32 (x : Int)).toNat = 4294967295 - x := by
    rw [show BitVec.ofInt 32 IntKind.u32.max = BitVec.allOnes 32 from rfl, BitVec.allOnes_xor, BitVec.toNat_not, h2]
  show IntKind.u32.wrap ((BitVec.ofInt 32 IntKind.u32.max ^^^ BitVec.ofInt 32 (x : Int)).toNat : Int) = _
  rw [h3, wrap_u32']
  omega
set_option maxRecDepth 20000 in
set_option maxHeartbeats 2000000 in
theorem mask_any (o : Nat) (w : World) (ho : o < 19) :
    Calls Tryd.prog 60 #[.agg (fmtV o)] w fun e w' => e = .returned (.int .u32 (mkN o)) ∧ Kp w w' := by
  have HO := Lib.hid ho
  clear ho
  have HF : Hid (Blk (w.alloc (.cells (fmtV o) 62)) w.heap.size (fmtV o) 62) := Lib.hid (Blk.new w _ _)
  unfold fmtV
  go_enter Tryd.func60, Tryd.ntmps60
  go_wp2_with (first | (refine wpList_load_row rfl 62 (.tmp 1) rfl w.heap.size rfl _ _ _ _ HF.out Tryd.underlying62 rfl (by kernel_rfl) ?_) | (go_at_call 25; refine (parts_any7 o _).mono ?_; rintro e w0 ⟨rfl, hg⟩; have H0 : Hid (Kp w w0) := Lib.hid ((kpA _ _ _).trans hg); clear hg))
  refine wp_loop_rounds 5 ?_
  
  rw [rounds_succ]
  have i0 : ∀ w, (Instr.index 70 (.agg (prtV o)) (.int .i64 0)).run Tryd.prog w = .ok (.agg #[.int .i64 (pLo o 0), .int .i64 (pWd o 0), .bool (pS o 0)]) w := prt_at o 0 (by decide)
  have N0 := Lib.hid (partAt_new w0 (pLo o 0) (pWd o 0) (pS o 0))
  have hb0 := prt_ok o 0 HO.out (by decide)
  have HB0 : Hid ((0 : Int) ≤ (pLo o 0 : Int) ∧ (0 : Int) ≤ (pWd o 0 : Int) ∧ (pLo o 0 : Int) + (pWd o 0 : Int) ≤ 32) := Lib.hid (by omega)
  have HL0 := Lib.hid hb0.1
  clear hb0
  go_wp2_with fail
  go_region_held3 (fun w' => w'.cell? ⟨w0.heap.size, 0, none⟩ = some (.int .i64 (pLo o 0)) ∧ w'.cell? ⟨w0.heap.size, 1, none⟩ = some (.int .i64 (pWd o 0)) ∧ w'.cell? ⟨w0.heap.size, 2, none⟩ = some (.bool (pS o 0)) ∧ w0.heap.size < w'.heap.size ∧ Kp w0 w')
      (first | exact N0.out.drew | assumption | exact PartAt.drew (by assumption))
      (first | (go_at_call 51; rename_i hh _ _; refine (hi_any _ _ _ _ HB0.out).mono ?_; rintro e w' ⟨rfl, hg⟩; have hh' := PartAt.kp hh hg; clear hh hg) | (go_at_call 80; rename_i hh _ _; refine (ones_any _ _ _ _ rfl HL0.out).mono ?_; rintro e w' ⟨rfl, hg⟩; have hh' := PartAt.kp hh hg; clear hh hg))
  rename_i hh
  rename World => w1
  have H1 : Hid (Kp w w1) := Lib.hid (H0.out.trans hh.2.2.2.2)
  clear hh i0 N0
  have ho0 := own_or o 0 HO.out (by decide)
  have hz : ((ownTo o 0 : Nat) : Int) = 0 := rfl
  rw [hz] at ho0
  rw [ho0]
  clear ho0
  go_wp2_with fail
  rw [rounds_succ]
  have i1 : ∀ w, (Instr.index 70 (.agg (prtV o)) (.int .i64 1)).run Tryd.prog w = .ok (.agg #[.int .i64 (pLo o 1), .int .i64 (pWd o 1), .bool (pS o 1)]) w := prt_at o 1 (by decide)
  have N1 := Lib.hid (partAt_new w1 (pLo o 1) (pWd o 1) (pS o 1))
  have hb1 := prt_ok o 1 HO.out (by decide)
  have HB1 : Hid ((0 : Int) ≤ (pLo o 1 : Int) ∧ (0 : Int) ≤ (pWd o 1 : Int) ∧ (pLo o 1 : Int) + (pWd o 1 : Int) ≤ 32) := Lib.hid (by omega)
  have HL1 := Lib.hid hb1.1
  clear hb1
  go_wp2_with fail
  go_region_held3 (fun w' => w'.cell? ⟨w1.heap.size, 0, none⟩ = some (.int .i64 (pLo o 1)) ∧ w'.cell? ⟨w1.heap.size, 1, none⟩ = some (.int .i64 (pWd o 1)) ∧ w'.cell? ⟨w1.heap.size, 2, none⟩ = some (.bool (pS o 1)) ∧ w1.heap.size < w'.heap.size ∧ Kp w1 w')
      (first | exact N1.out.drew | assumption | exact PartAt.drew (by assumption))
      (first | (go_at_call 51; rename_i hh _ _; refine (hi_any _ _ _ _ HB1.out).mono ?_; rintro e w' ⟨rfl, hg⟩; have hh' := PartAt.kp hh hg; clear hh hg) | (go_at_call 80; rename_i hh _ _; refine (ones_any _ _ _ _ rfl HL1.out).mono ?_; rintro e w' ⟨rfl, hg⟩; have hh' := PartAt.kp hh hg; clear hh hg))
  rename_i hh
  rename World => w2
  have H2 : Hid (Kp w w2) := Lib.hid (H1.out.trans hh.2.2.2.2)
  clear hh i1 N1
  have ho1 := own_or o 1 HO.out (by decide)
  skip
  skip
  rw [ho1]
  clear ho1
  go_wp2_with fail
  rw [rounds_succ]
  have i2 : ∀ w, (Instr.index 70 (.agg (prtV o)) (.int .i64 2)).run Tryd.prog w = .ok (.agg #[.int .i64 (pLo o 2), .int .i64 (pWd o 2), .bool (pS o 2)]) w := prt_at o 2 (by decide)
  have N2 := Lib.hid (partAt_new w2 (pLo o 2) (pWd o 2) (pS o 2))
  have hb2 := prt_ok o 2 HO.out (by decide)
  have HB2 : Hid ((0 : Int) ≤ (pLo o 2 : Int) ∧ (0 : Int) ≤ (pWd o 2 : Int) ∧ (pLo o 2 : Int) + (pWd o 2 : Int) ≤ 32) := Lib.hid (by omega)
  have HL2 := Lib.hid hb2.1
  clear hb2
  go_wp2_with fail
  go_region_held3 (fun w' => w'.cell? ⟨w2.heap.size, 0, none⟩ = some (.int .i64 (pLo o 2)) ∧ w'.cell? ⟨w2.heap.size, 1, none⟩ = some (.int .i64 (pWd o 2)) ∧ w'.cell? ⟨w2.heap.size, 2, none⟩ = some (.bool (pS o 2)) ∧ w2.heap.size < w'.heap.size ∧ Kp w2 w')
      (first | exact N2.out.drew | assumption | exact PartAt.drew (by assumption))
      (first | (go_at_call 51; rename_i hh _ _; refine (hi_any _ _ _ _ HB2.out).mono ?_; rintro e w' ⟨rfl, hg⟩; have hh' := PartAt.kp hh hg; clear hh hg) | (go_at_call 80; rename_i hh _ _; refine (ones_any _ _ _ _ rfl HL2.out).mono ?_; rintro e w' ⟨rfl, hg⟩; have hh' := PartAt.kp hh hg; clear hh hg))
  rename_i hh
  rename World => w3
  have H3 : Hid (Kp w w3) := Lib.hid (H2.out.trans hh.2.2.2.2)
  clear hh i2 N2
  have ho2 := own_or o 2 HO.out (by decide)
  skip
  skip
  rw [ho2]
  clear ho2
  go_wp2_with fail
  rw [rounds_succ]
  have i3 : ∀ w, (Instr.index 70 (.agg (prtV o)) (.int .i64 3)).run Tryd.prog w = .ok (.agg #[.int .i64 (pLo o 3), .int .i64 (pWd o 3), .bool (pS o 3)]) w := prt_at o 3 (by decide)
  have N3 := Lib.hid (partAt_new w3 (pLo o 3) (pWd o 3) (pS o 3))
  have hb3 := prt_ok o 3 HO.out (by decide)
  have HB3 : Hid ((0 : Int) ≤ (pLo o 3 : Int) ∧ (0 : Int) ≤ (pWd o 3 : Int) ∧ (pLo o 3 : Int) + (pWd o 3 : Int) ≤ 32) := Lib.hid (by omega)
  have HL3 := Lib.hid hb3.1
  clear hb3
  go_wp2_with fail
  go_region_held3 (fun w' => w'.cell? ⟨w3.heap.size, 0, none⟩ = some (.int .i64 (pLo o 3)) ∧ w'.cell? ⟨w3.heap.size, 1, none⟩ = some (.int .i64 (pWd o 3)) ∧ w'.cell? ⟨w3.heap.size, 2, none⟩ = some (.bool (pS o 3)) ∧ w3.heap.size < w'.heap.size ∧ Kp w3 w')
      (first | exact N3.out.drew | assumption | exact PartAt.drew (by assumption))
      (first | (go_at_call 51; rename_i hh _ _; refine (hi_any _ _ _ _ HB3.out).mono ?_; rintro e w' ⟨rfl, hg⟩; have hh' := PartAt.kp hh hg; clear hh hg) | (go_at_call 80; rename_i hh _ _; refine (ones_any _ _ _ _ rfl HL3.out).mono ?_; rintro e w' ⟨rfl, hg⟩; have hh' := PartAt.kp hh hg; clear hh hg))
  rename_i hh
  rename World => w4
  have H4 : Hid (Kp w w4) := Lib.hid (H3.out.trans hh.2.2.2.2)
  clear hh i3 N3
  have ho3 := own_or o 3 HO.out (by decide)
  skip
  skip
  rw [ho3]
  clear ho3
  go_wp2_with fail
  rw [rounds_succ]
  have hown := own_le o HO.out 4 (Nat.le_refl _)
  have HOW := Lib.hid hown
  clear hown
  go_wp2
  go_ret
  exact ⟨ret_int (not_u32 _ HOW.out), H4.out⟩
theorem gAt_D (o W : Nat) : getN W (pLo o 0) (pWd o 0) (pS o 0) = (rdD o W : Int) := by
  unfold pLo pWd pS rLo rWd rdD
  cases fD o
  · simp [getN_zero]
  · simp [getN]
theorem gAt_N (o W : Nat) : getN W (pLo o 1) (pWd o 1) (pS o 1) = (rdN o W : Int) := by
  unfold pLo pWd pS rLo rWd rdN
  cases fN o
  · simp [getN_zero]
  · simp [getN]
theorem gAt_M (o W : Nat) : getN W (pLo o 2) (pWd o 2) (pS o 2) = (rdM o W : Int) := by
  unfold pLo pWd pS rLo rWd rdM
  cases fM o
  · simp [getN_zero]
  · simp [getN]
theorem rd_8 (o W : Nat) : rdD o W < 8 ∧ rdN o W < 8 ∧ rdM o W < 8 := by
  unfold rdD rdN rdM
  refine ⟨?_, ?_, ?_⟩ <;> split <;> omega
def zero5' : Array Value := #[.int .i8 0, .int .i8 0, .int .i8 0, .int .i8 0, .int .i64 0]
def rdS (o W : Nat) (op : Int) : Array Value := insV op (rdD o W) (rdN o W) (rdM o W) (rdI o W)
set_option maxRecDepth 20000 in
set_option maxHeartbeats 2000000 in
theorem read_any (o W : Nat) (op : Int) (w : World) (ho : o < 19) (hW : W < 4294967296) :
    Calls Tryd.prog 62 #[.agg (fmtV o), .int .i8 op, .int .u32 W] w fun e w' => e = .returned (.agg (rdS o W op)) ∧ Kp w w' := by
  have HO := Lib.hid ho
  have HW := Lib.hid hW
  obtain ⟨h8D, h8N, h8M⟩ := rd_8 o W
  have G0 := Lib.hid (gAt_D o W)
  have G1 := Lib.hid (gAt_N o W)
  have G2 := Lib.hid (gAt_M o W)
  have G3 : Hid (getN W (pLo o 3) (pWd o 3) (pS o 3) = rdI o W) := Lib.hid rfl
  unfold rdS
  generalize rdD o W = A at h8D G0 ⊢
  generalize rdN o W = B at h8N G1 ⊢
  generalize rdM o W = C at h8M G2 ⊢
  generalize rdI o W = I at G3 ⊢
  have d1 : (A : Int) < 8 := by omega
  have n1 : (B : Int) < 8 := by omega
  have m1 : (C : Int) < 8 := by omega
  clear h8D h8N h8M ho hW
  have HF : Hid (Blk (((w.alloc (.cells (fmtV o) 62)).alloc (.cells zero5' 25)).alloc (.cells (valV 0 0 0 0) 67)) w.heap.size (fmtV o) 62) := Lib.hid (((Blk.new w _ _).alloc _).alloc _)
  have HR : Hid (Blk (((w.alloc (.cells (fmtV o) 62)).alloc (.cells zero5' 25)).alloc (.cells (valV 0 0 0 0) 67)) (w.heap.size + 1) zero5' 25) := Lib.hid ((Blk.new2 w _ _ _).alloc _)
  have HV : Hid (Blk (((w.alloc (.cells (fmtV o) 62)).alloc (.cells zero5' 25)).alloc (.cells (valV 0 0 0 0) 67)) (w.heap.size + 2) (valV 0 0 0 0) 67) := Lib.hid (by
    have := Blk.new ((w.alloc (.cells (fmtV o) 62)).alloc (.cells zero5' 25)) (valV 0 0 0 0) 67
    simp at this
    exact this)
  have HK : Hid (Kp w (((w.alloc (.cells (fmtV o) 62)).alloc (.cells zero5' 25)).alloc (.cells (valV 0 0 0 0) 67))) := Lib.hid (((kpA _ _ _).alloc _ _).alloc _ _)
  unfold fmtV at HF HR HV HK
  unfold zero5' valV at HF HR HV HK
  unfold fmtV
  go_enter Tryd.func62, Tryd.ntmps62
  go_wp2_with (first | (refine wpList_load_row rfl 62 (.tmp 3) rfl w.heap.size rfl _ _ _ _ HF.out Tryd.underlying62 rfl (by kernel_rfl) ?_) | (go_at_call 25; refine (parts_any7 o _).mono ?_; rintro e w0 ⟨rfl, hg⟩; have R0 : Hid (Blk w0 (w.heap.size + 1) zero5' 25) := Lib.hid (HR.out.kp hg); have V0 : Hid (Blk w0 (w.heap.size + 2) (valV 0 0 0 0) 67) := Lib.hid (HV.out.kp hg); have K0 : Hid (Kp w w0) := Lib.hid (HK.out.trans hg); clear hg))
  refine wp_loop_rounds 5 ?_
  rw [rounds_succ]
  have i0 : ∀ w, (Instr.index 70 (.agg (prtV o)) (.int .i64 0)).run Tryd.prog w = .ok (.agg #[.int .i64 (pLo o 0), .int .i64 (pWd o 0), .bool (pS o 0)]) w := prt_at o 0 (by decide)
  have hb0 := Lib.hid (prt_ok o 0 HO.out (by decide))
  go_wp2_with (go_at_call 81; refine (get_any _ _ _ W _ HW.out hb0.out.1 hb0.out.2.1 hb0.out.2.2).mono ?_; rintro e y0 ⟨rfl, hg⟩; have Y0 : Hid (Kp w0 y0) := Lib.hid ((kpA _ _ _).trans hg); clear hg; have x0 := (V0.out.kp Y0.out).cell 0; have f0 := (V0.out.kp Y0.out).frozen 0; simp [valV] at x0)
  rw [G0.out]
  have R1' := (R0.out.kp Y0.out).other (a := ⟨w.heap.size + 2, 0, none⟩) (by simp) (.int .i64 (A : Int))
  have V1' := (V0.out.kp Y0.out).set 0 (.int .i64 (A : Int))
  have K1' := Kp.setCell (K0.out.trans Y0.out) (a := ⟨w.heap.size + 2, 0, none⟩) (by simp) (.int .i64 (A : Int))
  generalize y0.setCell ⟨w.heap.size + 2, 0, none⟩ (.int .i64 (A : Int)) = w1 at R1' V1' K1' ⊢
  have R1 := Lib.hid R1'
  have V1 : Hid (Blk w1 (w.heap.size + 2) (valV A 0 0 0) 67) := Lib.hid V1'
  have K1 := Lib.hid K1'
  clear R1' V1' K1' x0 f0 i0 hb0 Y0
  go_wp2_with fail
  rw [rounds_succ]
  have i1 : ∀ w, (Instr.index 70 (.agg (prtV o)) (.int .i64 1)).run Tryd.prog w = .ok (.agg #[.int .i64 (pLo o 1), .int .i64 (pWd o 1), .bool (pS o 1)]) w := prt_at o 1 (by decide)
  have hb1 := Lib.hid (prt_ok o 1 HO.out (by decide))
  go_wp2_with (go_at_call 81; refine (get_any _ _ _ W _ HW.out hb1.out.1 hb1.out.2.1 hb1.out.2.2).mono ?_; rintro e y1 ⟨rfl, hg⟩; have Y1 : Hid (Kp w1 y1) := Lib.hid ((kpA _ _ _).trans hg); clear hg; have x1 := (V1.out.kp Y1.out).cell 1; have f1 := (V1.out.kp Y1.out).frozen 1; simp [valV] at x1)
  rw [G1.out]
  have R2' := (R1.out.kp Y1.out).other (a := ⟨w.heap.size + 2, 1, none⟩) (by simp) (.int .i64 (B : Int))
  have V2' := (V1.out.kp Y1.out).set 1 (.int .i64 (B : Int))
  have K2' := Kp.setCell (K1.out.trans Y1.out) (a := ⟨w.heap.size + 2, 1, none⟩) (by simp) (.int .i64 (B : Int))
  generalize y1.setCell ⟨w.heap.size + 2, 1, none⟩ (.int .i64 (B : Int)) = w2 at R2' V2' K2' ⊢
  have R2 := Lib.hid R2'
  have V2 : Hid (Blk w2 (w.heap.size + 2) (valV A B 0 0) 67) := Lib.hid V2'
  have K2 := Lib.hid K2'
  clear R2' V2' K2' x1 f1 i1 hb1 Y1
  go_wp2_with fail
  rw [rounds_succ]
  have i2 : ∀ w, (Instr.index 70 (.agg (prtV o)) (.int .i64 2)).run Tryd.prog w = .ok (.agg #[.int .i64 (pLo o 2), .int .i64 (pWd o 2), .bool (pS o 2)]) w := prt_at o 2 (by decide)
  have hb2 := Lib.hid (prt_ok o 2 HO.out (by decide))
  go_wp2_with (go_at_call 81; refine (get_any _ _ _ W _ HW.out hb2.out.1 hb2.out.2.1 hb2.out.2.2).mono ?_; rintro e y2 ⟨rfl, hg⟩; have Y2 : Hid (Kp w2 y2) := Lib.hid ((kpA _ _ _).trans hg); clear hg; have x2 := (V2.out.kp Y2.out).cell 2; have f2 := (V2.out.kp Y2.out).frozen 2; simp [valV] at x2)
  rw [G2.out]
  have R3' := (R2.out.kp Y2.out).other (a := ⟨w.heap.size + 2, 2, none⟩) (by simp) (.int .i64 (C : Int))
  have V3' := (V2.out.kp Y2.out).set 2 (.int .i64 (C : Int))
  have K3' := Kp.setCell (K2.out.trans Y2.out) (a := ⟨w.heap.size + 2, 2, none⟩) (by simp) (.int .i64 (C : Int))
  generalize y2.setCell ⟨w.heap.size + 2, 2, none⟩ (.int .i64 (C : Int)) = w3 at R3' V3' K3' ⊢
  have R3 := Lib.hid R3'
  have V3 : Hid (Blk w3 (w.heap.size + 2) (valV A B C 0) 67) := Lib.hid V3'
  have K3 := Lib.hid K3'
  clear R3' V3' K3' x2 f2 i2 hb2 Y2
  go_wp2_with fail
  rw [rounds_succ]
  have i3 : ∀ w, (Instr.index 70 (.agg (prtV o)) (.int .i64 3)).run Tryd.prog w = .ok (.agg #[.int .i64 (pLo o 3), .int .i64 (pWd o 3), .bool (pS o 3)]) w := prt_at o 3 (by decide)
  have hb3 := Lib.hid (prt_ok o 3 HO.out (by decide))
  go_wp2_with (go_at_call 81; refine (get_any _ _ _ W _ HW.out hb3.out.1 hb3.out.2.1 hb3.out.2.2).mono ?_; rintro e y3 ⟨rfl, hg⟩; have Y3 : Hid (Kp w3 y3) := Lib.hid ((kpA _ _ _).trans hg); clear hg; have x3 := (V3.out.kp Y3.out).cell 3; have f3 := (V3.out.kp Y3.out).frozen 3; simp [valV] at x3)
  rw [G3.out]
  have R4' := (R3.out.kp Y3.out).other (a := ⟨w.heap.size + 2, 3, none⟩) (by simp) (.int .i64 (I : Int))
  have V4' := (V3.out.kp Y3.out).set 3 (.int .i64 (I : Int))
  have K4' := Kp.setCell (K3.out.trans Y3.out) (a := ⟨w.heap.size + 2, 3, none⟩) (by simp) (.int .i64 (I : Int))
  generalize y3.setCell ⟨w.heap.size + 2, 3, none⟩ (.int .i64 (I : Int)) = w4 at R4' V4' K4' ⊢
  have R4 := Lib.hid R4'
  have V4 : Hid (Blk w4 (w.heap.size + 2) (valV A B C I) 67) := Lib.hid V4'
  have K4 := Lib.hid K4'
  clear R4' V4' K4' x3 f3 i3 hb3 Y3
  go_wp2_with fail
  rw [rounds_succ]
  have c0 := V4.out.cell 0
  have c1 := V4.out.cell 1
  have c2 := V4.out.cell 2
  have c3 := V4.out.cell 3
  simp [valV] at c0 c1 c2 c3
  go_wp2_with (refine wpList_store_row rfl 25 (.tmp 6) (.tmp 34) rfl (w.heap.size + 1) (insV op A B C I) rfl rfl _ _ R4.out (by kernel_rfl) rfl (by simp [insV, Value.oneCell']) ?_)
  refine bodyPost_ret (results_cell_row rfl _ _ _ _ _ _ _ rfl (R4.out.setRow (insV op A B C I)) Tryd.underlying25 rfl (by kernel_rfl)) rfl ?_
  exact ⟨rfl, K4.out.setRow (by omega) _⟩
end Go.Proofs.YtfbkppncaampdaaDoor
