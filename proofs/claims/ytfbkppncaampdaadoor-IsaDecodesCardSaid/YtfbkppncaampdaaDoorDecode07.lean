/-
  Package isa: Decode. No condition but the tables.
-/
import Derived.Test.YtfbkppncaampdaaDoorDec07
import Derived.Laws.Tables
import Derived.Deep.WholeRow
namespace Go.Proofs.YtfbkppncaampdaaDoor
open Go Go.RowKit

/-! Which row reads a word. -/
def InsR (W j : Nat) : Prop := if j < 18 then InsA j (rdD j W) (rdN j W) (rdM j W) (rdI j W) else rdI 7 W = 0 ∨ InsA 7 (rdD 7 W) (rdN 7 W) (rdM 7 W) (-rdI 7 W)
def DFail (W j : Nat) : Prop := W &&& rowM j = rowW j → ¬ InsR W j
theorem enc_reads {W : Nat} {op d n m imm : Int} (h : OkA op d n m imm) (e : encN op d n m imm = W) : rowOf op imm < 19 ∧ W &&& rowM (rowOf op imm) = rowW (rowOf op imm) ∧ InsR W (rowOf op imm) ∧ (rowOf op imm = 18 → rdI 7 W ≠ 0) := by
  obtain ⟨r0, r1, r2⟩ := encN_row _ _ _ _ _ h
  rw [e] at r1 r2
  refine ⟨r0, r2, ?_⟩
  obtain ⟨g, h18⟩ := h
  by_cases c : op = 7 ∧ imm < 0
  · obtain ⟨rfl, hi⟩ := c
    rw [show encN 7 d n m imm = encF 7 d n m (-imm) + 1073741824 from if_pos ⟨rfl, hi⟩] at e
    obtain ⟨_, e1, e2, e3, e4⟩ := enc_low d n m imm g hi
    rw [e] at e1 e2 e3 e4
    rw [show rowOf 7 imm = 18 from if_pos ⟨rfl, hi⟩]
    refine ⟨?_, fun _ => by omega⟩
    unfold InsR
    rw [if_neg (by decide)]
    refine .inr ?_
    rw [e1, e2, e3, e4, Int.neg_neg]
    exact g
  · obtain ⟨o, rfl⟩ := Int.eq_ofNat_of_zero_le g.1
    have ho : o < 18 := by have := g.2.1; omega
    rw [show encN (o : Int) d n m imm = encF o d n m imm from (if_neg c).trans (by rw [Int.toNat_natCast])] at e
    obtain ⟨_, e1, e2, e3, e4⟩ := enc_row o d n m imm g (by omega) (by omega)
    rw [e] at e1 e2 e3 e4
    rw [show rowOf (o : Int) imm = o from (if_neg c).trans (Int.toNat_natCast o)]
    refine ⟨?_, fun h => by omega⟩
    unfold InsR
    rw [if_pos ho, e1, e2, e3, e4]
    exact g
theorem dec_none {W : Nat} (h : ∀ j, j < 19 → DFail W j) : DecOk W 18 0 0 0 0 := .inr ⟨⟨rfl, rfl, rfl, rfl, rfl⟩, fun op d n m imm hk he => by
  obtain ⟨a, b, c, _⟩ := enc_reads hk he
  exact h _ a b c⟩
theorem dec_zero {W : Nat} (hm : W &&& rowM 18 = rowW 18) (h0 : rdI 7 W = 0) : DecOk W 18 0 0 0 0 := .inr ⟨⟨rfl, rfl, rfl, rfl, rfl⟩, fun op d n m imm hk he => by
  obtain ⟨a, b, c, d'⟩ := enc_reads hk he
  exact d' (rows_apart _ _ a (by decide) W b hm) h0⟩
theorem and_row (W k : Nat) (hW : W < 4294967296) : bits .and .u32 (W : Int) (rowM k : Int) = ((W &&& rowM k : Nat) : Int) := by
  refine and_u32 _ _ hW ?_
  unfold rowM mkN
  split <;> omega
set_option maxRecDepth 20000 in
set_option maxHeartbeats 8000000 in
theorem decode_m (W : Nat) (wb w : World) (D : Nat) (hT : TabsOk wb) (hF : FmtsRow wb) (hW : W < 4294967296) (hB : Blk w D (decV 0 0 0 (.slice none 0 0)) 54) (hk0 : Kp wb w) (hD : wb.heap.size ≤ D) :
    Calls Tryd.prog 17 #[.pointer (some ⟨D, 0, none⟩), .int .u32 W] w fun e w' => ∃ op d n m imm, e = .returned (.agg (insV op d n m imm)) ∧ DecOk W op d n m imm ∧ Kp wb w' := by
  have HT := Lib.hid hT
  have HF := Lib.hid hF
  have HW := Lib.hid hW
  have HFa : Hid (FmtsRow (w.alloc (.cells zero5' 25))) := Lib.hid (hF.kp (hk0.trans (kpA _ _ _)))
  have HDa : Hid (Blk (w.alloc (.cells zero5' 25)) D (decV 0 0 0 (.slice none 0 0)) 54) := Lib.hid (hB.alloc _)
  have HKa : Hid (Kp wb (w.alloc (.cells zero5' 25))) := Lib.hid (hk0.trans (kpA _ _ _))
  have HZa : Hid (Blk (w.alloc (.cells zero5' 25)) w.heap.size zero5' 25) := Lib.hid (Blk.new w _ _)
  have HGD : Hid (0 ≠ D) := Lib.hid (by have := hF.ok.lt; omega)
  have HZD : Hid (¬ w.heap.size = D) := Lib.hid (by have := hB.lt; omega)
  have HDB : Hid (∀ k, k = D → wb.heap.size ≤ k) := Lib.hid (by rintro k rfl; exact hD)
  have HZS : Hid (wb.heap.size ≤ w.heap.size) := Lib.hid hk0.size
  clear hT hF hW hB hk0 hD
  unfold zero5' at HFa HDa HKa HZa
  go_enter Tryd.func17, Tryd.ntmps17
  go_wp2_with (go_at_call 34; refine (drows_any _ _ D HFa.out HDa.out (Off.refl _ _) HGD.out).mono ?_; rintro e w1 ⟨g, cap, ps, rfl, hra, ho1⟩; have HRA := Lib.hid hra; have HZ1 : Hid (Blk w1 w.heap.size zero5' 25) := Lib.hid (HZa.out.off ho1 HZD.out); have HK1 : Hid (Kp wb w1) := Lib.hid (ho1.kp HKa.out HDB.out); clear hra ho1)
  clear HFa HDa HKa HZa HGD HZD HDB
  go_loopw [6, 7, 11] (fun s5 s6 x wr => ∃ k : Nat, k ≤ 19 ∧ x = .int .i64 k ∧ (∀ j, j < k → DFail W j) ∧ RowsAt wr 0 g cap ps ∧ Blk wr w.heap.size zero5' 25 ∧ Kp wb wr) (fun _ _ x _ => 19 - (intOf x).toNat)
  case atStart => exact ⟨0, by omega, rfl, fun j hj => by omega, HRA.out, HZ1.out, HK1.out⟩
  case round =>
    obtain ⟨k, hk19, rfl, hf, hra, hz, hk⟩ := hrel
    obtain ⟨w3, rfl⟩ : ∃ w3, w3 = wr := ⟨_, rfl⟩
    have HFL := Lib.hid hf
    have HR := Lib.hid hra
    have HZ := Lib.hid hz
    have HK := Lib.hid hk
    clear hf hra hz hk HRA HZ1 HK1
    by_cases h19 : k = 19
    · subst h19
      clear hk19
      go_wp2_with (first | (go_at_call 23; refine (bad_any7 _).mono ?_; rintro e w4 ⟨rfl, hg⟩; have HZ4 : Hid (Blk w4 w.heap.size zero5' 25) := Lib.hid (HZ.out.kp hg); have HK4 : Hid (Kp wb w4) := Lib.hid (HK.out.trans hg); clear hg) | (refine wpList_store_row rfl 25 (.tmp 4) (.tmp 31) rfl w.heap.size (insV 18 0 0 0 0) rfl rfl _ _ HZ4.out (by kernel_rfl) rfl (by simp [insV, Value.oneCell']) ?_))
      refine bodyPost_ret (results_cell_row rfl _ _ _ _ _ _ _ rfl (HZ4.out.setRow (insV 18 0 0 0 0)) Tryd.underlying25 rfl (by kernel_rfl)) rfl ?_
      exact ⟨18, 0, 0, 0, 0, rfl, dec_none HFL.out, HK4.out.setRow HZS.out _⟩
    · have hk18 : k < 19 := by omega
      have k0 : (0 : Int) ≤ (k : Int) := by omega
      have k1 : (k : Int) < 19 := by omega
      have HK3 := Lib.hid hk18
      have hc := HR.out.2.2.2.2.1 k
      have c0 : w3.cell? ⟨g, k * 3, none⟩ = some (.int .u32 (rowM k)) := by have := hc 0 hk18 (by decide); rw [Nat.mul_comm] at this; exact this
      have c1 : w3.cell? ⟨g, k * 3 + 1, none⟩ = some (.int .u32 (rowW k)) := by have := hc 1 hk18 (by decide); rw [Nat.mul_comm] at this; exact this
      have c2 : w3.cell? ⟨g, k * 3 + 2, none⟩ = some (fnV k (ps.getD k 0)) := by have := hc 2 hk18 (by decide); rw [Nat.mul_comm] at this; exact this
      have hand := and_row W k HW.out
      have hp : ps[k]? = some (ps.getD k 0) := by
        have hl := HR.out.1
        rw [List.getD_eq_getElem?_getD, List.getElem?_eq_getElem (by omega)]; rfl
      have hcp := HR.out.2.2.2.2.2 k _ hp
      generalize ps.getD k 0 = pq at c2 hcp
      clear hk19 h19 hk18 hc hp
      obtain ⟨X, hX⟩ : ∃ X, X = W &&& rowM k := ⟨_, rfl⟩
      rw [← hX] at hand
      obtain ⟨A, rfl⟩ : ∃ A, A = pq := ⟨_, rfl⟩
      by_cases h18 : k < 18
      · rw [show fnV k A = .func (.func 61) #[] #[.pointer (some ⟨A, 0, none⟩)] from if_pos h18] at c2
        have HKB := Lib.hid h18
        by_cases hm : W &&& rowM k = rowW k
        · have HB := Lib.hid (hcp h18).2
          have heq : ((X : Int) != (rowW k : Int)) = false := by
            rw [← hX] at hm
            simp; omega
          have hm' := hm
          rw [show rowM k = mkN k from if_pos h18, show rowW k = fW k from if_pos h18] at hm'
          have hdec := dec_row k W h18 HW.out hm'
          have hfail : ¬ InsA k (rdD k W) (rdN k W) (rdM k W) (rdI k W) → DFail W k := fun h _ g => h (by unfold InsR at g; rw [if_pos h18] at g; exact g)
          have HRV : Hid (rowV k W = #[.int .i8 k, .int .i8 (rdD k W), .int .i8 (rdN k W), .int .i8 (rdM k W), .int .i64 (rdI k W)]) := Lib.hid (if_pos h18)
          generalize ((rdD k W : Nat) : Int) = a at hdec hfail HRV
          generalize ((rdN k W : Nat) : Int) = b at hdec hfail HRV
          generalize ((rdM k W : Nat) : Int) = c at hdec hfail HRV
          generalize rdI k W = i at hdec hfail HRV
          clear hm hm' hX hcp h18
          by_cases hc : InsA k a b c i
          · have HC := Lib.hid hc
            have HDC := Lib.hid (hdec hc)
            clear hc hdec hfail
            go_wp2_with (first
              | (refine wpList_store_row rfl 88 (.tmp 6) (.tmp 14) rfl w3.heap.size #[.int .u32 (rowM k), .int .u32 (rowW k), (.func (.func 61) #[] #[.pointer (some ⟨A, 0, none⟩)])] rfl rfl _ _ (heap_alloc_last _ _) (by kernel_rfl) rfl (by simp [Value.oneCell']) ?_; rw [World.setRow_alloc_new])
              | (go_at_call 61; refine (row1_any k W A _ HKB.out HW.out (HF.out.kp (HK.out.trans (kpA _ _ _))) (HB.out.alloc _)).mono ?_; rintro e w4 ⟨rfl, hg⟩; rw [HRV.out]; have HK4 : Hid (Kp wb w4) := Lib.hid (HK.out.trans ((kpA _ _ _).trans hg)); have HZ4 : Hid (Blk w4 w.heap.size zero5' 25) := Lib.hid (HZ.out.kp ((kpA _ _ _).trans hg)); have HR4 : Hid (RowsAt w4 0 g cap ps) := Lib.hid (HR.out.kp ((kpA _ _ _).trans hg)); clear hg)
              | (go_at_call 16; refine (check_ok k a b c i _ (HT.out.kp (HK4.out.trans (kpA _ _ _))) ⟨by omega, by omega⟩ HC.out).mono ?_; rintro e w5 ⟨rfl, hg⟩; have HI5 : Hid (Blk w5 w4.heap.size (insV k a b c i) 25) := Lib.hid ((Blk.new w4 _ _).kp hg); have HK5 : Hid (Kp wb w5) := Lib.hid (HK4.out.trans ((kpA _ _ _).trans hg)); have HZ5 : Hid (Blk w5 w.heap.size zero5' 25) := Lib.hid (HZ4.out.kp ((kpA _ _ _).trans hg)); have HR5 : Hid (RowsAt w5 0 g cap ps) := Lib.hid (HR4.out.kp ((kpA _ _ _).trans hg)); clear hg)
              | (refine wpList_load_row rfl 25 (.tmp 7) rfl w4.heap.size rfl _ _ _ _ HI5.out Tryd.underlying25 rfl (by kernel_rfl) ?_)
              | (refine wpList_store_row rfl 25 (.tmp 4) (.tmp 29) rfl w.heap.size (insV k a b c i) rfl rfl _ _ HZ5.out (by kernel_rfl) rfl (by simp [insV, Value.oneCell']) ?_))
            refine bodyPost_ret (results_cell_row rfl _ _ _ _ _ _ _ rfl (HZ5.out.setRow (insV k a b c i)) Tryd.underlying25 rfl (by kernel_rfl)) rfl ?_
            exact ⟨_, _, _, _, _, rfl, .inl HDC.out, HK5.out.setRow HZS.out _⟩
          · have HC := Lib.hid hc
            have HDF := Lib.hid (hfail hc)
            clear hc hdec hfail
            go_wp2_with (first
              | (refine wpList_store_row rfl 88 (.tmp 6) (.tmp 14) rfl w3.heap.size #[.int .u32 (rowM k), .int .u32 (rowW k), (.func (.func 61) #[] #[.pointer (some ⟨A, 0, none⟩)])] rfl rfl _ _ (heap_alloc_last _ _) (by kernel_rfl) rfl (by simp [Value.oneCell']) ?_; rw [World.setRow_alloc_new])
              | (go_at_call 61; refine (row1_any k W A _ HKB.out HW.out (HF.out.kp (HK.out.trans (kpA _ _ _))) (HB.out.alloc _)).mono ?_; rintro e w4 ⟨rfl, hg⟩; rw [HRV.out]; have HK4 : Hid (Kp wb w4) := Lib.hid (HK.out.trans ((kpA _ _ _).trans hg)); have HZ4 : Hid (Blk w4 w.heap.size zero5' 25) := Lib.hid (HZ.out.kp ((kpA _ _ _).trans hg)); have HR4 : Hid (RowsAt w4 0 g cap ps) := Lib.hid (HR.out.kp ((kpA _ _ _).trans hg)); clear hg)
              | (go_at_call 16; refine (check_bad k a b c i _ (HT.out.kp (HK4.out.trans (kpA _ _ _))) ⟨by omega, by omega⟩ HC.out).mono ?_; rintro e w5 ⟨rfl, hg⟩; have HI5 : Hid (Blk w5 w4.heap.size (insV k a b c i) 25) := Lib.hid ((Blk.new w4 _ _).kp hg); have HK5 : Hid (Kp wb w5) := Lib.hid (HK4.out.trans ((kpA _ _ _).trans hg)); have HZ5 : Hid (Blk w5 w.heap.size zero5' 25) := Lib.hid (HZ4.out.kp ((kpA _ _ _).trans hg)); have HR5 : Hid (RowsAt w5 0 g cap ps) := Lib.hid (HR4.out.kp ((kpA _ _ _).trans hg)); clear hg))
            go_roundw
            case rel => exact ⟨k + 1, by have := HK3.out; omega, by go_num, fun j hj => by
              by_cases hjk : j < k
              · exact HFL.out j hjk
              · obtain rfl : j = k := by omega
                exact HDF.out, HR5.out, HZ5.out, HK5.out⟩
            case measure => have := HK3.out; simp [intOf]; omega
        · have HDF : Hid (DFail W k) := Lib.hid (fun h => absurd h hm)
          have hne : ((X : Int) != (rowW k : Int)) = true := by
            rw [← hX] at hm
            simp; omega
          clear hm hX
          go_wp2_with (refine wpList_store_row rfl 88 (.tmp 6) (.tmp 14) rfl w3.heap.size #[.int .u32 (rowM k), .int .u32 (rowW k), (.func (.func 61) #[] #[.pointer (some ⟨A, 0, none⟩)])] rfl rfl _ _ (heap_alloc_last _ _) (by kernel_rfl) rfl (by simp [Value.oneCell']) ?_; rw [World.setRow_alloc_new])
          go_roundw
          case rel => exact ⟨k + 1, by have := HK3.out; omega, by go_num, fun j hj => by
            by_cases hjk : j < k
            · exact HFL.out j hjk
            · obtain rfl : j = k := by omega
              exact HDF.out, HR.out.kp (kpA _ _ _), HZ.out.kp (kpA _ _ _), HK.out.trans (kpA _ _ _)⟩
          case measure => have := HK3.out; simp [intOf]; omega
      · rw [show fnV k A = .func (.func 63) #[] #[] from if_neg h18] at c2
        have h18e : k = 18 := by have := HK3.out; omega
        by_cases hm : W &&& rowM k = rowW k
        · have heq : ((X : Int) != (rowW k : Int)) = false := by
            rw [← hX] at hm
            simp; omega
          have hm' := hm
          rw [h18e] at hm'
          by_cases h0 : rdI 7 W = 0
          · have HRV : Hid (rowV 18 W = #[.int .i8 18, .int .i8 0, .int .i8 0, .int .i8 0, .int .i64 0]) := Lib.hid ((if_neg (by decide)).trans (if_pos h0))
            have HDC := Lib.hid (dec_zero hm' h0)
            clear hm hm' hX hcp h18 h18e h0
            go_wp2_with (first
              | (refine wpList_store_row rfl 88 (.tmp 6) (.tmp 14) rfl w3.heap.size #[.int .u32 (rowM k), .int .u32 (rowW k), (.func (.func 63) #[] #[])] rfl rfl _ _ (heap_alloc_last _ _) (by kernel_rfl) rfl (by simp [Value.oneCell']) ?_; rw [World.setRow_alloc_new])
              | (go_at_call 63; refine (row2_any W _ HW.out (HF.out.kp (HK.out.trans (kpA _ _ _)))).mono ?_; rintro e w4 ⟨rfl, hg⟩; rw [HRV.out]; have HK4 : Hid (Kp wb w4) := Lib.hid (HK.out.trans ((kpA _ _ _).trans hg)); have HZ4 : Hid (Blk w4 w.heap.size zero5' 25) := Lib.hid (HZ.out.kp ((kpA _ _ _).trans hg)); have HR4 : Hid (RowsAt w4 0 g cap ps) := Lib.hid (HR.out.kp ((kpA _ _ _).trans hg)); clear hg)
              | (go_at_call 16; refine (check_ok 18 0 0 0 0 _ (HT.out.kp (HK4.out.trans (kpA _ _ _))) (by decide) (by decide)).mono ?_; rintro e w5 ⟨rfl, hg⟩; have HI5 : Hid (Blk w5 w4.heap.size (insV 18 0 0 0 0) 25) := Lib.hid ((Blk.new w4 _ _).kp hg); have HK5 : Hid (Kp wb w5) := Lib.hid (HK4.out.trans ((kpA _ _ _).trans hg)); have HZ5 : Hid (Blk w5 w.heap.size zero5' 25) := Lib.hid (HZ4.out.kp ((kpA _ _ _).trans hg)); have HR5 : Hid (RowsAt w5 0 g cap ps) := Lib.hid (HR4.out.kp ((kpA _ _ _).trans hg)); clear hg)
              | (refine wpList_load_row rfl 25 (.tmp 7) rfl w4.heap.size rfl _ _ _ _ HI5.out Tryd.underlying25 rfl (by kernel_rfl) ?_)
              | (refine wpList_store_row rfl 25 (.tmp 4) (.tmp 29) rfl w.heap.size (insV 18 0 0 0 0) rfl rfl _ _ HZ5.out (by kernel_rfl) rfl (by simp [insV, Value.oneCell']) ?_))
            refine bodyPost_ret (results_cell_row rfl _ _ _ _ _ _ _ rfl (HZ5.out.setRow (insV 18 0 0 0 0)) Tryd.underlying25 rfl (by kernel_rfl)) rfl ?_
            exact ⟨_, _, _, _, _, rfl, HDC.out, HK5.out.setRow HZS.out _⟩
          · have HRV : Hid (rowV 18 W = #[.int .i8 7, .int .i8 (rdD 7 W), .int .i8 (rdN 7 W), .int .i8 (rdM 7 W), .int .i64 (-rdI 7 W)]) := Lib.hid ((if_neg (by decide)).trans (if_neg h0))
            have hdec := dec_low W HW.out hm' h0
            have hfail : ¬ InsA 7 (rdD 7 W) (rdN 7 W) (rdM 7 W) (-rdI 7 W) → DFail W k := fun h _ g => by
              unfold InsR at g
              rw [if_neg h18] at g
              rcases g with g | g
              · exact h0 g
              · exact h g
            generalize ((rdD 7 W : Nat) : Int) = a at hdec hfail HRV
            generalize ((rdN 7 W : Nat) : Int) = b at hdec hfail HRV
            generalize ((rdM 7 W : Nat) : Int) = c at hdec hfail HRV
            generalize -rdI 7 W = i at hdec hfail HRV
            clear hm hm' hX hcp h18 h18e h0
            by_cases hc : InsA 7 a b c i
            · have HC := Lib.hid hc
              have HDC := Lib.hid (hdec hc)
              clear hc hdec hfail
              go_wp2_with (first
                | (refine wpList_store_row rfl 88 (.tmp 6) (.tmp 14) rfl w3.heap.size #[.int .u32 (rowM k), .int .u32 (rowW k), (.func (.func 63) #[] #[])] rfl rfl _ _ (heap_alloc_last _ _) (by kernel_rfl) rfl (by simp [Value.oneCell']) ?_; rw [World.setRow_alloc_new])
                | (go_at_call 63; refine (row2_any W _ HW.out (HF.out.kp (HK.out.trans (kpA _ _ _)))).mono ?_; rintro e w4 ⟨rfl, hg⟩; rw [HRV.out]; have HK4 : Hid (Kp wb w4) := Lib.hid (HK.out.trans ((kpA _ _ _).trans hg)); have HZ4 : Hid (Blk w4 w.heap.size zero5' 25) := Lib.hid (HZ.out.kp ((kpA _ _ _).trans hg)); have HR4 : Hid (RowsAt w4 0 g cap ps) := Lib.hid (HR.out.kp ((kpA _ _ _).trans hg)); clear hg)
                | (go_at_call 16; refine (check_ok 7 a b c i _ (HT.out.kp (HK4.out.trans (kpA _ _ _))) (by decide) HC.out).mono ?_; rintro e w5 ⟨rfl, hg⟩; have HI5 : Hid (Blk w5 w4.heap.size (insV 7 a b c i) 25) := Lib.hid ((Blk.new w4 _ _).kp hg); have HK5 : Hid (Kp wb w5) := Lib.hid (HK4.out.trans ((kpA _ _ _).trans hg)); have HZ5 : Hid (Blk w5 w.heap.size zero5' 25) := Lib.hid (HZ4.out.kp ((kpA _ _ _).trans hg)); have HR5 : Hid (RowsAt w5 0 g cap ps) := Lib.hid (HR4.out.kp ((kpA _ _ _).trans hg)); clear hg)
                | (refine wpList_load_row rfl 25 (.tmp 7) rfl w4.heap.size rfl _ _ _ _ HI5.out Tryd.underlying25 rfl (by kernel_rfl) ?_)
                | (refine wpList_store_row rfl 25 (.tmp 4) (.tmp 29) rfl w.heap.size (insV 7 a b c i) rfl rfl _ _ HZ5.out (by kernel_rfl) rfl (by simp [insV, Value.oneCell']) ?_))
              refine bodyPost_ret (results_cell_row rfl _ _ _ _ _ _ _ rfl (HZ5.out.setRow (insV 7 a b c i)) Tryd.underlying25 rfl (by kernel_rfl)) rfl ?_
              exact ⟨_, _, _, _, _, rfl, .inl HDC.out, HK5.out.setRow HZS.out _⟩
            · have HC := Lib.hid hc
              have HDF := Lib.hid (hfail hc)
              clear hc hdec hfail
              go_wp2_with (first
                | (refine wpList_store_row rfl 88 (.tmp 6) (.tmp 14) rfl w3.heap.size #[.int .u32 (rowM k), .int .u32 (rowW k), (.func (.func 63) #[] #[])] rfl rfl _ _ (heap_alloc_last _ _) (by kernel_rfl) rfl (by simp [Value.oneCell']) ?_; rw [World.setRow_alloc_new])
                | (go_at_call 63; refine (row2_any W _ HW.out (HF.out.kp (HK.out.trans (kpA _ _ _)))).mono ?_; rintro e w4 ⟨rfl, hg⟩; rw [HRV.out]; have HK4 : Hid (Kp wb w4) := Lib.hid (HK.out.trans ((kpA _ _ _).trans hg)); have HZ4 : Hid (Blk w4 w.heap.size zero5' 25) := Lib.hid (HZ.out.kp ((kpA _ _ _).trans hg)); have HR4 : Hid (RowsAt w4 0 g cap ps) := Lib.hid (HR.out.kp ((kpA _ _ _).trans hg)); clear hg)
                | (go_at_call 16; refine (check_bad 7 a b c i _ (HT.out.kp (HK4.out.trans (kpA _ _ _))) (by decide) HC.out).mono ?_; rintro e w5 ⟨rfl, hg⟩; have HI5 : Hid (Blk w5 w4.heap.size (insV 7 a b c i) 25) := Lib.hid ((Blk.new w4 _ _).kp hg); have HK5 : Hid (Kp wb w5) := Lib.hid (HK4.out.trans ((kpA _ _ _).trans hg)); have HZ5 : Hid (Blk w5 w.heap.size zero5' 25) := Lib.hid (HZ4.out.kp ((kpA _ _ _).trans hg)); have HR5 : Hid (RowsAt w5 0 g cap ps) := Lib.hid (HR4.out.kp ((kpA _ _ _).trans hg)); clear hg))
              go_roundw
              case rel => exact ⟨k + 1, by have := HK3.out; omega, by go_num, fun j hj => by
                by_cases hjk : j < k
                · exact HFL.out j hjk
                · obtain rfl : j = k := by omega
                  exact HDF.out, HR5.out, HZ5.out, HK5.out⟩
              case measure => have := HK3.out; simp [intOf]; omega
        · have HDF : Hid (DFail W k) := Lib.hid (fun h => absurd h hm)
          have hne : ((X : Int) != (rowW k : Int)) = true := by
            rw [← hX] at hm
            simp; omega
          clear hm hX h18 h18e
          go_wp2_with (refine wpList_store_row rfl 88 (.tmp 6) (.tmp 14) rfl w3.heap.size #[.int .u32 (rowM k), .int .u32 (rowW k), (.func (.func 63) #[] #[])] rfl rfl _ _ (heap_alloc_last _ _) (by kernel_rfl) rfl (by simp [Value.oneCell']) ?_; rw [World.setRow_alloc_new])
          go_roundw
          case rel => exact ⟨k + 1, by have := HK3.out; omega, by go_num, fun j hj => by
            by_cases hjk : j < k
            · exact HFL.out j hjk
            · obtain rfl : j = k := by omega
              exact HDF.out, HR.out.kp (kpA _ _ _), HZ.out.kp (kpA _ _ _), HK.out.trans (kpA _ _ _)⟩
          case measure => have := HK3.out; simp [intOf]; omega
theorem decode_any (W : Nat) (w : World) (hT : TabsOk w) (hF : FmtsRow w) (hW : W < 4294967296) :
    Calls Tryd.prog 7 #[.int .u32 W] w fun e w' => ∃ op d n m imm, e = .returned (.agg (insV op d n m imm)) ∧ DecOk W op d n m imm ∧ Kp w w' := by
  have HT := Lib.hid hT
  have HF := Lib.hid hF
  have HW := Lib.hid hW
  have HD0 : Hid (Blk ((w.alloc (.cells zero5' 25)).alloc (.cells (decV 0 0 0 (.slice none 0 0)) 54)) (w.heap.size + 1) (decV 0 0 0 (.slice none 0 0)) 54) := Lib.hid (Blk.new2 w _ _ _)
  have HKa : Hid (Kp (w.alloc (.cells zero5' 25)) ((w.alloc (.cells zero5' 25)).alloc (.cells (decV 0 0 0 (.slice none 0 0)) 54))) := Lib.hid (kpA _ _ _)
  have HTa : Hid (TabsOk (w.alloc (.cells zero5' 25))) := Lib.hid (hT.kp (kpA _ _ _))
  have HFa : Hid (FmtsRow (w.alloc (.cells zero5' 25))) := Lib.hid (hF.kp (kpA _ _ _))
  have HZa : Hid (Blk (w.alloc (.cells zero5' 25)) w.heap.size zero5' 25) := Lib.hid (Blk.new w _ _)
  have HSa : Hid ((w.alloc (.cells zero5' 25)).heap.size ≤ w.heap.size + 1) := Lib.hid (by simp)
  have h1c : ∀ a b c d e f, #[Value.int .i8 a, .int .i8 b, .int .i8 c, .int .i8 d, .int .i64 e] = f → (f : Array Value).all (·.oneCell') = true := by
    rintro a b c d e f rfl; simp [Value.oneCell']
  unfold zero5' at HD0 HKa HFa HZa HSa HTa
  unfold decV at HD0 HKa
  clear hT hF hW
  go_enter Tryd.func7, Tryd.ntmps7
  go_wp2_with (first
    | (go_at_call 17; refine (decode_m W _ _ (w.heap.size + 1) HTa.out HFa.out HW.out HD0.out HKa.out HSa.out).mono ?_; rintro e w1 ⟨op, d, n, m, imm, rfl, hok, hk1⟩; have HOK := Lib.hid hok; have HZ1 : Hid (Blk w1 w.heap.size zero5' 25) := Lib.hid (HZa.out.kp hk1); have HK1 : Hid (Kp w w1) := Lib.hid ((kpA _ _ _).trans hk1); clear hok hk1)
    | (refine wpList_store_row rfl 25 (.tmp 2) (.tmp 5) rfl w.heap.size (insV op d n m imm) rfl rfl _ _ HZ1.out (by kernel_rfl) rfl (h1c _ _ _ _ _ _ rfl) ?_))
  refine bodyPost_ret (results_cell_row rfl _ _ _ _ _ _ _ rfl (HZ1.out.setRow (insV op d n m imm)) Tryd.underlying25 rfl (by kernel_rfl)) rfl ?_
  exact ⟨_, _, _, _, _, rfl, HOK.out, HK1.out.setRow (Nat.le_refl _) _⟩
end Go.Proofs.YtfbkppncaampdaaDoor
