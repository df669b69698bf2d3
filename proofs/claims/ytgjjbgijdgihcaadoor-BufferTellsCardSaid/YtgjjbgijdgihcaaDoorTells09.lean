/-
  Any row of entries is told as the document tells it: BufferTells returns true. No condition but the table.
-/
import Derived.Test.YtgjjbgijdgihcaaDoorOpen09
import Derived.Test.YtgjjbgijdgihcaaDoorWakes09
import Derived.Test.YtgjjbgijdgihcaaDoorSame09
import Derived.Test.YtgjjbgijdgihcaaDoorRFwd09
namespace Go.Proofs.YtgjjbgijdgihcaaDoor
open Go Go.RowKit

theorem ent_of (k x v a b : Int) (h0 : (Lit.int .i8 k).wf = true) (h1 : (Lit.int .u64 x).wf = true) (h2 : (Lit.int .u64 v).wf = true) (h3 : (Lit.int .i64 a).wf = true) (h4 : (Lit.int .i64 b).wf = true) : ∃ e : Ent, e.wf ∧ #[Value.int .i8 k, .int .u64 x, .int .u64 v, .int .i64 a, .int .i64 b] = Ent.arr e := by
  simp [Lit.wf, IntKind.min, IntKind.max, IntKind.bits, IntKind.signed] at h0 h1 h2 h3 h4
  refine ⟨⟨k, x.toNat, v.toNat, a, b⟩, ⟨⟨by simp only; omega, by simp only; omega⟩, by simp only; omega, by simp only; omega, ⟨by simp only; omega, by simp only; omega⟩, ⟨by simp only; omega, by simp only; omega⟩⟩, ?_⟩
  unfold Ent.arr
  simp only [Int.toNat_of_nonneg h1.1, Int.toNat_of_nonneg h2.1]
theorem push_len (L : List Ent) (e : Ent) : (pushB L e).1.length ≤ 100 := by
  unfold pushB
  split
  · split
    · have := firstL_len (L ++ [e]); simp at this; simp; omega
    · simp
  · simp
theorem take_len (L : List Ent) (k : Int) : (takeB L k).1.length ≤ 100 := by
  unfold takeB
  cases ho : okB L with
  | false => simp
  | true =>
    have h8 := (okB_parts ho).1
    simp only [if_true]
    split
    · split
      · have := firstL_len (L.eraseIdx k.toNat); have := List.length_eraseIdx_le L k.toNat; simp; omega
      · simp
    · simp
theorem tb_kp {w w' : World} {p q : Nat} {a b : Ent} (h : w.cell? ⟨p, 0, none⟩ = some (.int .i8 a.k) ∧ w.cell? ⟨p, 1, none⟩ = some (.int .u64 a.w) ∧ w.cell? ⟨p, 2, none⟩ = some (.int .u64 a.x) ∧ w.cell? ⟨p, 3, none⟩ = some (.int .i64 a.fr) ∧ w.cell? ⟨p, 4, none⟩ = some (.int .i64 a.fm) ∧ w.cell? ⟨q, 0, none⟩ = some (.int .i8 b.k) ∧ w.cell? ⟨q, 1, none⟩ = some (.int .u64 b.w) ∧ w.cell? ⟨q, 2, none⟩ = some (.int .u64 b.x) ∧ w.cell? ⟨q, 3, none⟩ = some (.int .i64 b.fr) ∧ w.cell? ⟨q, 4, none⟩ = some (.int .i64 b.fm)) (g : Kp w w') : w'.cell? ⟨p, 0, none⟩ = some (.int .i8 a.k) ∧ w'.cell? ⟨p, 1, none⟩ = some (.int .u64 a.w) ∧ w'.cell? ⟨p, 2, none⟩ = some (.int .u64 a.x) ∧ w'.cell? ⟨p, 3, none⟩ = some (.int .i64 a.fr) ∧ w'.cell? ⟨p, 4, none⟩ = some (.int .i64 a.fm) ∧ w'.cell? ⟨q, 0, none⟩ = some (.int .i8 b.k) ∧ w'.cell? ⟨q, 1, none⟩ = some (.int .u64 b.w) ∧ w'.cell? ⟨q, 2, none⟩ = some (.int .u64 b.x) ∧ w'.cell? ⟨q, 3, none⟩ = some (.int .i64 b.fr) ∧ w'.cell? ⟨q, 4, none⟩ = some (.int .i64 b.fm) := by
  obtain ⟨a0, a1, a2, a3, a4, h5⟩ := h
  obtain ⟨x0, x1, x2, x3, x4⟩ := tc5_kp ⟨a0, a1, a2, a3, a4⟩ g
  exact ⟨x0, x1, x2, x3, x4, tc5_kp h5 g⟩
set_option maxRecDepth 20000 in
set_option maxHeartbeats 8000000 in
theorem tells_any (a0 : Option Addr) (cap N : Nat) (L : List Ent) (a b : Ent) (k : Int) (u : Nat) (w : World) (hT : TabsOk w) (hN : N = L.length) (h : RowE w a0 cap L) (hw : ∀ e ∈ L, e.wf) (wa : a.wf) (wb : b.wf) (hu : u < 18446744073709551616) :
    Calls Tryd.prog 3 #[.slice a0 N cap, .agg (Ent.arr a), .agg (Ent.arr b), .int .i64 k, .int .u64 u] w fun r w' => r = .returned (.bool true) ∧ Kp w w' := by
  have K0 : Hid (Kp w ((w.alloc (.cells (Ent.arr a) 26)).alloc (.cells (Ent.arr b) 26))) := Lib.hid ((kpA _ _ _).alloc _ _)
  have BA := Lib.hid ((Blk.new w (Ent.arr a) 26).alloc (.cells (Ent.arr b) 26))
  have BB := Lib.hid (Blk.new2 w (.cells (Ent.arr a) 26) (Ent.arr b) 26)
  have HT := Lib.hid hT
  have HWk := Lib.hid (fun w1 (g : Kp w w1) => wakes_any w1 (hT.kp g))
  by_cases h60 : 60 < N
  · have d0 : decide (60 < (N : Int)) = true := decide_eq_true (by omega)
    have d1 : decide (60 < N) = true := decide_eq_true h60
    clear hT hN h hw wa wb hu h60
    unfold Ent.arr at *
    go_enter Tryd.func3, Tryd.ntmps3
    go_wp2_with fail
    refine (HWk.out _ K0.out).mono ?_; rintro r w1 ⟨rfl, hg⟩
    have K1 := Lib.hid (Kp.trans K0.out hg); clear hg
    go_wp2_with fail
    go_ret
    exact ⟨rfl, K1.out⟩
  have d0 : decide (60 < (N : Int)) = false := decide_eq_false (by omega)
  have d1 : decide (60 < N) = false := decide_eq_false h60
  have HC := Lib.hid (fun w1 (g : Kp w w1) => pcheck_any a0 cap N L w1 (hT.kp g) hN (h.kp g) hw)
  have HRC := Lib.hid (fun w1 (g : Kp w w1) => rcheck_any a0 cap N L w1 hN (h.kp g))
  have HP := Lib.hid (fun w1 (g : Kp w w1) => ppush_any a0 cap N L a w1 (hT.kp g) hN (h.kp g) hw wa)
  have HRP := Lib.hid (fun w1 (g : Kp w w1) => rpush_any a0 cap N L a w1 hN (h.kp g))
  have HK := Lib.hid (fun w1 (g : Kp w w1) => ptake_any a0 cap N L k w1 (hT.kp g) hN (h.kp g) hw)
  have HRK := Lib.hid (fun w1 (g : Kp w w1) => rtake_any a0 cap N L k w1 hN (h.kp g) hw)
  have HF := Lib.hid (fun w1 (g : Kp w w1) => pfwd_any a0 cap N L u w1 (hT.kp g) hN (h.kp g) hw)
  have HRF := Lib.hid (fun w1 (g : Kp w w1) => rfwd_any a0 cap N L u w1 hN (h.kp g) hw hu)
  have HM := Lib.hid (fun w1 (g : Kp w w1) => pmayat_any a0 cap N L k w1 (hT.kp g) hN (h.kp g) hw)
  have HRM := Lib.hid (fun w1 (g : Kp w w1) => rmayat_any a0 cap N L k w1 hN (h.kp g) hw)
  have HTo := Lib.hid (fun w1 (g : Kp w w1) => ptouch_any a b w1 (hT.kp g) wa wb)
  have HTb := Lib.hid (fun w1 (g : Kp w w1) => ptouch_any b a w1 (hT.kp g) wb wa)
  have HRT := Lib.hid (fun w1 (_ : Kp w w1) => rtouch_any a b w1 wa wb)
  rw [tch_comm b a] at HTb
  have HPl := Lib.hid (push_len L a)
  have HTl := Lib.hid (take_len L k)
  generalize (if okB L = true then (0 : Int) else 2) = CC at *
  generalize mayAt L k = MV at *
  generalize tchB a b = TV at *
  generalize pushB L a = PP at *
  generalize takeB L k = KK at *
  generalize fwdB L u = FF at *
  obtain ⟨PL, PC⟩ := PP
  obtain ⟨KL, KE, KC⟩ := KK
  obtain ⟨FV, FB, FC⟩ := FF
  simp only [] at HP HRP HK HRK HF HRF HPl HTl
  have HEq := ent_eq KE.k KE.w KE.x KE.fr KE.fm KE.k KE.w KE.x KE.fr KE.fm true (by simp)
  clear hT hN h hw wa wb hu h60
  unfold Ent.arr at *
  go_enter Tryd.func3, Tryd.ntmps3
  go_wp2_with fail
  refine (HP.out _ K0.out).mono ?_; rintro r w1 ⟨x1, rfl, hx1, hg⟩
  have K1 := Lib.hid (Kp.trans K0.out hg)
  have BA1 := Lib.hid (BA.out.kp hg); have BB1 := Lib.hid (BB.out.kp hg); have X1 := Lib.hid hx1; clear hg hx1 BA BB
  obtain ⟨q0, q1, q2, q3, q4⟩ := Ent.five BA1.out
  go_wp2_with fail
  refine (HRP.out _ K1.out).mono ?_; rintro r w2 ⟨v2, rfl, ho2, hg⟩
  obtain ⟨x2, c2, rfl, hx2⟩ := ho2.row
  have K2 := Lib.hid (Kp.trans K1.out hg)
  have BA2 := Lib.hid (BA1.out.kp hg); have BB2 := Lib.hid (BB1.out.kp hg); have X2 := Lib.hid hx2; have X1b := Lib.hid (X1.out.kp hg); clear hg hx2 ho2 BA1 BB1 X1 q0 q1 q2 q3 q4
  generalize hPN : PL.length = PN at *
  have HPN := Lib.hid hPN.symm; clear hPN
  go_wp2_with fail
  refine (HK.out _ K2.out).mono ?_; rintro r w3 ⟨x3, rfl, hx3, hg⟩
  have hg3 := kpA w3 (Ent.arr KE) 26
  have hB3 := Blk.new w3 (Ent.arr KE) 26
  have gg := Kp.trans hg hg3
  have K3 := Lib.hid (Kp.trans K2.out gg)
  have BA3 := Lib.hid (BA2.out.kp gg); have BB3 := Lib.hid (BB2.out.kp gg); have X1c := Lib.hid (X1b.out.kp gg); have X2c := Lib.hid (X2.out.kp gg); have X3 := Lib.hid (hx3.kp hg3); have B3 := Lib.hid hB3
  clear hg hg3 hB3 gg hx3 BA2 BB2 X1b X2
  unfold Ent.arr at K3 B3 BA3 BB3 X1c X2c X3
  go_wp2_with fail
  refine (HRK.out _ K3.out).mono ?_; rintro r w4 ⟨v4, rfl, ho4, hg⟩
  obtain ⟨x4, c4, rfl, hx4⟩ := ho4.row
  generalize hKN : KL.length = KN at *
  have HKN := Lib.hid hKN.symm; clear hKN
  have hg4 := kpA w4 (Ent.arr KE) 26
  have hB4 := Blk.new w4 (Ent.arr KE) 26
  have gg := Kp.trans hg hg4
  have K4 := Lib.hid (Kp.trans K3.out gg)
  have BA4 := Lib.hid (BA3.out.kp gg); have BB4 := Lib.hid (BB3.out.kp gg); have X1d := Lib.hid (X1c.out.kp gg); have X2d := Lib.hid (X2c.out.kp gg); have X3d := Lib.hid (X3.out.kp gg); have X4 := Lib.hid (hx4.kp hg4); have B3d := Lib.hid (B3.out.kp gg); have B4 := Lib.hid hB4
  clear hg hg4 hB4 gg hx4 ho4 BA3 BB3 X1c X2c X3 B3
  unfold Ent.arr at K4 B4 B3d BA4 BB4 X1d X2d X3d X4
  go_wp2_with fail
  refine (HF.out _ K4.out).mono ?_; rintro r w5 ⟨rfl, hg⟩
  have K5 := Lib.hid (Kp.trans K4.out hg); have G5 := Lib.hid hg; clear hg
  go_wp2_with fail
  refine (HRF.out _ K5.out).mono ?_; rintro r w6 ⟨rfl, hg⟩
  have K6 := Lib.hid (Kp.trans K5.out hg); have G6 := Lib.hid (Kp.trans G5.out hg); clear hg
  go_wp2_with fail
  refine (same_any x1 x2 PN c2 PN PN PL w6 HPN.out HPN.out (X1d.out.kp G6.out) (X2d.out.kp G6.out) (by rw [← HPN.out]; exact HPl.out)).mono ?_; rintro r w7 ⟨rfl, hg⟩
  have K7 := Lib.hid (Kp.trans K6.out hg); have G7 := Lib.hid (Kp.trans G6.out hg); clear hg
  go_wp2_with fail
  refine (same_any x3 x4 KN c4 KN KN KL w7 HKN.out HKN.out (X3d.out.kp G7.out) (X4.out.kp G7.out) (by rw [← HKN.out]; exact HTl.out)).mono ?_; rintro r w8 ⟨rfl, hg⟩
  have K8 := Lib.hid (Kp.trans K7.out hg); have G8 := Lib.hid (Kp.trans G7.out hg); clear hg
  obtain ⟨q0, q1, q2, q3, q4⟩ := Ent.five (B3d.out.kp G8.out)
  obtain ⟨p0, p1, p2, p3, p4⟩ := Ent.five (B4.out.kp G8.out)
  go_wp2_with fail
  clear q0 q1 q2 q3 q4 p0 p1 p2 p3 p4
  have HS : Hid (w8.drew.cell? ⟨w.heap.size, 0, none⟩ = some (.int .i8 a.k) ∧ w8.drew.cell? ⟨w.heap.size, 1, none⟩ = some (.int .u64 a.w) ∧ w8.drew.cell? ⟨w.heap.size, 2, none⟩ = some (.int .u64 a.x) ∧ w8.drew.cell? ⟨w.heap.size, 3, none⟩ = some (.int .i64 a.fr) ∧ w8.drew.cell? ⟨w.heap.size, 4, none⟩ = some (.int .i64 a.fm) ∧ w8.drew.cell? ⟨(w.heap.size + 1), 0, none⟩ = some (.int .i8 b.k) ∧ w8.drew.cell? ⟨(w.heap.size + 1), 1, none⟩ = some (.int .u64 b.w) ∧ w8.drew.cell? ⟨(w.heap.size + 1), 2, none⟩ = some (.int .u64 b.x) ∧ w8.drew.cell? ⟨(w.heap.size + 1), 3, none⟩ = some (.int .i64 b.fr) ∧ w8.drew.cell? ⟨(w.heap.size + 1), 4, none⟩ = some (.int .i64 b.fm)) := Lib.hid (by
    have g := Kp.drew G8.out
    obtain ⟨a0, a1, a2, a3, a4⟩ := Ent.five (BA4.out.kp g)
    exact ⟨a0, a1, a2, a3, a4, Ent.five (BB4.out.kp g)⟩)
  have KD := Lib.hid (Kp.drew K8.out)
  refine wp_region_held_drew (S := fun w' => w'.cell? ⟨w.heap.size, 0, none⟩ = some (.int .i8 a.k) ∧ w'.cell? ⟨w.heap.size, 1, none⟩ = some (.int .u64 a.w) ∧ w'.cell? ⟨w.heap.size, 2, none⟩ = some (.int .u64 a.x) ∧ w'.cell? ⟨w.heap.size, 3, none⟩ = some (.int .i64 a.fr) ∧ w'.cell? ⟨w.heap.size, 4, none⟩ = some (.int .i64 a.fm) ∧ w'.cell? ⟨(w.heap.size + 1), 0, none⟩ = some (.int .i8 b.k) ∧ w'.cell? ⟨(w.heap.size + 1), 1, none⟩ = some (.int .u64 b.w) ∧ w'.cell? ⟨(w.heap.size + 1), 2, none⟩ = some (.int .u64 b.x) ∧ w'.cell? ⟨(w.heap.size + 1), 3, none⟩ = some (.int .i64 b.fr) ∧ w'.cell? ⟨(w.heap.size + 1), 4, none⟩ = some (.int .i64 b.fm)) (by kernel_rfl) HS.out (fun hHeld => ?_)
  clear HS
  refine wpAnyH_take (i := 0) (oi := ?p0y1) (v := ?v0y1) ?o0y1 (by kernel_rfl) (by kernel_rfl) (by kernel_rfl) ?q0y1 ?y0y1 (by assumption) ?r0y1
  case o0y1 => (simp only [List.getElem?_toArray, List.getElem?_cons_zero]; rfl)
  case q0y1 => (exact fun _ _ _ h => h)
  case y0y1 => (refine Or.inl ⟨by rfl, ?_⟩; intro w hSw; (try dsimp only at hSw); go_simp; (try with_reducible rfl))
  simp only [Act.put, List.setIfInBounds_toArray, List.set_cons_zero, List.set_cons_succ]
  refine wpAnyH_take (i := 2) (oi := ?p2y2) (v := ?v2y2) ?o2y2 (by kernel_rfl) (by kernel_rfl) (by kernel_rfl) ?q2y2 ?y2y2 (by assumption) ?r2y2
  case o2y2 => (simp only [List.getElem?_toArray, List.getElem?_cons_succ, List.getElem?_cons_zero]; rfl)
  case q2y2 => (exact fun _ _ _ h => h)
  case y2y2 => (refine Or.inl ⟨by rfl, ?_⟩; intro w hSw; (try dsimp only at hSw); go_simp; (try with_reducible rfl))
  simp only [Act.put, List.setIfInBounds_toArray, List.set_cons_zero, List.set_cons_succ]
  refine wpAnyH_ready (rs := [1]) (by kernel_rfl) (by simp) ?_
  refine AllReadyH.cons (o := ?pc3) ?oc3 (fun K hK => ?wc3) AllReadyH.nil
  case oc3 => (simp only [List.getElem?_toArray, List.getElem?_cons_succ, List.getElem?_cons_zero]; rfl)
  rw [if_pos (by rfl)]
  go_simp
  refine (HC.out _ KD.out).mono ?_; rintro r y1 ⟨rfl, hg⟩
  (try go_wp2_with fail)
  have hH' := tb_kp hHeld hg
  have Y1 := Lib.hid (Kp.trans KD.out hg)
  refine hK.out _ _ hH' (fun hHeld2 => ?_)
  clear hK K hg hH' hHeld
  have hHeld := hHeld2
  clear hHeld2
  refine wpAnyH_ready (rs := [3]) (by kernel_rfl) (by simp) ?_
  refine AllReadyH.cons (o := ?pc4) ?oc4 (fun K hK => ?wc4) AllReadyH.nil
  case oc4 => (simp only [List.getElem?_toArray, List.getElem?_cons_succ, List.getElem?_cons_zero]; rfl)
  rw [if_pos (by rfl)]
  go_simp
  refine (HRC.out _ Y1.out).mono ?_; rintro r y2 ⟨rfl, hg⟩
  (try go_wp2_with fail)
  have hH' := tb_kp hHeld hg
  have Y2 := Lib.hid (Kp.trans Y1.out hg)
  refine hK.out _ _ hH' (fun hHeld2 => ?_)
  clear hK K hg hH' hHeld
  have hHeld := hHeld2
  clear hHeld2
  refine wpAnyH_take (i := 4) (oi := ?p4y5) (v := ?v4y5) ?o4y5 (by kernel_rfl) (by kernel_rfl) (by kernel_rfl) ?q4y5 ?y4y5 (by assumption) ?r4y5
  case o4y5 => (simp only [List.getElem?_toArray, List.getElem?_cons_succ, List.getElem?_cons_zero]; rfl)
  case q4y5 => (exact fun _ _ _ h => h)
  case y4y5 => (refine Or.inl ⟨by rfl, ?_⟩; intro w hSw; (try dsimp only at hSw); go_simp; (try with_reducible rfl))
  simp only [Act.put, List.setIfInBounds_toArray, List.set_cons_zero, List.set_cons_succ]
  refine wpAnyH_take (i := 5) (oi := ?p5y6) (v := ?v5y6) ?o5y6 (by kernel_rfl) (by kernel_rfl) (by kernel_rfl) ?q5y6 ?y5y6 (by assumption) ?r5y6
  case o5y6 => (simp only [List.getElem?_toArray, List.getElem?_cons_succ, List.getElem?_cons_zero]; rfl)
  case q5y6 => (exact fun _ _ _ h => h)
  case y5y6 => (refine Or.inl ⟨by rfl, ?_⟩; intro w hSw; (try dsimp only at hSw); go_simp; (try with_reducible rfl))
  simp only [Act.put, List.setIfInBounds_toArray, List.set_cons_zero, List.set_cons_succ]
  refine wpAnyH_take (i := 6) (oi := ?p6y7) (v := ?v6y7) ?o6y7 (by kernel_rfl) (by kernel_rfl) (by kernel_rfl) ?q6y7 ?y6y7 (by assumption) ?r6y7
  case o6y7 => (simp only [List.getElem?_toArray, List.getElem?_cons_succ, List.getElem?_cons_zero]; rfl)
  case q6y7 => (exact fun _ _ _ h => h)
  case y6y7 => (refine Or.inl ⟨by rfl, ?_⟩; intro w hSw; (try dsimp only at hSw); go_simp; (try with_reducible rfl))
  simp only [Act.put, List.setIfInBounds_toArray, List.set_cons_zero, List.set_cons_succ]
  refine wpAnyH_take (i := 7) (oi := ?p7y8) (v := ?v7y8) ?o7y8 (by kernel_rfl) (by kernel_rfl) (by kernel_rfl) ?q7y8 ?y7y8 (by assumption) ?r7y8
  case o7y8 => (simp only [List.getElem?_toArray, List.getElem?_cons_succ, List.getElem?_cons_zero]; rfl)
  case q7y8 => (exact fun _ _ _ h => h)
  case y7y8 => (refine Or.inl ⟨by rfl, ?_⟩; intro w hSw; (try dsimp only at hSw); go_simp; (try with_reducible rfl))
  simp only [Act.put, List.setIfInBounds_toArray, List.set_cons_zero, List.set_cons_succ]
  refine wpAnyH_take (i := 9) (oi := ?p9y9) (v := ?v9y9) ?o9y9 (by kernel_rfl) (by kernel_rfl) (by kernel_rfl) ?q9y9 ?y9y9 (by assumption) ?r9y9
  case o9y9 => (simp only [List.getElem?_toArray, List.getElem?_cons_succ, List.getElem?_cons_zero]; rfl)
  case q9y9 => (exact fun _ _ _ h => h)
  case y9y9 => (refine Or.inl ⟨by rfl, ?_⟩; intro w hSw; (try dsimp only at hSw); go_simp; (try with_reducible rfl))
  simp only [Act.put, List.setIfInBounds_toArray, List.set_cons_zero, List.set_cons_succ]
  refine wpAnyH_take (i := 10) (oi := ?p10y10) (v := ?v10y10) ?o10y10 (by kernel_rfl) (by kernel_rfl) (by kernel_rfl) ?q10y10 ?y10y10 (by assumption) ?r10y10
  case o10y10 => (simp only [List.getElem?_toArray, List.getElem?_cons_succ, List.getElem?_cons_zero]; rfl)
  case q10y10 => (exact fun _ _ _ h => h)
  case y10y10 => (refine Or.inl ⟨by rfl, ?_⟩; intro w hSw; (try dsimp only at hSw); go_simp; (try with_reducible rfl))
  simp only [Act.put, List.setIfInBounds_toArray, List.set_cons_zero, List.set_cons_succ]
  refine wpAnyH_ready (rs := [8]) (by kernel_rfl) (by simp) ?_
  refine AllReadyH.cons (o := ?pc11) ?oc11 (fun K hK => ?wc11) AllReadyH.nil
  case oc11 => (simp only [List.getElem?_toArray, List.getElem?_cons_succ, List.getElem?_cons_zero]; rfl)
  rw [if_pos (by rfl)]
  go_simp
  refine (HM.out _ Y2.out).mono ?_; rintro r y3 ⟨rfl, hg⟩
  (try go_wp2_with fail)
  have hH' := tb_kp hHeld hg
  have Y3 := Lib.hid (Kp.trans Y2.out hg)
  refine hK.out _ _ hH' (fun hHeld2 => ?_)
  clear hK K hg hH' hHeld
  have hHeld := hHeld2
  clear hHeld2
  refine wpAnyH_ready (rs := [11]) (by kernel_rfl) (by simp) ?_
  refine AllReadyH.cons (o := ?pc12) ?oc12 (fun K hK => ?wc12) AllReadyH.nil
  case oc12 => (simp only [List.getElem?_toArray, List.getElem?_cons_succ, List.getElem?_cons_zero]; rfl)
  rw [if_pos (by rfl)]
  go_simp
  refine (HRM.out _ Y3.out).mono ?_; rintro r y4 ⟨rfl, hg⟩
  (try go_wp2_with fail)
  have hH' := tb_kp hHeld hg
  have Y4 := Lib.hid (Kp.trans Y3.out hg)
  refine hK.out _ _ hH' (fun hHeld2 => ?_)
  clear hK K hg hH' hHeld
  have hHeld := hHeld2
  clear hHeld2
  refine wpAnyH_take (i := 12) (oi := ?p12y13) (v := ?v12y13) ?o12y13 (by kernel_rfl) (by kernel_rfl) (by kernel_rfl) ?q12y13 ?y12y13 (by assumption) ?r12y13
  case o12y13 => (simp only [List.getElem?_toArray, List.getElem?_cons_succ, List.getElem?_cons_zero]; rfl)
  case q12y13 => (exact fun _ _ _ h => h)
  case y12y13 => (refine Or.inl ⟨by rfl, ?_⟩; intro w hSw; (try dsimp only at hSw); go_simp; (try with_reducible rfl))
  simp only [Act.put, List.setIfInBounds_toArray, List.set_cons_zero, List.set_cons_succ]
  refine wpAnyH_take (i := 13) (oi := ?p13y14) (v := ?v13y14) ?o13y14 (by kernel_rfl) (by kernel_rfl) (by kernel_rfl) ?q13y14 ?y13y14 (by assumption) ?r13y14
  case o13y14 => (simp only [List.getElem?_toArray, List.getElem?_cons_succ, List.getElem?_cons_zero]; rfl)
  case q13y14 => (exact fun _ _ _ h => h)
  case y13y14 => (refine Or.inl ⟨by rfl, ?_⟩; intro w hSw; (try dsimp only at hSw); go_simp; (try with_reducible rfl))
  simp only [Act.put, List.setIfInBounds_toArray, List.set_cons_zero, List.set_cons_succ]
  refine wpAnyH_take (i := 14) (oi := ?p14y15) (v := ?v14y15) ?o14y15 (by kernel_rfl) (by kernel_rfl) (by kernel_rfl) ?q14y15 ?y14y15 (by assumption) ?r14y15
  case o14y15 => (simp only [List.getElem?_toArray, List.getElem?_cons_succ, List.getElem?_cons_zero]; rfl)
  case q14y15 => (exact fun _ _ _ h => h)
  case y14y15 => (refine Or.inl ⟨by rfl, ?_⟩; intro w hSw; (try dsimp only at hSw); go_simp; (try with_reducible rfl))
  simp only [Act.put, List.setIfInBounds_toArray, List.set_cons_zero, List.set_cons_succ]
  refine wpAnyH_take (i := 15) (oi := ?p15y16) (v := ?v15y16) ?o15y16 (by kernel_rfl) (by kernel_rfl) (by kernel_rfl) ?q15y16 ?y15y16 (by assumption) ?r15y16
  case o15y16 => (simp only [List.getElem?_toArray, List.getElem?_cons_succ, List.getElem?_cons_zero]; rfl)
  case q15y16 => (exact fun _ _ _ h => h)
  case y15y16 => (refine Or.inl ⟨by rfl, ?_⟩; intro w hSw; (try dsimp only at hSw); go_simp; (try with_reducible rfl))
  simp only [Act.put, List.setIfInBounds_toArray, List.set_cons_zero, List.set_cons_succ]
  refine wpAnyH_take (i := 16) (oi := ?p16y17) (v := ?v16y17) ?o16y17 (by kernel_rfl) (by kernel_rfl) (by kernel_rfl) ?q16y17 ?y16y17 (by assumption) ?r16y17
  case o16y17 => (simp only [List.getElem?_toArray, List.getElem?_cons_succ, List.getElem?_cons_zero]; rfl)
  case q16y17 => (exact fun _ _ _ h => h)
  case y16y17 => (refine Or.inl ⟨by rfl, ?_⟩; intro w hSw; (try dsimp only at hSw); go_simp; (try with_reducible rfl))
  simp only [Act.put, List.setIfInBounds_toArray, List.set_cons_zero, List.set_cons_succ]
  refine wpAnyH_take (i := 18) (oi := ?p18y18) (v := ?v18y18) ?o18y18 (by kernel_rfl) (by kernel_rfl) (by kernel_rfl) ?q18y18 ?y18y18 (by assumption) ?r18y18
  case o18y18 => (simp only [List.getElem?_toArray, List.getElem?_cons_succ, List.getElem?_cons_zero]; rfl)
  case q18y18 => (exact fun _ _ _ h => h)
  case y18y18 => (refine Or.inl ⟨by rfl, ?_⟩; intro w hSw; (try dsimp only at hSw); go_simp; (try with_reducible rfl))
  simp only [Act.put, List.setIfInBounds_toArray, List.set_cons_zero, List.set_cons_succ]
  refine wpAnyH_take (i := 19) (oi := ?p19y19) (v := ?v19y19) ?o19y19 (by kernel_rfl) (by kernel_rfl) (by kernel_rfl) ?q19y19 ?y19y19 (by assumption) ?r19y19
  case o19y19 => (simp only [List.getElem?_toArray, List.getElem?_cons_succ, List.getElem?_cons_zero]; rfl)
  case q19y19 => (exact fun _ _ _ h => h)
  case y19y19 => (refine Or.inl ⟨by rfl, ?_⟩; intro w hSw; (try dsimp only at hSw); go_simp; (try with_reducible rfl))
  simp only [Act.put, List.setIfInBounds_toArray, List.set_cons_zero, List.set_cons_succ]
  refine wpAnyH_ready (rs := [17]) (by kernel_rfl) (by simp) ?_
  refine AllReadyH.cons (o := ?pc20) ?oc20 (fun K hK => ?wc20) AllReadyH.nil
  case oc20 => (simp only [List.getElem?_toArray, List.getElem?_cons_succ, List.getElem?_cons_zero]; rfl)
  rw [if_pos (by rfl)]
  go_simp
  refine (HTo.out _ Y4.out).mono ?_; rintro r y5 ⟨rfl, hg⟩
  (try go_wp2_with fail)
  have hH' := tb_kp hHeld hg
  have Y5 := Lib.hid (Kp.trans Y4.out hg)
  refine hK.out _ _ hH' (fun hHeld2 => ?_)
  clear hK K hg hH' hHeld
  have hHeld := hHeld2
  clear hHeld2
  refine wpAnyH_ready (rs := [20]) (by kernel_rfl) (by simp) ?_
  refine AllReadyH.cons (o := ?pc21) ?oc21 (fun K hK => ?wc21) AllReadyH.nil
  case oc21 => (simp only [List.getElem?_toArray, List.getElem?_cons_succ, List.getElem?_cons_zero]; rfl)
  rw [if_pos (by rfl)]
  go_simp
  refine (HRT.out _ Y5.out).mono ?_; rintro r y6 ⟨rfl, hg⟩
  (try go_wp2_with fail)
  have hH' := tb_kp hHeld hg
  have Y6 := Lib.hid (Kp.trans Y5.out hg)
  refine hK.out _ _ hH' (fun hHeld2 => ?_)
  clear hK K hg hH' hHeld
  have hHeld := hHeld2
  clear hHeld2
  refine wpAnyH_take (i := 21) (oi := ?p21y22) (v := ?v21y22) ?o21y22 (by kernel_rfl) (by kernel_rfl) (by kernel_rfl) ?q21y22 ?y21y22 (by assumption) ?r21y22
  case o21y22 => (simp only [List.getElem?_toArray, List.getElem?_cons_succ, List.getElem?_cons_zero]; rfl)
  case q21y22 => (exact fun _ _ _ h => h)
  case y21y22 => (refine Or.inl ⟨by rfl, ?_⟩; intro w hSw; (try dsimp only at hSw); go_simp; (try with_reducible rfl))
  simp only [Act.put, List.setIfInBounds_toArray, List.set_cons_zero, List.set_cons_succ]
  refine wpAnyH_take (i := 22) (oi := ?p22y23) (v := ?v22y23) ?o22y23 (by kernel_rfl) (by kernel_rfl) (by kernel_rfl) ?q22y23 ?y22y23 (by assumption) ?r22y23
  case o22y23 => (simp only [List.getElem?_toArray, List.getElem?_cons_succ, List.getElem?_cons_zero]; rfl)
  case q22y23 => (exact fun _ _ _ h => h)
  case y22y23 => (refine Or.inl ⟨by rfl, ?_⟩; intro w hSw; (try dsimp only at hSw); go_simp; (try with_reducible rfl))
  simp only [Act.put, List.setIfInBounds_toArray, List.set_cons_zero, List.set_cons_succ]
  refine wpAnyH_take (i := 23) (oi := ?p23y24) (v := ?v23y24) ?o23y24 (by kernel_rfl) (by kernel_rfl) (by kernel_rfl) ?q23y24 ?y23y24 (by assumption) ?r23y24
  case o23y24 => (simp only [List.getElem?_toArray, List.getElem?_cons_succ, List.getElem?_cons_zero]; rfl)
  case q23y24 => (exact fun _ _ _ h => h)
  case y23y24 => (refine Or.inl ⟨by rfl, ?_⟩; intro w hSw; (try dsimp only at hSw); go_simp; (try with_reducible rfl))
  simp only [Act.put, List.setIfInBounds_toArray, List.set_cons_zero, List.set_cons_succ]
  refine wpAnyH_take (i := 24) (oi := ?p24y25) (v := ?v24y25) ?o24y25 (by kernel_rfl) (by kernel_rfl) (by kernel_rfl) ?q24y25 ?y24y25 (by assumption) ?r24y25
  case o24y25 => (simp only [List.getElem?_toArray, List.getElem?_cons_succ, List.getElem?_cons_zero]; rfl)
  case q24y25 => (exact fun _ _ _ h => h)
  case y24y25 => (refine Or.inl ⟨by rfl, ?_⟩; intro w hSw; (try dsimp only at hSw); go_simp; (try with_reducible rfl))
  simp only [Act.put, List.setIfInBounds_toArray, List.set_cons_zero, List.set_cons_succ]
  refine wpAnyH_take (i := 25) (oi := ?p25y26) (v := ?v25y26) ?o25y26 (by kernel_rfl) (by kernel_rfl) (by kernel_rfl) ?q25y26 ?y25y26 (by assumption) ?r25y26
  case o25y26 => (simp only [List.getElem?_toArray, List.getElem?_cons_succ, List.getElem?_cons_zero]; rfl)
  case q25y26 => (exact fun _ _ _ h => h)
  case y25y26 => (refine Or.inl ⟨by rfl, ?_⟩; intro w hSw; (try dsimp only at hSw); go_simp; (try with_reducible rfl))
  simp only [Act.put, List.setIfInBounds_toArray, List.set_cons_zero, List.set_cons_succ]
  refine wpAnyH_take (i := 27) (oi := ?p27y27) (v := ?v27y27) ?o27y27 (by kernel_rfl) (by kernel_rfl) (by kernel_rfl) ?q27y27 ?y27y27 (by assumption) ?r27y27
  case o27y27 => (simp only [List.getElem?_toArray, List.getElem?_cons_succ, List.getElem?_cons_zero]; rfl)
  case q27y27 => (exact fun _ _ _ h => h)
  case y27y27 => (refine Or.inl ⟨by rfl, ?_⟩; intro w hSw; (try dsimp only at hSw); go_simp; (try with_reducible rfl))
  simp only [Act.put, List.setIfInBounds_toArray, List.set_cons_zero, List.set_cons_succ]
  refine wpAnyH_take (i := 28) (oi := ?p28y28) (v := ?v28y28) ?o28y28 (by kernel_rfl) (by kernel_rfl) (by kernel_rfl) ?q28y28 ?y28y28 (by assumption) ?r28y28
  case o28y28 => (simp only [List.getElem?_toArray, List.getElem?_cons_succ, List.getElem?_cons_zero]; rfl)
  case q28y28 => (exact fun _ _ _ h => h)
  case y28y28 => (refine Or.inl ⟨by rfl, ?_⟩; intro w hSw; (try dsimp only at hSw); go_simp; (try with_reducible rfl))
  simp only [Act.put, List.setIfInBounds_toArray, List.set_cons_zero, List.set_cons_succ]
  refine wpAnyH_ready (rs := [26]) (by kernel_rfl) (by simp) ?_
  refine AllReadyH.cons (o := ?pc29) ?oc29 (fun K hK => ?wc29) AllReadyH.nil
  case oc29 => (simp only [List.getElem?_toArray, List.getElem?_cons_succ, List.getElem?_cons_zero]; rfl)
  rw [if_pos (by rfl)]
  go_simp
  refine (HTo.out _ Y6.out).mono ?_; rintro r y7 ⟨rfl, hg⟩
  (try go_wp2_with fail)
  have hH' := tb_kp hHeld hg
  have Y7 := Lib.hid (Kp.trans Y6.out hg)
  refine hK.out _ _ hH' (fun hHeld2 => ?_)
  clear hK K hg hH' hHeld
  have hHeld := hHeld2
  clear hHeld2
  refine wpAnyH_ready (rs := [29]) (by kernel_rfl) (by simp) ?_
  refine AllReadyH.cons (o := ?pc30) ?oc30 (fun K hK => ?wc30) AllReadyH.nil
  case oc30 => (simp only [List.getElem?_toArray, List.getElem?_cons_succ, List.getElem?_cons_zero]; rfl)
  rw [if_pos (by rfl)]
  go_simp
  refine (HTb.out _ Y7.out).mono ?_; rintro r y8 ⟨rfl, hg⟩
  (try go_wp2_with fail)
  have hH' := tb_kp hHeld hg
  have Y8 := Lib.hid (Kp.trans Y7.out hg)
  refine hK.out _ _ hH' (fun hHeld2 => ?_)
  clear hK K hg hH' hHeld
  have hHeld := hHeld2
  clear hHeld2
  refine wpAnyH_take (i := 30) (oi := ?p30y31) (v := ?v30y31) ?o30y31 (by kernel_rfl) (by kernel_rfl) (by kernel_rfl) ?q30y31 ?y30y31 (by assumption) ?r30y31
  case o30y31 => (simp only [List.getElem?_toArray, List.getElem?_cons_succ, List.getElem?_cons_zero]; rfl)
  case q30y31 => (exact fun _ _ _ h => h)
  case y30y31 => (refine Or.inl ⟨by rfl, ?_⟩; intro w hSw; (try dsimp only at hSw); go_simp; (try with_reducible rfl))
  simp only [Act.put, List.setIfInBounds_toArray, List.set_cons_zero, List.set_cons_succ]
  refine wpAnyH_take (i := 31) (oi := ?p31y32) (v := ?v31y32) ?o31y32 (by kernel_rfl) (by kernel_rfl) (by kernel_rfl) ?q31y32 ?y31y32 (by assumption) ?r31y32
  case o31y32 => (simp only [List.getElem?_toArray, List.getElem?_cons_succ, List.getElem?_cons_zero]; rfl)
  case q31y32 => (exact fun _ _ _ h => h)
  case y31y32 => (refine Or.inl ⟨by rfl, ?_⟩; intro w hSw; (try dsimp only at hSw); go_simp; (try with_reducible rfl))
  simp only [Act.put, List.setIfInBounds_toArray, List.set_cons_zero, List.set_cons_succ]
  refine wpAnyH_take (i := 32) (oi := ?p32y33) (v := ?v32y33) ?o32y33 (by kernel_rfl) (by kernel_rfl) (by kernel_rfl) ?q32y33 ?y32y33 (by assumption) ?r32y33
  case o32y33 => (simp only [List.getElem?_toArray, List.getElem?_cons_succ, List.getElem?_cons_zero]; rfl)
  case q32y33 => (exact fun _ _ _ h => h)
  case y32y33 => (refine Or.inl ⟨by rfl, ?_⟩; intro w hSw; (try dsimp only at hSw); go_simp; (try with_reducible rfl))
  simp only [Act.put, List.setIfInBounds_toArray, List.set_cons_zero, List.set_cons_succ]
  refine wpAnyH_ready (rs := [33]) (by kernel_rfl) (by simp) ?_
  refine AllReadyH.cons (o := ?pc34) ?oc34 (fun K hK => ?wc34) AllReadyH.nil
  case oc34 => (simp only [List.getElem?_toArray, List.getElem?_cons_succ, List.getElem?_cons_zero]; rfl)
  rw [if_pos (by rfl)]
  go_simp
  refine (HWk.out _ Y8.out).mono ?_; rintro r y9 ⟨rfl, hg⟩
  (try go_wp2_with fail)
  have hH' := tb_kp hHeld hg
  have Y9 := Lib.hid (Kp.trans Y8.out hg)
  refine hK.out _ _ hH' (fun hHeld2 => ?_)
  clear hK K hg hH' hHeld
  have hHeld := hHeld2
  clear hHeld2
  refine wpAnyH_take (i := 34) (oi := ?p34y35) (v := ?v34y35) ?o34y35 (by kernel_rfl) (by kernel_rfl) (by kernel_rfl) ?q34y35 ?y34y35 (by assumption) ?r34y35
  case o34y35 => (simp only [List.getElem?_toArray, List.getElem?_cons_succ, List.getElem?_cons_zero]; rfl)
  case q34y35 => (exact fun _ _ _ h => h)
  case y34y35 => (refine Or.inl ⟨by rfl, ?_⟩; intro w hSw; (try dsimp only at hSw); go_simp; (try with_reducible rfl))
  simp only [Act.put, List.setIfInBounds_toArray, List.set_cons_zero, List.set_cons_succ]
  refine wpAnyH_take (i := 35) (oi := ?p35y36) (v := ?v35y36) ?o35y36 (by kernel_rfl) (by kernel_rfl) (by kernel_rfl) ?q35y36 ?y35y36 (by assumption) ?r35y36
  case o35y36 => (simp only [List.getElem?_toArray, List.getElem?_cons_succ, List.getElem?_cons_zero]; rfl)
  case q35y36 => (exact fun _ _ _ h => h)
  case y35y36 => (refine Or.inl ⟨by rfl, ?_⟩; intro w hSw; (try dsimp only at hSw); go_simp; (try with_reducible rfl))
  simp only [Act.put, List.setIfInBounds_toArray, List.set_cons_zero, List.set_cons_succ]
  refine wpAnyH_done (by kernel_rfl) ?_ _
  clear hHeld
  go_wp2_with fail
  go_ret
  exact ⟨rfl, Y9.out⟩
end Go.Proofs.YtgjjbgijdgihcaaDoor
