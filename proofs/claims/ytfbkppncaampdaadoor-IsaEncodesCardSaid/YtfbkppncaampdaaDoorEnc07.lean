/-
  Package isa: an instruction's values, write, Encode. No condition but the tables.
-/
import Derived.Test.YtfbkppncaampdaaDoorWr07
import Derived.Deep.DeepCutAuto
import Derived.LoopN
namespace Go.Proofs.YtfbkppncaampdaaDoor
open Go Go.RowKit

def valV (d n m imm : Int) : Array Value := #[.int .i64 d, .int .i64 n, .int .i64 m, .int .i64 imm]
def insV (op d n m imm : Int) : Array Value := #[.int .i8 op, .int .i8 d, .int .i8 n, .int .i8 m, .int .i64 imm]
theorem values_any (op d n m imm : Int) (w : World) (hd : -128 ≤ d ∧ d < 128) (hn : -128 ≤ n ∧ n < 128) (hm : -128 ≤ m ∧ m < 128) :
    Calls Tryd.prog 24 #[.agg (insV op d n m imm)] w fun e w' => e = .returned (.agg (valV d n m imm)) ∧ Kp w w' := by
  have D1 := hd.1
  have D2 := hd.2
  have N1 := hn.1
  have N2 := hn.2
  have M1 := hm.1
  have M2 := hm.2
  clear hd hn hm
  unfold insV
  go_enter Tryd.func24, Tryd.ntmps24
  go_wp2
  refine bodyPost_ret (results_cell_row rfl _ _ _ _ _ _ _ rfl (Blk.new2 w _ _ _) Tryd.underlying67 rfl (by kernel_rfl)) rfl ?_
  exact ⟨rfl, (kpA _ _ _).alloc _ _⟩
/-! The part at a place. -/
def prt (o k : Nat) : Array Value := #[.int .i64 (pLo o k), .int .i64 (pWd o k), .bool (pS o k)]
theorem prt_at (o k : Nat) (hk : k < 4) (w : World) : (Instr.index 70 (.agg (prtV o)) (.int .i64 k)).run Tryd.prog w = .ok (.agg (prt o k)) w := by
  obtain rfl | rfl | rfl | rfl : k = 0 ∨ k = 1 ∨ k = 2 ∨ k = 3 := by omega
  all_goals
    refine index_agg (s := 3) Tryd.underlying70 Tryd.underlying60 rfl (by kernel_rfl) _ _ rfl (by decide) ?_ w
    simp [prtV, prt, pS]
/-! write -/
def WB (w w' : World) (o : Nat) (op d n m imm : Int) : Prop := Blk w' w.heap.size (fmtV o) 62 ∧ Blk w' (w.heap.size + 1) (insV op d n m imm) 25 ∧ Kp w w'
theorem WB.kp {w w1 w2 : World} {o : Nat} {op d n m imm : Int} (h : WB w w1 o op d n m imm) (g : Kp w1 w2) : WB w w2 o op d n m imm := ⟨h.1.kp g, h.2.1.kp g, h.2.2.trans g⟩
theorem Blk.setRowO {w : World} {b g : Nat} {cs : Array Value} {t : TypeId} (h : Blk w b cs t) (cs' : Array Value) (hb : b ≠ g) : Blk (w.setRow g cs') b cs t := (setRow_other w g b cs' hb).trans h
theorem WB.set {w w1 : World} {o : Nat} {op d n m imm : Int} (h : WB w w1 o op d n m imm) (B : Nat) (cs : Array Value) (hB : w.heap.size + 1 < B) : WB w (w1.setRow B cs) o op d n m imm := ⟨h.1.setRowO cs (by omega), h.2.1.setRowO cs (by omega), h.2.2.setRow (by omega) cs⟩
theorem WB.new (w : World) (o : Nat) (op d n m imm : Int) : WB w ((w.alloc (.cells (fmtV o) 62)).alloc (.cells (insV op d n m imm) 25)) o op d n m imm := ⟨(Blk.new w _ _).alloc _, Blk.new2 w _ _ _, (kpA _ _ _).alloc _ _⟩
theorem WB.cells {w w' : World} {o : Nat} {op d n m imm : Int} (h : WB w w' o op d n m imm) : w'.cell? ⟨w.heap.size, 1, none⟩ = some (.int .u32 (fW o)) ∧ w'.cell? ⟨w.heap.size + 1, 0, none⟩ = some (.int .i8 op) ∧ w'.cell? ⟨w.heap.size + 1, 1, none⟩ = some (.int .i8 d) ∧ w'.cell? ⟨w.heap.size + 1, 2, none⟩ = some (.int .i8 n) ∧ w'.cell? ⟨w.heap.size + 1, 3, none⟩ = some (.int .i8 m) ∧ w'.cell? ⟨w.heap.size + 1, 4, none⟩ = some (.int .i64 imm) ∧ WB w w' o op d n m imm := ⟨h.1.cell 1, h.2.1.cell 0, h.2.1.cell 1, h.2.1.cell 2, h.2.1.cell 3, h.2.1.cell 4, h⟩
def RndAt (wk w' : World) (B : Nat) (o k : Nat) (v : Value) : Prop := w'.cell? ⟨wk.heap.size, 0, none⟩ = some (.int .i64 (pLo o k)) ∧ w'.cell? ⟨wk.heap.size, 1, none⟩ = some (.int .i64 (pWd o k)) ∧ w'.cell? ⟨wk.heap.size, 2, none⟩ = some (.bool (pS o k)) ∧ w'.cell? ⟨B, k, none⟩ = some v ∧ wk.heap.size < w'.heap.size ∧ B < wk.heap.size ∧ Kp wk w'
theorem RndAt.kp {wk w1 w2 : World} {B o k : Nat} {v : Value} (h : RndAt wk w1 B o k v) (g : Kp w1 w2) : RndAt wk w2 B o k v := by
  obtain ⟨h0, h1, h2, h3, h4, h5, h6⟩ := h
  exact ⟨(g.cell h4).trans h0, (g.cell h4).trans h1, (g.cell h4).trans h2, (g.cell (by omega)).trans h3, Nat.lt_of_lt_of_le h4 g.size, h5, h6.trans g⟩
theorem RndAt.drew {wk w1 : World} {B o k : Nat} {v : Value} (h : RndAt wk w1 B o k v) : RndAt wk w1.drew B o k v := h.kp (Kp.refl _).drew
theorem RndAt.new (wk : World) (B o k : Nat) (v : Value) (hb : B < wk.heap.size) (h : (wk.alloc (.cells (prt o k) 60)).cell? ⟨B, k, none⟩ = some v) : RndAt wk (wk.alloc (.cells (prt o k) 60)) B o k v := by
  have b := Blk.new wk (prt o k) 60
  exact ⟨b.cell 0, b.cell 1, b.cell 2, h, b.lt, hb, kpA _ _ _⟩
set_option maxRecDepth 20000 in
set_option maxHeartbeats 2000000 in
theorem write_any (o : Nat) (op d n m imm : Int) (w : World) (ho : o < 19) (hd : -128 ≤ d ∧ d < 128) (hn : -128 ≤ n ∧ n < 128) (hm : -128 ≤ m ∧ m < 128) :
    Calls Tryd.prog 20 #[.agg (fmtV o), .agg (insV op d n m imm)] w fun e w' => e = .returned (.int .u32 (wrTo o d n m imm 4)) ∧ Kp w w' := by
  have HV := Lib.hid (fun w => values_any op d n m imm w hd hn hm)
  have HC := Lib.hid (WB.new w o op d n m imm)
  have HO := Lib.hid ho
  clear hd hn hm ho
  unfold insV fmtV at HC
  unfold insV fmtV
  go_enter Tryd.func20, Tryd.ntmps20
  go_upto_region 1 with fail
  go_cut [5, 6] from 7 (fun s5 s6 wx => s5 = .int .u32 (fW o) ∧ ∃ B, s6 = .pointer (some ⟨B, 0, none⟩) ∧ Blk wx B (valV d n m imm) 67 ∧ w.heap.size + 1 < B ∧ WB w wx o op d n m imm)
  case first =>
    refine wp_region_held_drew (S := fun w' => w'.cell? ⟨w.heap.size, 1, none⟩ = some (.int .u32 (fW o)) ∧ w'.cell? ⟨w.heap.size + 1, 0, none⟩ = some (.int .i8 op) ∧ w'.cell? ⟨w.heap.size + 1, 1, none⟩ = some (.int .i8 d) ∧ w'.cell? ⟨w.heap.size + 1, 2, none⟩ = some (.int .i8 n) ∧ w'.cell? ⟨w.heap.size + 1, 3, none⟩ = some (.int .i8 m) ∧ w'.cell? ⟨w.heap.size + 1, 4, none⟩ = some (.int .i64 imm) ∧ WB w w' o op d n m imm) (by kernel_rfl) (WB.cells (WB.kp HC.out (Kp.refl _).drew)) (fun hHeld => ?_)
    refine wpAnyH_take (i := 0) (oi := ?p0) (v := ?v0) ?o0 (by kernel_rfl) (by kernel_rfl) (by kernel_rfl) ?q0 ?y0 (by assumption) ?r0
    case o0 => (simp only [List.getElem?_toArray, List.getElem?_cons_zero]; rfl)
    case q0 => (exact fun _ _ _ h => h)
    case y0 => (refine Or.inl ⟨by rfl, ?_⟩; intro w hSw; (try dsimp only at hSw); go_simp; (try with_reducible rfl))
    simp only [Act.put, List.setIfInBounds_toArray, List.set_cons_zero, List.set_cons_succ]
    refine wpAnyH_take (i := 1) (oi := ?p1) (v := ?v1) ?o1 (by kernel_rfl) (by kernel_rfl) (by kernel_rfl) ?q1 ?y1 (by assumption) ?r1
    case o1 => (simp only [List.getElem?_toArray, List.getElem?_cons_succ, List.getElem?_cons_zero]; rfl)
    case q1 => (exact fun _ _ _ h => h)
    case y1 => (refine Or.inl ⟨by rfl, ?_⟩; intro w hSw; (try dsimp only at hSw); go_simp; (try with_reducible rfl))
    simp only [Act.put, List.setIfInBounds_toArray, List.set_cons_zero, List.set_cons_succ]
    refine wpAnyH_take (i := 2) (oi := ?p2) (v := ?v2) ?o2 (by kernel_rfl) (by kernel_rfl) (by kernel_rfl) ?q2 ?y2 (by assumption) ?r2
    case o2 => (simp only [List.getElem?_toArray, List.getElem?_cons_succ, List.getElem?_cons_zero]; rfl)
    case q2 => (exact fun _ _ _ h => h)
    case y2 => (refine Or.inl ⟨by rfl, ?_⟩; intro w hSw; (try dsimp only at hSw); go_simp; (try with_reducible rfl))
    simp only [Act.put, List.setIfInBounds_toArray, List.set_cons_zero, List.set_cons_succ]
    refine wpAnyH_ready (rs := [3, 4]) (by kernel_rfl) (by simp) ?_
    refine AllReadyH.cons (o := ?p3) ?o3 (fun K hK => ?w3) (AllReadyH.cons (o := ?p4) ?o4 (fun K hK => ?w4) AllReadyH.nil)
    case o3 => (simp only [List.getElem?_toArray, List.getElem?_cons_succ, List.getElem?_cons_zero]; rfl)
    case o4 => (simp only [List.getElem?_toArray, List.getElem?_cons_succ, List.getElem?_cons_zero]; rfl)
    case w3 =>
      rw [if_pos (by rfl)]
      go_simp
      refine (HV.out _).mono ?_; rintro e w1 ⟨rfl, hg⟩
      (try go_wp2_with fail)
      refine hK.out _ _ (WB.cells (WB.kp hHeld.2.2.2.2.2.2 hg)) (fun hH2 => ?_)
      clear hK hg K
      refine wpAnyH_ready (rs := [4]) (by kernel_rfl) (by simp) ?_
      refine AllReadyH.cons (o := ?p4b) ?o4b (fun K hK => ?w4b) AllReadyH.nil
      case o4b => (simp only [List.getElem?_toArray, List.getElem?_cons_succ, List.getElem?_cons_zero]; rfl)
      rw [if_pos (by rfl)]
      go_simp
      have HS : Hid (w.heap.size + 1 < w1.heap.size) := Lib.hid hH2.2.2.2.2.2.2.2.1.lt
      refine hK.out _ _ (WB.cells (WB.kp hH2.2.2.2.2.2.2 (kpA _ _ _))) (fun hH3 => ?_)
      clear hK K
      refine wpAnyH_take (i := 5) (oi := ?p5a) (v := ?v5a) ?o5a (by kernel_rfl) (by kernel_rfl) (by kernel_rfl) ?q5a ?y5a (by assumption) ?r5a
      case o5a => (simp only [List.getElem?_toArray, List.getElem?_cons_succ, List.getElem?_cons_zero]; rfl)
      case q5a => (exact fun _ _ _ h => h)
      case y5a => (refine Or.inl ⟨by rfl, ?_⟩; intro w hSw; (try dsimp only at hSw); go_simp; (try with_reducible rfl))
      simp only [Act.put, List.setIfInBounds_toArray, List.set_cons_zero, List.set_cons_succ]
      refine wpAnyH_ready (rs := [6]) (by kernel_rfl) (by simp) ?_
      refine AllReadyH.cons (o := ?p6a) ?o6a (fun K hK => ?w6a) AllReadyH.nil
      case o6a => (simp only [List.getElem?_toArray, List.getElem?_cons_succ, List.getElem?_cons_zero]; rfl)
      rw [if_pos (by rfl)]
      refine wp_store_row 67 (.tmp 6) (.tmp 12) rfl w1.heap.size (valV d n m imm) rfl rfl _ _ (Blk.new w1 #[.int .i64 0, .int .i64 0, .int .i64 0, .int .i64 0] 67) (by kernel_rfl) rfl (by simp [valV, Value.oneCell']) ?_
      refine hK.out _ _ (WB.cells (WB.set hH3.2.2.2.2.2.2 _ (valV d n m imm) (by have := hH3.2.2.2.2.2.2.2.1.lt; have := HS.out; omega))) (fun hz => ?_)
      have HZ := Lib.hid hz; clear hz hK K
      refine wpAnyH_done (by kernel_rfl) ?_ _
      go_wp2_with fail
      go_meet
      case rel => exact ⟨rfl, _, rfl, Blk.setRow (Blk.new w1 #[.int .i64 0, .int .i64 0, .int .i64 0, .int .i64 0] 67) (valV d n m imm), by have := HS.out; omega, HZ.out.2.2.2.2.2.2⟩

    case w4 =>
      rw [if_pos (by rfl)]
      go_simp
      have hB2 := (Blk.new ((w.alloc (.cells (fmtV o) 62)).alloc (.cells (insV op d n m imm) 25)) #[.int .i64 0, .int .i64 0, .int .i64 0, .int .i64 0] 67).drew
      have hw2 := WB.cells ((WB.new w o op d n m imm).kp ((kpA _ #[.int .i64 0, .int .i64 0, .int .i64 0, .int .i64 0] 67).drew))
      simp at hB2
      unfold fmtV insV at hB2 hw2
      generalize World.drew _ = w1 at hB2 hw2 ⊢
      refine hK.out _ _ hw2 (fun hH2 => ?_)
      clear hK K hw2
      refine wpAnyH_ready (rs := [3]) (by kernel_rfl) (by simp) ?_
      refine AllReadyH.cons (o := ?p3c) ?o3c (fun K hK => ?w3c) AllReadyH.nil
      case o3c => (simp only [List.getElem?_toArray, List.getElem?_cons_succ, List.getElem?_cons_zero]; rfl)
      rw [if_pos (by rfl)]
      go_simp
      refine (HV.out _).mono ?_; rintro e w2 ⟨rfl, hg⟩
      (try go_wp2_with fail)
      have hB3 := hB2.kp hg
      have HS : Hid (w.heap.size + 1 < w.heap.size + 1 + 1) := Lib.hid (by omega)
      refine hK.out _ _ (WB.cells (WB.kp hH2.2.2.2.2.2.2 hg)) (fun hH3 => ?_)
      clear hK hg K
      refine wpAnyH_take (i := 5) (oi := ?p5c) (v := ?v5c) ?o5c (by kernel_rfl) (by kernel_rfl) (by kernel_rfl) ?q5c ?y5c (by assumption) ?r5c
      case o5c => (simp only [List.getElem?_toArray, List.getElem?_cons_succ, List.getElem?_cons_zero]; rfl)
      case q5c => (exact fun _ _ _ h => h)
      case y5c => (refine Or.inl ⟨by rfl, ?_⟩; intro w hSw; (try dsimp only at hSw); go_simp; (try with_reducible rfl))
      simp only [Act.put, List.setIfInBounds_toArray, List.set_cons_zero, List.set_cons_succ]
      refine wpAnyH_ready (rs := [6]) (by kernel_rfl) (by simp) ?_
      refine AllReadyH.cons (o := ?p6c) ?o6c (fun K hK => ?w6c) AllReadyH.nil
      case o6c => (simp only [List.getElem?_toArray, List.getElem?_cons_succ, List.getElem?_cons_zero]; rfl)
      rw [if_pos (by rfl)]
      refine wp_store_row 67 (.tmp 6) (.tmp 12) rfl (w.heap.size + 1 + 1) (valV d n m imm) rfl rfl _ _ hB3 (by kernel_rfl) rfl (by simp [valV, Value.oneCell']) ?_
      refine hK.out _ _ (WB.cells (WB.set hH3.2.2.2.2.2.2 _ (valV d n m imm) (by have := hH3.2.2.2.2.2.2.2.1.lt; have := HS.out; omega))) (fun hz => ?_)
      have HZ := Lib.hid hz; clear hz hK K
      refine wpAnyH_done (by kernel_rfl) ?_ _
      go_wp2_with fail
      go_meet
      case rel => exact ⟨rfl, _, rfl, Blk.setRow hB3 (valV d n m imm), by have := HS.out; omega, HZ.out.2.2.2.2.2.2⟩

  case rest =>
  obtain ⟨rfl, B, rfl, hB, hlt, hW⟩ := hcut
  have HF := Lib.hid hW.1
  have H0' := Lib.hid hW.2.2
  have HB := Lib.hid hB
  clear hW hB HC
  rename World => wc
  go_wp2_with (first | (refine wpList_load_row rfl 62 (.tmp 2) rfl w.heap.size rfl _ _ _ _ HF.out Tryd.underlying62 rfl (by kernel_rfl) ?_) | (go_at_call 25; refine (parts_any7 o _).mono ?_; rintro e w0 ⟨rfl, hg⟩; have H0 : Hid (Blk w0 B (valV d n m imm) 67 ∧ Kp w w0) := Lib.hid ⟨HB.out.kp hg, H0'.out.trans hg⟩; clear hg))
  refine wp_loop_rounds 5 ?_
  go_wp2_with fail
  rw [rounds_succ]
  have i0 : ∀ w, (Instr.index 70 (.agg (prtV o)) (.int .i64 0)).run Tryd.prog w = .ok (.agg #[.int .i64 (pLo o 0), .int .i64 (pWd o 0), .bool (pS o 0)]) w := prt_at o 0 (by decide)
  have hn0 := RndAt.new w0 B o 0 _ (H0.out.1.lt) ((H0.out.1.kp (kpA _ _ _)).cell 0)
  have N0 := Lib.hid hn0
  clear hn0
  go_wp2_with fail
  go_region_held3 (fun w' => w'.cell? ⟨w0.heap.size, 0, none⟩ = some (.int .i64 (pLo o 0)) ∧ w'.cell? ⟨w0.heap.size, 1, none⟩ = some (.int .i64 (pWd o 0)) ∧ w'.cell? ⟨w0.heap.size, 2, none⟩ = some (.bool (pS o 0)) ∧ w'.cell? ⟨B, 0, none⟩ = some (.int .i64 (vAt d n m imm 0)) ∧ w0.heap.size < w'.heap.size ∧ B < w0.heap.size ∧ Kp w0 w')
      (first | exact N0.out.drew | assumption | exact RndAt.drew (by assumption))
      (first | (go_at_call 37; rename_i hh _ _; refine (put_any _ _ _ _ _ _ (wrTo_lt o d n m imm HO.out 0 (by decide)) (prt_ok o 0 HO.out (by decide)).1 (prt_ok o 0 HO.out (by decide)).2.1).mono ?_; rintro e w' ⟨rfl, hg⟩; have hh' := RndAt.kp hh hg; clear hh hg))
  rename_i hh
  rename World => w1
  have H1 : Hid (Blk w1 B (valV d n m imm) 67 ∧ Kp w w1) := Lib.hid ⟨H0.out.1.kp hh.2.2.2.2.2.2, H0.out.2.trans hh.2.2.2.2.2.2⟩
  clear hh i0 N0
  rw [show putN (wrTo o d n m imm 0) (pLo o 0) (pWd o 0) (vAt d n m imm 0) = wrTo o d n m imm 1 from rfl]
  go_wp2_with fail
  rw [rounds_succ]
  have i1 : ∀ w, (Instr.index 70 (.agg (prtV o)) (.int .i64 1)).run Tryd.prog w = .ok (.agg #[.int .i64 (pLo o 1), .int .i64 (pWd o 1), .bool (pS o 1)]) w := prt_at o 1 (by decide)
  have hn1 := RndAt.new w1 B o 1 _ (H1.out.1.lt) ((H1.out.1.kp (kpA _ _ _)).cell 1)
  have N1 := Lib.hid hn1
  clear hn1
  go_wp2_with fail
  go_region_held3 (fun w' => w'.cell? ⟨w1.heap.size, 0, none⟩ = some (.int .i64 (pLo o 1)) ∧ w'.cell? ⟨w1.heap.size, 1, none⟩ = some (.int .i64 (pWd o 1)) ∧ w'.cell? ⟨w1.heap.size, 2, none⟩ = some (.bool (pS o 1)) ∧ w'.cell? ⟨B, 1, none⟩ = some (.int .i64 (vAt d n m imm 1)) ∧ w1.heap.size < w'.heap.size ∧ B < w1.heap.size ∧ Kp w1 w')
      (first | exact N1.out.drew | assumption | exact RndAt.drew (by assumption))
      (first | (go_at_call 37; rename_i hh _ _; refine (put_any _ _ _ _ _ _ (wrTo_lt o d n m imm HO.out 1 (by decide)) (prt_ok o 1 HO.out (by decide)).1 (prt_ok o 1 HO.out (by decide)).2.1).mono ?_; rintro e w' ⟨rfl, hg⟩; have hh' := RndAt.kp hh hg; clear hh hg))
  rename_i hh
  rename World => w2
  have H2 : Hid (Blk w2 B (valV d n m imm) 67 ∧ Kp w w2) := Lib.hid ⟨H1.out.1.kp hh.2.2.2.2.2.2, H1.out.2.trans hh.2.2.2.2.2.2⟩
  clear hh i1 N1
  rw [show putN (wrTo o d n m imm 1) (pLo o 1) (pWd o 1) (vAt d n m imm 1) = wrTo o d n m imm 2 from rfl]
  go_wp2_with fail
  rw [rounds_succ]
  have i2 : ∀ w, (Instr.index 70 (.agg (prtV o)) (.int .i64 2)).run Tryd.prog w = .ok (.agg #[.int .i64 (pLo o 2), .int .i64 (pWd o 2), .bool (pS o 2)]) w := prt_at o 2 (by decide)
  have hn2 := RndAt.new w2 B o 2 _ (H2.out.1.lt) ((H2.out.1.kp (kpA _ _ _)).cell 2)
  have N2 := Lib.hid hn2
  clear hn2
  go_wp2_with fail
  go_region_held3 (fun w' => w'.cell? ⟨w2.heap.size, 0, none⟩ = some (.int .i64 (pLo o 2)) ∧ w'.cell? ⟨w2.heap.size, 1, none⟩ = some (.int .i64 (pWd o 2)) ∧ w'.cell? ⟨w2.heap.size, 2, none⟩ = some (.bool (pS o 2)) ∧ w'.cell? ⟨B, 2, none⟩ = some (.int .i64 (vAt d n m imm 2)) ∧ w2.heap.size < w'.heap.size ∧ B < w2.heap.size ∧ Kp w2 w')
      (first | exact N2.out.drew | assumption | exact RndAt.drew (by assumption))
      (first | (go_at_call 37; rename_i hh _ _; refine (put_any _ _ _ _ _ _ (wrTo_lt o d n m imm HO.out 2 (by decide)) (prt_ok o 2 HO.out (by decide)).1 (prt_ok o 2 HO.out (by decide)).2.1).mono ?_; rintro e w' ⟨rfl, hg⟩; have hh' := RndAt.kp hh hg; clear hh hg))
  rename_i hh
  rename World => w3
  have H3 : Hid (Blk w3 B (valV d n m imm) 67 ∧ Kp w w3) := Lib.hid ⟨H2.out.1.kp hh.2.2.2.2.2.2, H2.out.2.trans hh.2.2.2.2.2.2⟩
  clear hh i2 N2
  rw [show putN (wrTo o d n m imm 2) (pLo o 2) (pWd o 2) (vAt d n m imm 2) = wrTo o d n m imm 3 from rfl]
  go_wp2_with fail
  rw [rounds_succ]
  have i3 : ∀ w, (Instr.index 70 (.agg (prtV o)) (.int .i64 3)).run Tryd.prog w = .ok (.agg #[.int .i64 (pLo o 3), .int .i64 (pWd o 3), .bool (pS o 3)]) w := prt_at o 3 (by decide)
  have hn3 := RndAt.new w3 B o 3 _ (H3.out.1.lt) ((H3.out.1.kp (kpA _ _ _)).cell 3)
  have N3 := Lib.hid hn3
  clear hn3
  go_wp2_with fail
  go_region_held3 (fun w' => w'.cell? ⟨w3.heap.size, 0, none⟩ = some (.int .i64 (pLo o 3)) ∧ w'.cell? ⟨w3.heap.size, 1, none⟩ = some (.int .i64 (pWd o 3)) ∧ w'.cell? ⟨w3.heap.size, 2, none⟩ = some (.bool (pS o 3)) ∧ w'.cell? ⟨B, 3, none⟩ = some (.int .i64 (vAt d n m imm 3)) ∧ w3.heap.size < w'.heap.size ∧ B < w3.heap.size ∧ Kp w3 w')
      (first | exact N3.out.drew | assumption | exact RndAt.drew (by assumption))
      (first | (go_at_call 37; rename_i hh _ _; refine (put_any _ _ _ _ _ _ (wrTo_lt o d n m imm HO.out 3 (by decide)) (prt_ok o 3 HO.out (by decide)).1 (prt_ok o 3 HO.out (by decide)).2.1).mono ?_; rintro e w' ⟨rfl, hg⟩; have hh' := RndAt.kp hh hg; clear hh hg))
  rename_i hh
  rename World => w4
  have H4 : Hid (Blk w4 B (valV d n m imm) 67 ∧ Kp w w4) := Lib.hid ⟨H3.out.1.kp hh.2.2.2.2.2.2, H3.out.2.trans hh.2.2.2.2.2.2⟩
  clear hh i3 N3
  rw [show putN (wrTo o d n m imm 3) (pLo o 3) (pWd o 3) (vAt d n m imm 3) = wrTo o d n m imm 4 from rfl]
  go_wp2_with fail
  rw [rounds_succ]
  go_wp2
  go_ret
  exact ⟨rfl, H4.out.2⟩

/-! Encode -/
theorem neg_imm {imm : Int} (h : -2048 ≤ imm ∧ imm < 0) : wrap64 (-imm) = -imm := by unfold wrap64; omega
def OkA (op d n m imm : Int) : Prop := InsA op d n m imm ∧ op ≠ 18
instance (op d n m imm : Int) : Decidable (OkA op d n m imm) := by unfold OkA; infer_instance
def encN (op d n m imm : Int) : Nat := if op = 7 ∧ imm < 0 then encF 7 d n m (-imm) + 1073741824 else encF op.toNat d n m imm
def encR (op d n m imm : Int) : Nat := if OkA op d n m imm then encN op d n m imm else 0
def encE (op d n m imm : Int) : Int := if OkA op d n m imm then 0 else 60
theorem InsA.regs {op d n m imm : Int} (h : InsA op d n m imm) : (0 ≤ d ∧ d < 8) ∧ (0 ≤ n ∧ n < 8) ∧ (0 ≤ m ∧ m < 8) := by
  obtain ⟨_, _, _, h1, h2, h3⟩ := h
  refine ⟨?_, ?_, ?_⟩
  · rcases h1 with ⟨_, h⟩ | ⟨_, h⟩ <;> omega
  · rcases h2 with ⟨_, h⟩ | ⟨_, h⟩ <;> omega
  · rcases h3 with ⟨_, h⟩ | ⟨_, h⟩ <;> omega
theorem InsA.i8 {op d n m imm : Int} (h : InsA op d n m imm) : (-128 ≤ d ∧ d < 128) ∧ (-128 ≤ n ∧ n < 128) ∧ (-128 ≤ m ∧ m < 128) := by
  have := h.regs
  omega
theorem write_is (o : Nat) (op d n m imm : Int) (w : World) (ho : o < 19) (hr : Regs o d n m) (hb : (-128 ≤ d ∧ d < 128) ∧ (-128 ≤ n ∧ n < 128) ∧ (-128 ≤ m ∧ m < 128)) :
    Calls Tryd.prog 20 #[.agg (fmtV o), .agg (insV op d n m imm)] w fun e w' => e = .returned (.int .u32 (encF o d n m imm)) ∧ Kp w w' := by
  rw [← wr_form o d n m imm ho hr]
  exact write_any o op d n m imm w ho hb.1 hb.2.1 hb.2.2
theorem or_30 (d n m : Int) (v : Int) (hr : Regs 7 d n m) (hv : 0 ≤ v ∧ v ≤ 2048) : bits .or .u32 (encF 7 d n m v : Int) 1073741824 = ((encF 7 d n m v + 1073741824 : Nat) : Int) := by
  obtain ⟨h1, h2, h3⟩ := hr
  obtain ⟨D, rfl, hD, zD⟩ := mayR_of h1
  obtain ⟨N, rfl, hN, zN⟩ := mayR_of h2
  obtain ⟨M, rfl, hM, zM⟩ := mayR_of h3
  obtain ⟨V, rfl⟩ := Int.eq_ofNat_of_zero_le hv.1
  have e : encF 7 D N M V = 2432696320 + D + 32 * N + 1024 * V := by
    simp [uD, uN, uM, uDL, uNL, uML] at zD zN zM
    simp [encF, fW, fLo, fWd, fwL, floL, fwdL]
    omega
  rw [e]
  have h := or_field (2432696320 + D + 32 * N + 1024 * V) 30 1 1 (by omega) (by decide)
  rw [show (1 : Nat) * 2 ^ 30 = 1073741824 from rfl] at h
  rw [← h]
  exact or_u32 _ 1073741824 (by omega) (by decide)
theorem encode_no (op d n m imm : Int) (w : World) (hT : TabsOk w) (hop : -128 ≤ op ∧ op < 128) (h : ¬ OkA op d n m imm) :
    Calls Tryd.prog 10 #[.agg (insV op d n m imm)] w fun e w' => e = .returned (.tuple #[.int .u32 0, .int .i64 60]) ∧ Kp w w' := by
  unfold insV
  by_cases h18 : op = 18
  · subst h18
    clear h
    go_enter Tryd.func10, Tryd.ntmps10
    go_wp2
    go_ret2
    exact ⟨rfl, kpA _ _ _⟩
  · have h' : Hid (¬ InsA op d n m imm) := Lib.hid fun g => h ⟨g, h18⟩
    have HT := Lib.hid hT
    have HP := Lib.hid hop
    clear h hT hop
    go_enter Tryd.func10, Tryd.ntmps10
    go_wp2_with fail
    refine (check_bad op d n m imm _ (HT.out.kp (kpA _ _ _)) HP.out h'.out).mono ?_; rintro e w1 ⟨rfl, hg⟩
    have H1 := Lib.hid hg; clear hg
    go_wp2
    go_ret2
    exact ⟨rfl, (by (repeat (first | apply Kp.drew | apply Kp.alloc)); refine Kp.trans ?_ H1.out; (repeat (first | apply Kp.drew | apply Kp.alloc)); exact Kp.refl _)⟩
def EAt (w w' : World) (o : Nat) (op d n m imm : Int) : Prop := w'.cell? ⟨0, o * 8 + 0, none⟩ = some (.string (fName o)) ∧ w'.cell? ⟨0, o * 8 + 1, none⟩ = some (.int .u32 (fW o)) ∧ w'.cell? ⟨0, o * 8 + 2, none⟩ = some (.bool (fD o)) ∧ w'.cell? ⟨0, o * 8 + 3, none⟩ = some (.bool (fN o)) ∧ w'.cell? ⟨0, o * 8 + 4, none⟩ = some (.bool (fM o)) ∧ w'.cell? ⟨0, o * 8 + 5, none⟩ = some (.int .i64 (fLo o)) ∧ w'.cell? ⟨0, o * 8 + 6, none⟩ = some (.int .i64 (fWd o)) ∧ w'.cell? ⟨0, o * 8 + 7, none⟩ = some (.bool (fS o)) ∧ w'.cell? ⟨w.heap.size, 0, none⟩ = some (.int .i8 op) ∧ w'.cell? ⟨w.heap.size, 1, none⟩ = some (.int .i8 d) ∧ w'.cell? ⟨w.heap.size, 2, none⟩ = some (.int .i8 n) ∧ w'.cell? ⟨w.heap.size, 3, none⟩ = some (.int .i8 m) ∧ w'.cell? ⟨w.heap.size, 4, none⟩ = some (.int .i64 imm) ∧ 0 < w'.heap.size ∧ w.heap.size < w'.heap.size ∧ Kp w w'
def EB (w w' : World) (op d n m imm : Int) : Prop := FmtsOk w' ∧ Blk w' w.heap.size (insV op d n m imm) 25 ∧ Kp w w'
theorem EB.at {w w' : World} {op d n m imm : Int} (o : Nat) (ho : o < 19) (h : EB w w' op d n m imm) : EAt w w' o op d n m imm :=
  ⟨h.1.at o 0 ho (by decide), h.1.at o 1 ho (by decide), h.1.at o 2 ho (by decide), h.1.at o 3 ho (by decide), h.1.at o 4 ho (by decide), h.1.at o 5 ho (by decide), h.1.at o 6 ho (by decide), h.1.at o 7 ho (by decide), h.2.1.cell 0, h.2.1.cell 1, h.2.1.cell 2, h.2.1.cell 3, h.2.1.cell 4, h.1.lt, h.2.1.lt, h.2.2⟩
theorem EAt.kp {w w1 w2 : World} {o : Nat} {op d n m imm : Int} (h : EAt w w1 o op d n m imm) (g : Kp w1 w2) : EAt w w2 o op d n m imm := by
  obtain ⟨h0, h1, h2, h3, h4, h5, h6, h7, h8, h9, h10, h11, h12, hl, hm, hk⟩ := h
  have a := fun j => g.cell (o := j) hl
  have b := fun j => g.cell (o := j) hm
  exact ⟨(a _).trans h0, (a _).trans h1, (a _).trans h2, (a _).trans h3, (a _).trans h4, (a _).trans h5, (a _).trans h6, (a _).trans h7, (b _).trans h8, (b _).trans h9, (b _).trans h10, (b _).trans h11, (b _).trans h12, Nat.lt_of_lt_of_le hl g.size, Nat.lt_of_lt_of_le hm g.size, hk.trans g⟩
theorem EAt.drew {w w1 : World} {o : Nat} {op d n m imm : Int} (h : EAt w w1 o op d n m imm) : EAt w w1.drew o op d n m imm := h.kp (Kp.refl _).drew
set_option maxRecDepth 20000 in
theorem encode_neg (d n m imm : Int) (w : World) (hT : TabsOk w) (hF : FmtsOk w) (g : InsA 7 d n m imm) (hi : imm < 0) :
    Calls Tryd.prog 10 #[.agg (insV 7 d n m imm)] w fun e w' => e = .returned (.tuple #[.int .u32 (encN 7 d n m imm), .int .i64 0]) ∧ Kp w w' := by
  have hb : -2048 ≤ imm ∧ imm < 0 := ⟨g.2.2.1.1, hi⟩
  have hng := neg_imm hb
  have HE : Hid (encN 7 d n m imm = encF 7 d n m (-imm) + 1073741824) := Lib.hid (if_pos ⟨rfl, hi⟩)
  have HR : Hid (Regs 7 d n m) := Lib.hid g.2.2.2
  have HO : Hid (bits .or .u32 (encF 7 d n m (-imm) : Int) 1073741824 = ((encF 7 d n m (-imm) + 1073741824 : Nat) : Int)) := Lib.hid (or_30 d n m (-imm) g.2.2.2 (by omega))
  have HG := Lib.hid g
  have HT := Lib.hid hT
  have HI := Lib.hid g.i8
  have HF := Lib.hid hF
  clear g hT hF hb
  unfold insV
  go_enter Tryd.func10, Tryd.ntmps10
  go_wp2_with fail
  refine (check_ok 7 d n m imm _ (HT.out.kp (kpA _ _ _)) (by decide) HG.out).mono ?_; rintro e w1 ⟨rfl, hg⟩
  have H1 := Lib.hid hg; clear hg
  have HB : Hid (Blk w1 w.heap.size (insV 7 d n m imm) 25) := Lib.hid ((Blk.new w _ _).kp H1.out)
  have hc0 := HB.out.cell 0
  have hc4 := HB.out.cell 4
  have hf4 := HB.out.frozen 4
  simp [insV] at hc0 hc4
  go_wp2_with fail
  have he : EB w (w1.setCell ⟨w.heap.size, 4, none⟩ (.int .i64 (-imm))) 7 d n m (-imm) :=
    have k : Kp w (w1.setCell ⟨w.heap.size, 4, none⟩ (.int .i64 (-imm))) := Kp.setCell ((kpA _ _ _).trans H1.out) (Nat.le_refl _) _
    ⟨HF.out.kp k, HB.out.set 4 _, k⟩
  have HS := Lib.hid (EB.at 7 (by decide) he)
  clear he hc0 hc4 hf4
  generalize w1.setCell ⟨w.heap.size, 4, none⟩ (.int .i64 (-imm)) = w2 at HS ⊢
  unfold EAt at HS
  go_region_held3 (fun w' => w'.cell? ⟨0, 56, none⟩ = some (.string (fName 7)) ∧ w'.cell? ⟨0, 57, none⟩ = some (.int .u32 (fW 7)) ∧ w'.cell? ⟨0, 58, none⟩ = some (.bool (fD 7)) ∧ w'.cell? ⟨0, 59, none⟩ = some (.bool (fN 7)) ∧ w'.cell? ⟨0, 60, none⟩ = some (.bool (fM 7)) ∧ w'.cell? ⟨0, 61, none⟩ = some (.int .i64 (fLo 7)) ∧ w'.cell? ⟨0, 62, none⟩ = some (.int .i64 (fWd 7)) ∧ w'.cell? ⟨0, 63, none⟩ = some (.bool (fS 7)) ∧ w'.cell? ⟨w.heap.size, 0, none⟩ = some (.int .i8 7) ∧ w'.cell? ⟨w.heap.size, 1, none⟩ = some (.int .i8 d) ∧ w'.cell? ⟨w.heap.size, 2, none⟩ = some (.int .i8 n) ∧ w'.cell? ⟨w.heap.size, 3, none⟩ = some (.int .i8 m) ∧ w'.cell? ⟨w.heap.size, 4, none⟩ = some (.int .i64 (-imm)) ∧ 0 < w'.heap.size ∧ w.heap.size < w'.heap.size ∧ Kp w w')
      (first | exact EAt.drew (o := 7) HS.out | assumption | exact EAt.drew (o := 7) (by assumption))
      (first | (go_at_call 20; rename_i hh _ _; refine (write_is 7 7 d n m (-imm) _ (by decide) HR.out HI.out).mono ?_; rintro e w' ⟨rfl, hg⟩; have hh' := EAt.kp (o := 7) hh hg; clear hh hg))
  rename_i hh
  have HH := Lib.hid hh; clear hh
  rw [HO.out]
  go_wp2
  go_ret2
  exact ⟨ret_pair (by rw [HE.out]) rfl, HH.out.2.2.2.2.2.2.2.2.2.2.2.2.2.2.2⟩
set_option maxRecDepth 20000 in
theorem encode_seven (d n m imm : Int) (w : World) (hT : TabsOk w) (hF : FmtsOk w) (g : InsA 7 d n m imm) (hi : 0 ≤ imm) :
    Calls Tryd.prog 10 #[.agg (insV 7 d n m imm)] w fun e w' => e = .returned (.tuple #[.int .u32 (encF 7 d n m imm), .int .i64 0]) ∧ Kp w w' := by
  have HR : Hid (Regs 7 d n m) := Lib.hid g.2.2.2
  have HG := Lib.hid g
  have HT := Lib.hid hT
  have HI := Lib.hid g.i8
  have HF := Lib.hid hF
  have HO : Hid (7 < 19) := Lib.hid (by decide)
  have HP : Hid (-128 ≤ (7 : Int) ∧ (7 : Int) < 128) := Lib.hid (by decide)
  clear g hT hF
  unfold insV
  go_enter Tryd.func10, Tryd.ntmps10
  go_wp2_with fail
  refine (check_ok 7 d n m imm _ (HT.out.kp (kpA _ _ _)) HP.out HG.out).mono ?_; rintro e w1 ⟨rfl, hg⟩
  have H1 := Lib.hid hg; clear hg
  have HB : Hid (Blk w1 w.heap.size (insV 7 d n m imm) 25) := Lib.hid ((Blk.new w _ _).kp H1.out)
  have hc0 := HB.out.cell 0
  have hc4 := HB.out.cell 4
  simp [insV] at hc0 hc4
  have he : EB w w1 7 d n m imm := ⟨HF.out.kp ((kpA _ _ _).trans H1.out), HB.out, (kpA _ _ _).trans H1.out⟩
  have HS := Lib.hid (EB.at 7 HO.out he)
  clear he
  go_wp2_with fail
  unfold EAt at HS
  go_region_held3 (fun w' => w'.cell? ⟨0, 56, none⟩ = some (.string (fName 7)) ∧ w'.cell? ⟨0, 57, none⟩ = some (.int .u32 (fW 7)) ∧ w'.cell? ⟨0, 58, none⟩ = some (.bool (fD 7)) ∧ w'.cell? ⟨0, 59, none⟩ = some (.bool (fN 7)) ∧ w'.cell? ⟨0, 60, none⟩ = some (.bool (fM 7)) ∧ w'.cell? ⟨0, 61, none⟩ = some (.int .i64 (fLo 7)) ∧ w'.cell? ⟨0, 62, none⟩ = some (.int .i64 (fWd 7)) ∧ w'.cell? ⟨0, 63, none⟩ = some (.bool (fS 7)) ∧ w'.cell? ⟨w.heap.size, 0, none⟩ = some (.int .i8 7) ∧ w'.cell? ⟨w.heap.size, 1, none⟩ = some (.int .i8 d) ∧ w'.cell? ⟨w.heap.size, 2, none⟩ = some (.int .i8 n) ∧ w'.cell? ⟨w.heap.size, 3, none⟩ = some (.int .i8 m) ∧ w'.cell? ⟨w.heap.size, 4, none⟩ = some (.int .i64 imm) ∧ 0 < w'.heap.size ∧ w.heap.size < w'.heap.size ∧ Kp w w')
      (first | exact EAt.drew (o := 7) HS.out | assumption | exact EAt.drew (o := 7) (by assumption))
      (first | (go_at_call 20; rename_i hh _ _; refine (write_is 7 7 d n m imm _ HO.out HR.out HI.out).mono ?_; rintro e w' ⟨rfl, hg⟩; have hh' := EAt.kp (o := 7) hh hg; clear hh hg))
  rename_i hh
  have HH := Lib.hid hh; clear hh
  go_wp2
  go_ret2
  exact ⟨rfl, HH.out.2.2.2.2.2.2.2.2.2.2.2.2.2.2.2⟩
set_option maxRecDepth 20000 in
theorem encode_pos (o : Nat) (d n m imm : Int) (w : World) (hT : TabsOk w) (hF : FmtsOk w) (g : InsA o d n m imm) (h7 : o ≠ 7) (h18 : o ≠ 18) :
    Calls Tryd.prog 10 #[.agg (insV o d n m imm)] w fun e w' => e = .returned (.tuple #[.int .u32 (encF o d n m imm), .int .i64 0]) ∧ Kp w w' := by
  have HR : Hid (Regs o d n m) := Lib.hid g.2.2.2
  have HG := Lib.hid g
  have HT := Lib.hid hT
  have HI := Lib.hid g.i8
  have HF := Lib.hid hF
  have i0 : (0 : Int) ≤ (o : Int) := g.1
  have i1 : (o : Int) < 19 := g.2.1
  have HO : Hid (o < 19) := Lib.hid (by omega)
  have HP : Hid (-128 ≤ (o : Int) ∧ (o : Int) < 128) := Lib.hid (by omega)
  have e7 : ((o : Int) == 7) = false := by simp; omega
  have e18 : ((o : Int) == 18) = false := by simp; omega
  clear h7 h18
  clear g hT hF
  unfold insV
  go_enter Tryd.func10, Tryd.ntmps10
  go_wp2_with fail
  refine (check_ok o d n m imm _ (HT.out.kp (kpA _ _ _)) HP.out HG.out).mono ?_; rintro e w1 ⟨rfl, hg⟩
  have H1 := Lib.hid hg; clear hg
  have HB : Hid (Blk w1 w.heap.size (insV o d n m imm) 25) := Lib.hid ((Blk.new w _ _).kp H1.out)
  have hc0 := HB.out.cell 0
  have hc4 := HB.out.cell 4
  simp [insV] at hc0 hc4
  have he : EB w w1 o d n m imm := ⟨HF.out.kp ((kpA _ _ _).trans H1.out), HB.out, (kpA _ _ _).trans H1.out⟩
  have HS := Lib.hid (EB.at o HO.out he)
  clear he
  go_wp2_with fail
  unfold EAt at HS
  go_region_held3 (fun w' => w'.cell? ⟨0, o * 8, none⟩ = some (.string (fName o)) ∧ w'.cell? ⟨0, o * 8 + 1, none⟩ = some (.int .u32 (fW o)) ∧ w'.cell? ⟨0, o * 8 + 2, none⟩ = some (.bool (fD o)) ∧ w'.cell? ⟨0, o * 8 + 3, none⟩ = some (.bool (fN o)) ∧ w'.cell? ⟨0, o * 8 + 4, none⟩ = some (.bool (fM o)) ∧ w'.cell? ⟨0, o * 8 + 5, none⟩ = some (.int .i64 (fLo o)) ∧ w'.cell? ⟨0, o * 8 + 6, none⟩ = some (.int .i64 (fWd o)) ∧ w'.cell? ⟨0, o * 8 + 7, none⟩ = some (.bool (fS o)) ∧ w'.cell? ⟨w.heap.size, 0, none⟩ = some (.int .i8 o) ∧ w'.cell? ⟨w.heap.size, 1, none⟩ = some (.int .i8 d) ∧ w'.cell? ⟨w.heap.size, 2, none⟩ = some (.int .i8 n) ∧ w'.cell? ⟨w.heap.size, 3, none⟩ = some (.int .i8 m) ∧ w'.cell? ⟨w.heap.size, 4, none⟩ = some (.int .i64 imm) ∧ 0 < w'.heap.size ∧ w.heap.size < w'.heap.size ∧ Kp w w')
      (first | exact EAt.drew (o := o) HS.out | assumption | exact EAt.drew (o := o) (by assumption))
      (first | (go_at_call 20; rename_i hh _ _; refine (write_is o o d n m imm _ HO.out HR.out HI.out).mono ?_; rintro e w' ⟨rfl, hg⟩; have hh' := EAt.kp (o := o) hh hg; clear hh hg))
  rename_i hh
  have HH := Lib.hid hh; clear hh
  go_wp2
  go_ret2
  exact ⟨rfl, HH.out.2.2.2.2.2.2.2.2.2.2.2.2.2.2.2⟩
theorem encode_any (op d n m imm : Int) (w : World) (hT : TabsOk w) (hF : FmtsOk w) (hop : -128 ≤ op ∧ op < 128) :
    Calls Tryd.prog 10 #[.agg (insV op d n m imm)] w fun e w' => e = .returned (.tuple #[.int .u32 (encR op d n m imm), .int .i64 (encE op d n m imm)]) ∧ Kp w w' := by
  by_cases h : OkA op d n m imm
  · rw [show encR op d n m imm = encN op d n m imm from if_pos h, show encE op d n m imm = 0 from if_pos h]
    obtain ⟨g, h18⟩ := h
    obtain ⟨o, rfl⟩ := Int.eq_ofNat_of_zero_le g.1
    by_cases h7 : o = 7
    · subst h7
      by_cases hi : imm < 0
      · exact encode_neg d n m imm w hT hF g hi
      · rw [show encN ((7 : Nat) : Int) d n m imm = encF 7 d n m imm from if_neg fun h => hi h.2]
        exact encode_seven d n m imm w hT hF g (by omega)
    · rw [show encN (o : Int) d n m imm = encF o d n m imm from (if_neg fun h => h7 (by omega)).trans (by rw [Int.toNat_natCast])]
      exact encode_pos o d n m imm w hT hF g h7 (by omega)
  · rw [show encR op d n m imm = 0 from if_neg h, show encE op d n m imm = 60 from if_neg h]
    exact encode_no op d n m imm w hT hop h
end Go.Proofs.YtfbkppncaampdaaDoor
