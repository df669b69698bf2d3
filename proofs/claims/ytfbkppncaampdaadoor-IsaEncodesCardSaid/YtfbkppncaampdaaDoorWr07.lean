/-
  Package isa: a format's parts, an instruction's values, write, Encode. No condition but the tables.
-/
import Derived.Test.YtfbkppncaampdaaDoorForm07
namespace Go.Proofs.YtfbkppncaampdaaDoor
open Go Go.RowKit

theorem register_any (b : Bool) (lo : Nat) (w : World) :
    Calls Tryd.prog 40 #[.bool b, .int .i64 lo] w fun e w' => e = .returned (.agg #[.int .i64 (rLo b lo), .int .i64 (rWd b), .bool false]) ∧ Kp w w' := by
  cases b
  · go_enter Tryd.func40, Tryd.ntmps40
    go_wp2
    refine bodyPost_ret (results_cell_row rfl _ _ _ _ _ _ _ rfl (Blk.new w _ _) Tryd.underlying60 rfl (by kernel_rfl)) rfl ?_
    exact ⟨rfl, kpA _ _ _⟩
  · go_enter Tryd.func40, Tryd.ntmps40
    go_wp2
    refine bodyPost_ret (results_cell_row rfl _ _ _ _ _ _ _ rfl (Blk.new w _ _) Tryd.underlying60 rfl (by kernel_rfl)) rfl ?_
    exact ⟨rfl, kpA _ _ _⟩
def fmtV (o : Nat) : Array Value := #[.string (fName o), .int .u32 (fW o), .bool (fD o), .bool (fN o), .bool (fM o), .int .i64 (fLo o), .int .i64 (fWd o), .bool (fS o)]
def prtV (o : Nat) : Array Value := #[.int .i64 (pLo o 0), .int .i64 (pWd o 0), .bool false, .int .i64 (pLo o 1), .int .i64 (pWd o 1), .bool false, .int .i64 (pLo o 2), .int .i64 (pWd o 2), .bool false, .int .i64 (pLo o 3), .int .i64 (pWd o 3), .bool (fS o)]
def zer12 : Array Value := #[.int .i64 0, .int .i64 0, .bool false, .int .i64 0, .int .i64 0, .bool false, .int .i64 0, .int .i64 0, .bool false, .int .i64 0, .int .i64 0, .bool false]
def BlkE (w : World) (b : Nat) : Prop := ∃ cs, Blk w b cs 70 ∧ cs.size = 12
theorem BlkE.kp {w w' : World} {b : Nat} (h : BlkE w b) (g : Kp w w') : BlkE w' b := by
  obtain ⟨cs, h, hs⟩ := h
  exact ⟨cs, h.kp g, hs⟩
theorem Blk.setRow {w : World} {b : Nat} {cs : Array Value} {t : TypeId} (h : Blk w b cs t) (cs' : Array Value) : Blk (w.setRow b cs') b cs' t := setRow_heap w b cs cs' t (0, 0) h
theorem Kp.setRow {w w' : World} {g : Nat} (h : Kp w w') (hg : w.heap.size ≤ g) (cs : Array Value) : Kp w (w'.setRow g cs) := by
  refine Below.trans h ⟨rfl, rfl, rfl, by simp, fun k hk => setRow_other w' g k cs (by omega)⟩
theorem cell_setRow (w : World) (g b j : Nat) (cs : Array Value) (h : b ≠ g) : (w.setRow g cs).cell? ⟨b, j, none⟩ = w.cell? ⟨b, j, none⟩ := by
  have := setRow_other w g b cs h
  simp [World.cell?, this]
def FAt (w w' : World) (o : Nat) : Prop := w'.cell? ⟨w.heap.size, 2, none⟩ = some (.bool (fD o)) ∧ w'.cell? ⟨w.heap.size, 3, none⟩ = some (.bool (fN o)) ∧ w'.cell? ⟨w.heap.size, 4, none⟩ = some (.bool (fM o)) ∧ w'.cell? ⟨w.heap.size, 5, none⟩ = some (.int .i64 (fLo o)) ∧ w'.cell? ⟨w.heap.size, 6, none⟩ = some (.int .i64 (fWd o)) ∧ w'.cell? ⟨w.heap.size, 7, none⟩ = some (.bool (fS o)) ∧ w.heap.size + 1 < w'.heap.size ∧ BlkE w' (w.heap.size + 1) ∧ Kp w w'
theorem FAt.kp {w w1 w2 : World} {o : Nat} (h : FAt w w1 o) (g : Kp w1 w2) : FAt w w2 o := by
  obtain ⟨h0, h1, h2, h3, h4, h5, h6, h7, h8⟩ := h
  have hl : w.heap.size < w1.heap.size := by omega
  exact ⟨(g.cell hl).trans h0, (g.cell hl).trans h1, (g.cell hl).trans h2, (g.cell hl).trans h3, (g.cell hl).trans h4, (g.cell hl).trans h5, Nat.lt_of_lt_of_le h6 g.size, h7.kp g, h8.trans g⟩
theorem FAt.set {w w1 : World} {o : Nat} (h : FAt w w1 o) (cs : Array Value) (hs : cs.size = 12) : FAt w (w1.setRow (w.heap.size + 1) cs) o := by
  obtain ⟨h0, h1, h2, h3, h4, h5, h6, ⟨cs0, h7, -⟩, h8⟩ := h
  have e := fun j => cell_setRow w1 (w.heap.size + 1) w.heap.size j cs (by omega)
  exact ⟨(e _).trans h0, (e _).trans h1, (e _).trans h2, (e _).trans h3, (e _).trans h4, (e _).trans h5, by simpa using h6, ⟨cs, h7.setRow cs, hs⟩, h8.setRow (by omega) cs⟩
theorem FAt.drew {w w1 : World} {o : Nat} (h : FAt w w1 o) : FAt w w1.drew o := h.kp (Kp.refl _).drew
theorem fAt_new (w : World) (o : Nat) : FAt w ((w.alloc (.cells (fmtV o) 62)).alloc (.cells zer12 70)) o := by
  have b := (Blk.new w (fmtV o) 62).alloc (.cells zer12 70)
  have c := Blk.new2 w (.cells (fmtV o) 62) zer12 70
  exact ⟨b.cell 2, b.cell 3, b.cell 4, b.cell 5, b.cell 6, b.cell 7, c.lt, ⟨_, c, rfl⟩, (kpA _ _ _).alloc _ _⟩
set_option maxRecDepth 20000 in
set_option maxHeartbeats 2000000 in
theorem parts_any7 (o : Nat) (w : World) :
    Calls Tryd.prog 25 #[.agg (fmtV o)] w fun e w' => e = .returned (.agg (prtV o)) ∧ Kp w w' := by
  have HC := Lib.hid (fAt_new w o)
  unfold fmtV zer12 at HC
  unfold fmtV
  go_enter Tryd.func25, Tryd.ntmps25
  go_wp2_with fail
  refine wp_region_held_drew (S := fun w' => w'.cell? ⟨w.heap.size, 2, none⟩ = some (.bool (fD o)) ∧ w'.cell? ⟨w.heap.size, 3, none⟩ = some (.bool (fN o)) ∧ w'.cell? ⟨w.heap.size, 4, none⟩ = some (.bool (fM o)) ∧ w'.cell? ⟨w.heap.size, 5, none⟩ = some (.int .i64 (fLo o)) ∧ w'.cell? ⟨w.heap.size, 6, none⟩ = some (.int .i64 (fWd o)) ∧ w'.cell? ⟨w.heap.size, 7, none⟩ = some (.bool (fS o)) ∧ w.heap.size + 1 < w'.heap.size ∧ BlkE w' (w.heap.size + 1) ∧ Kp w w') (by kernel_rfl) (FAt.drew HC.out) (fun hHeld => ?_)
  refine wpAnyH_take (i := 0) (oi := ?p0) (v := ?v0) ?o0 (by kernel_rfl) (by kernel_rfl) (by kernel_rfl) ?q0 ?y0 (by assumption) ?r0
  case o0 => (simp only [List.getElem?_toArray, List.getElem?_cons_zero]; rfl)
  case q0 => (exact fun _ _ _ h => h)
  case y0 => (refine Or.inl ⟨by rfl, ?_⟩; intro w hSw; (try dsimp only at hSw); go_simp; (try with_reducible rfl))
  simp only [Act.put, List.setIfInBounds_toArray, List.set_cons_zero, List.set_cons_succ]
  refine wpAnyH_take (i := 1) (oi := ?p1) (v := ?v1) ?o1 (by kernel_rfl) (by kernel_rfl) (by kernel_rfl) ?q1 ?y1 (by assumption) ?r1
  case o1 => (simp only [List.getElem?_toArray, List.getElem?_cons_succ, List.getElem?_cons_zero]; rfl)
  case q1 => (exact fun _ _ _ h => h)
  case y1 => (refine Or.inl ⟨by rfl, ?_⟩; intro w hSw; (try dsimp only at hSw); go_simp; (try with_reducible rfl))
  simp only [Act.put, List.setIfInBounds_toArray, List.set_cons_zero, List.set_cons_succ]
  refine wpAnyH_take (i := 3) (oi := ?p3) (v := ?v3) ?o3 (by kernel_rfl) (by kernel_rfl) (by kernel_rfl) ?q3 ?y3 (by assumption) ?r3
  case o3 => (simp only [List.getElem?_toArray, List.getElem?_cons_succ, List.getElem?_cons_zero]; rfl)
  case q3 => (exact fun _ _ _ h => h)
  case y3 => (refine Or.inl ⟨by rfl, ?_⟩; intro w hSw; (try dsimp only at hSw); go_simp; (try with_reducible rfl))
  simp only [Act.put, List.setIfInBounds_toArray, List.set_cons_zero, List.set_cons_succ]
  refine wpAnyH_take (i := 4) (oi := ?p4) (v := ?v4) ?o4 (by kernel_rfl) (by kernel_rfl) (by kernel_rfl) ?q4 ?y4 (by assumption) ?r4
  case o4 => (simp only [List.getElem?_toArray, List.getElem?_cons_succ, List.getElem?_cons_zero]; rfl)
  case q4 => (exact fun _ _ _ h => h)
  case y4 => (refine Or.inl ⟨by rfl, ?_⟩; intro w hSw; (try dsimp only at hSw); go_simp; (try with_reducible rfl))
  simp only [Act.put, List.setIfInBounds_toArray, List.set_cons_zero, List.set_cons_succ]
  refine wpAnyH_take (i := 6) (oi := ?p6) (v := ?v6) ?o6 (by kernel_rfl) (by kernel_rfl) (by kernel_rfl) ?q6 ?y6 (by assumption) ?r6
  case o6 => (simp only [List.getElem?_toArray, List.getElem?_cons_succ, List.getElem?_cons_zero]; rfl)
  case q6 => (exact fun _ _ _ h => h)
  case y6 => (refine Or.inl ⟨by rfl, ?_⟩; intro w hSw; (try dsimp only at hSw); go_simp; (try with_reducible rfl))
  simp only [Act.put, List.setIfInBounds_toArray, List.set_cons_zero, List.set_cons_succ]
  refine wpAnyH_take (i := 7) (oi := ?p7) (v := ?v7) ?o7 (by kernel_rfl) (by kernel_rfl) (by kernel_rfl) ?q7 ?y7 (by assumption) ?r7
  case o7 => (simp only [List.getElem?_toArray, List.getElem?_cons_succ, List.getElem?_cons_zero]; rfl)
  case q7 => (exact fun _ _ _ h => h)
  case y7 => (refine Or.inl ⟨by rfl, ?_⟩; intro w hSw; (try dsimp only at hSw); go_simp; (try with_reducible rfl))
  simp only [Act.put, List.setIfInBounds_toArray, List.set_cons_zero, List.set_cons_succ]
  refine wpAnyH_take (i := 9) (oi := ?p9) (v := ?v9) ?o9 (by kernel_rfl) (by kernel_rfl) (by kernel_rfl) ?q9 ?y9 (by assumption) ?r9
  case o9 => (simp only [List.getElem?_toArray, List.getElem?_cons_succ, List.getElem?_cons_zero]; rfl)
  case q9 => (exact fun _ _ _ h => h)
  case y9 => (refine Or.inl ⟨by rfl, ?_⟩; intro w hSw; (try dsimp only at hSw); go_simp; (try with_reducible rfl))
  simp only [Act.put, List.setIfInBounds_toArray, List.set_cons_zero, List.set_cons_succ]
  refine wpAnyH_take (i := 10) (oi := ?p10) (v := ?v10) ?o10 (by kernel_rfl) (by kernel_rfl) (by kernel_rfl) ?q10 ?y10 (by assumption) ?r10
  case o10 => (simp only [List.getElem?_toArray, List.getElem?_cons_succ, List.getElem?_cons_zero]; rfl)
  case q10 => (exact fun _ _ _ h => h)
  case y10 => (refine Or.inl ⟨by rfl, ?_⟩; intro w hSw; (try dsimp only at hSw); go_simp; (try with_reducible rfl))
  simp only [Act.put, List.setIfInBounds_toArray, List.set_cons_zero, List.set_cons_succ]
  refine wpAnyH_ready (rs := [2]) (by kernel_rfl) (by simp) ?_
  refine AllReadyH.cons (o := ?p2) ?o2 (fun K hK => ?w2) AllReadyH.nil
  case o2 => (simp only [List.getElem?_toArray, List.getElem?_cons_succ, List.getElem?_cons_zero]; rfl)
  rw [if_pos (by rfl)]
  go_simp
  refine (register_any _ 0 _).mono ?_; rintro e w' ⟨rfl, hg⟩
  (try go_wp2_with fail)
  refine hK.out _ _ (FAt.kp hHeld hg) (fun hH2 => ?_)
  clear hK hg K
  refine wpAnyH_ready (rs := [5]) (by kernel_rfl) (by simp) ?_
  refine AllReadyH.cons (o := ?p5) ?o5 (fun K hK => ?w5) AllReadyH.nil
  case o5 => (simp only [List.getElem?_toArray, List.getElem?_cons_succ, List.getElem?_cons_zero]; rfl)
  rw [if_pos (by rfl)]
  go_simp
  refine (register_any _ 5 _).mono ?_; rintro e w' ⟨rfl, hg⟩
  (try go_wp2_with fail)
  refine hK.out _ _ (FAt.kp hH2 hg) (fun hH3 => ?_)
  clear hK hg K
  refine wpAnyH_ready (rs := [8]) (by kernel_rfl) (by simp) ?_
  refine AllReadyH.cons (o := ?p8) ?o8 (fun K hK => ?w8) AllReadyH.nil
  case o8 => (simp only [List.getElem?_toArray, List.getElem?_cons_succ, List.getElem?_cons_zero]; rfl)
  rw [if_pos (by rfl)]
  go_simp
  refine (register_any _ 16 _).mono ?_; rintro e w' ⟨rfl, hg⟩
  (try go_wp2_with fail)
  refine hK.out _ _ (FAt.kp hH3 hg) (fun hH4 => ?_)
  clear hK hg K
  refine wpAnyH_take (i := 11) (oi := ?p11) (v := ?v11) ?o11 (by kernel_rfl) (by kernel_rfl) (by kernel_rfl) ?q11 ?y11 (by assumption) ?r11
  case o11 => (simp only [List.getElem?_toArray, List.getElem?_cons_succ, List.getElem?_cons_zero]; rfl)
  case q11 => (exact fun _ _ _ h => h)
  case y11 => (refine Or.inl ⟨by rfl, ?_⟩; intro w hSw; (try dsimp only at hSw); go_simp; (try with_reducible rfl))
  simp only [Act.put, List.setIfInBounds_toArray, List.set_cons_zero, List.set_cons_succ]
  refine wpAnyH_ready (rs := [12]) (by kernel_rfl) (by simp) ?_
  refine AllReadyH.cons (o := ?p12) ?o12 (fun K hK => ?w12) AllReadyH.nil
  case o12 => (simp only [List.getElem?_toArray, List.getElem?_cons_succ, List.getElem?_cons_zero]; rfl)
  rw [if_pos (by rfl)]
  obtain ⟨cs0, hb0, hs0⟩ := hH4.2.2.2.2.2.2.2.1
  have HG : Hid (Blk _ _ _ _) := Lib.hid (hb0.setRow (prtV o))
  have HK : Hid (Kp _ _) := Lib.hid (hH4.2.2.2.2.2.2.2.2.setRow (g := w.heap.size + 1) (by omega) (prtV o))
  refine wp_store_row 70 (.tmp 2) (.tmp 14) rfl (w.heap.size + 1) (prtV o) rfl rfl _ _ hb0 (by kernel_rfl) hs0 (by simp [prtV, Value.oneCell']) ?_
  refine hK.out _ _ (FAt.set hH4 (prtV o) rfl) (fun _ => ?_)
  clear hK K hb0
  refine wpAnyH_done (by kernel_rfl) ?_ _
  go_wp2_with fail
  refine bodyPost_ret (results_cell_row rfl _ _ _ _ _ _ _ rfl HG.out Tryd.underlying70 rfl (by kernel_rfl)) rfl ?_
  exact ⟨rfl, HK.out⟩
end Go.Proofs.YtfbkppncaampdaaDoor
