/-
  Package isa: the decoder's rows. No condition but the table.
-/
import Derived.Test.YtfbkppncaampdaaDoorRow07
import Derived.Laws.AppendOwn
import Derived.Maps.AppendAt
import Derived.Laws.OwnMore
import Derived.OwnWalk
namespace Go.Proofs.YtfbkppncaampdaaDoor
open Go Go.RowKit

theorem wp_append_at {P : Program} (w : World) {o : Oper} {a : Act} {K : Act → World → Prop} {Q : Exit → Act → World → Prop} (s x : Operand) (t : TypeId)
    (ho : o.op = .call { callee := .builtin .append, args := #[s, x], argTypes := #[t, t] })
    (base : Nat) (e : TypeId) (i : TypeInfo) (z : Value) (size bytes : Nat) (ht : P.underlying t = some (.slice e)) (hi : P.info? e = some i) (hz : i.zero = some z)
    (hsize : i.size = size) (hby : i.bytes = bytes) (hzs : z.cells.size = size) (hsz : 0 < size)
    (v : Value) (n : Nat) (xs : List Value) (hs : a.eval s = v) (hown : w.ownsRow base e size v n xs)
    (ad : Addr) (m c : Nat) (news : List Value) (hx : a.eval x = .slice (some ad) m c) (hl : news.length = m * size) (hnews : ∀ j u, news[j]? = some u → w.cell? (ad.add j) = some u) (h1 : ∀ u ∈ news, u.oneCell' = true)
    (h63 : n + m ≤ maxLen) (hbytes : (n + m) * bytes ≤ 140737488355328) (hbase : base ≤ w.heap.size)
    (h : ∀ v' w', w'.ownsRow base e size v' (n + m) (xs ++ news) → w.grownBy w' v.ownBlock → (v'.ownBlock = v.ownBlock ∨ v'.ownBlock = some w.heap.size) → K (a.put o.dst v') w') : o.wp P a w K Q := by
  obtain ⟨v', w', hr, h2, h3, h4, h5⟩ := run_append_own_at (P := P) w base t o.type e i z size bytes ht hi hz hsize hby hzs hsz v n xs hown ad m c news hl hnews h1 h63 hbytes hbase
  unfold Oper.wp execOp
  simp only [ho, resolve, invoke, builtin, Sem.run_bind, Sem.run_pure, Result.andThen_ok, List.map_toArray, List.map_cons, List.map_nil, hs, hx, hr]
  exact h v' w' h2 h3 h5

/-! The table as a whole. -/
def fmtA : Array Value := ⟨fmtL⟩
def FmtsRow (w : World) : Prop := ∃ t fr, w.heap[0]? = some (.cells fmtA t fr)
theorem FmtsRow.kp {w w' : World} (h : FmtsRow w) (hk : Kp w w') : FmtsRow w' := by
  obtain ⟨t, fr, h⟩ := h
  exact ⟨t, fr, (Below.block hk _ (lt_of_block h)).trans h⟩
theorem FmtsRow.ok {w : World} (h : FmtsRow w) : FmtsOk w := by
  obtain ⟨t, fr, h⟩ := h
  intro i _
  show _ = fmtL[i]?
  simp [World.cell?, h, fmtA]
set_option maxRecDepth 100000 in
theorem fmt_part (k : Nat) (hk : k < 19) : fmtA.extract (k * 8) (k * 8 + 8) = fmtV k := by
  obtain rfl | rfl | rfl | rfl | rfl | rfl | rfl | rfl | rfl | rfl | rfl | rfl | rfl | rfl | rfl | rfl | rfl | rfl | rfl : k = 0 ∨ k = 1 ∨ k = 2 ∨ k = 3 ∨ k = 4 ∨ k = 5 ∨ k = 6 ∨ k = 7 ∨ k = 8 ∨ k = 9 ∨ k = 10 ∨ k = 11 ∨ k = 12 ∨ k = 13 ∨ k = 14 ∨ k = 15 ∨ k = 16 ∨ k = 17 ∨ k = 18 := by omega
  all_goals rfl
theorem fmt_idx (k : Nat) (hk : k < 19) (w : World) : (Instr.index 63 (.agg fmtA) (.int .i64 k)).run Tryd.prog w = .ok (.agg (fmtV k)) w :=
  index_agg (s := 8) Tryd.underlying63 Tryd.underlying62 rfl (by kernel_rfl) _ _ rfl hk (fmt_part k hk) w

/-! Rows. -/
def fnV (k : Nat) (p : Nat) : Value := if k < 18 then .func (.func 61) #[] #[.pointer (some ⟨p, 0, none⟩)] else .func (.func 63) #[] #[]
def rowC (k : Nat) (p : Nat) : List Value := [.int .u32 (rowM k), .int .u32 (rowW k), fnV k p]
def rowsC (ps : List Nat) : List Value := (List.range ps.length).flatMap fun j => rowC j (ps.getD j 0)
theorem rowsC_snoc (ps : List Nat) (p : Nat) : rowsC (ps ++ [p]) = rowsC ps ++ rowC ps.length p := by
  unfold rowsC
  rw [List.length_append, List.length_cons, List.length_nil, Nat.zero_add, List.range_succ, List.flatMap_append]
  congr 1
  · rw [List.flatMap_def, List.flatMap_def]
    congr 1
    apply List.map_congr_left
    intro j hj
    rw [List.mem_range] at hj
    simp [List.getD, List.getElem?_append_left hj]
  · simp
theorem rowC_one (k : Nat) (p : Nat) : ∀ u ∈ rowC k p, u.oneCell' = true := by
  intro u hu
  unfold rowC fnV at hu
  simp at hu
  rcases hu with rfl | rfl | rfl
  · rfl
  · rfl
  · split <;> simp [Value.oneCell']
def rowF (j : Nat) : Nat := if j < 18 then j else 7
def OwnsR (w : World) (B : Nat) (v : Value) (ps : List Nat) : Prop := w.ownsRow B 88 3 v ps.length (rowsC ps)
theorem OwnsR.kp {w w' : World} {B : Nat} {v : Value} {ps : List Nat} (h : OwnsR w B v ps) (hk : Kp w w') : OwnsR w' B v ps := by
  refine ⟨h.1, ?_⟩
  rcases h.2 with h | ⟨g, cap, cur, rfl, hb, hg, hr⟩
  · exact .inl h
  · exact .inr ⟨g, cap, cur, rfl, hb, (Blk.kp (cs := cur) hg hk), hr⟩
def Caps (w : World) (B : Nat) (ps : List Nat) : Prop := ∀ (j p : Nat), ps[j]? = some p → j < 18 → B ≤ p ∧ Blk w p #[.int .i8 j] 23
def Free (ps : List Nat) (v : Value) : Prop := ∀ p ∈ ps, v.ownBlock ≠ some p
theorem Caps.kp {w w' : World} {B : Nat} {ps : List Nat} (h : Caps w B ps) (hk : Kp w w') : Caps w' B ps := fun j p hp hj => by
  obtain ⟨h1, h4⟩ := h j p hp hj
  exact ⟨h1, h4.kp hk⟩
theorem Blk.grown {w w' : World} {b : Nat} {cs : Array Value} {t : TypeId} {row : Option Nat} (h : Blk w b cs t) (g : w.grownBy w' row) (hr : row ≠ some b) : Blk w' b cs t := (g.block b h.lt (fun e => hr e.symm)).trans h
theorem Caps.grown {w w' : World} {B : Nat} {ps : List Nat} {v : Value} (h : Caps w B ps) (hf : Free ps v) (g : w.grownBy w' v.ownBlock) : Caps w' B ps := fun j p hp hj => by
  obtain ⟨h1, h4⟩ := h j p hp hj
  exact ⟨h1, h4.grown g (hf p (List.mem_of_getElem? hp))⟩
theorem Caps.snoc {w : World} {B : Nat} {ps : List Nat} {p : Nat} (h : Caps w B ps) (h1 : ps.length < 18 → B ≤ p) (h4 : ps.length < 18 → Blk w p #[.int .i8 ps.length] 23) : Caps w B (ps ++ [p]) := fun j q hq hj => by
  by_cases c : j < ps.length
  · rw [List.getElem?_append_left c] at hq
    exact h j q hq hj
  · rw [List.getElem?_append_right (by omega)] at hq
    have e : j = ps.length := by
      have := (List.getElem?_eq_some_iff.1 hq).1
      simp at this
      omega
    subst e
    simp at hq
    subst hq
    exact ⟨h1 hj, h4 hj⟩
theorem OwnsR.step {w w1 wz : World} {v v' : Value} {ps : List Nat} {p : Nat} (hz : Kp w wz) (ho : OwnsR wz w.heap.size v ps) (h1 : w1.ownsRow w.heap.size 88 3 v' (ps.length + 1) (rowsC ps ++ rowC ps.length p)) (hg : wz.grownBy w1 v.ownBlock) :
    OwnsR w1 w.heap.size v' (ps ++ [p]) ∧ Kp w w1 := by
  refine ⟨?_, Kp.grown hz hg fun k e => (World.ownsRow.lt ho k e).1⟩
  unfold OwnsR
  rw [List.length_append, rowsC_snoc]
  exact h1
theorem Free.step {wz : World} {v v' : Value} {ps : List Nat} {p : Nat} (hf : Free ps v) (hn : v.ownBlock ≠ some p) (hlt : ∀ q ∈ ps ++ [p], q < wz.heap.size) (hat : v'.ownBlock = v.ownBlock ∨ v'.ownBlock = some wz.heap.size) : Free (ps ++ [p]) v' := fun q hq => by
  have hl := hlt q hq
  rcases hat with h | h
  · rw [h]
    rw [List.mem_append] at hq
    rcases hq with hq | hq
    · exact hf q hq
    · rw [List.mem_singleton] at hq
      subst hq
      exact hn
  · rw [h]
    intro e; have := Option.some.inj e; omega
theorem row_info : (Tryd.prog.info? 88).map (fun i => (i.zero, i.size, i.bytes)) = some (some (.agg #[.int .u32 0, .int .u32 0, .nilFunc]), 3, 16) := by kernel_rfl
/-! What the rows' functions read. -/
theorem bad_any7 (w : World) : Calls Tryd.prog 23 #[] w fun e w' => e = .returned (.agg #[.int .i8 18, .int .i8 0, .int .i8 0, .int .i8 0, .int .i64 0]) ∧ Kp w w' := by
  go_enter Tryd.func23, Tryd.ntmps23
  go_wp2
  refine bodyPost_ret (results_cell_row rfl _ _ _ _ _ _ _ rfl (Blk.new w _ _) Tryd.underlying25 rfl (by kernel_rfl)) rfl ?_
  exact ⟨rfl, kpA _ _ _⟩
theorem lowered_zero (d n m : Int) (w : World) :
    Calls Tryd.prog 64 #[.agg (insV 7 d n m 0)] w fun e w' => e = .returned (.agg (insV 18 0 0 0 0)) ∧ Kp w w' := by
  have HR : Hid (Blk ((w.alloc (.cells (insV 7 d n m 0) 25)).alloc (.cells (insV 0 0 0 0 0) 25)) (w.heap.size + 1) (insV 0 0 0 0 0) 25) := Lib.hid (Blk.new2 w _ _ _)
  have HK : Hid (Kp w ((w.alloc (.cells (insV 7 d n m 0) 25)).alloc (.cells (insV 0 0 0 0 0) 25))) := Lib.hid ((kpA _ _ _).alloc _ _)
  unfold insV at HR HK
  unfold insV
  go_enter Tryd.func64, Tryd.ntmps64
  go_wp2_with (first | (go_at_call 23; refine (bad_any7 _).mono ?_; rintro e w2 ⟨rfl, hg⟩; have HB : Hid (Blk w2 (w.heap.size + 1) (insV 0 0 0 0 0) 25) := Lib.hid (HR.out.kp hg); have HK2 : Hid (Kp w w2) := Lib.hid (HK.out.trans hg); clear hg) | (refine wpList_store_row rfl 25 (.tmp 2) (.tmp 6) rfl (w.heap.size + 1) (insV 18 0 0 0 0) rfl rfl _ _ HB.out (by kernel_rfl) rfl (by simp [insV, Value.oneCell']) ?_))
  refine bodyPost_ret (results_cell_row rfl _ _ _ _ _ _ _ rfl (HB.out.setRow (insV 18 0 0 0 0)) Tryd.underlying25 rfl (by kernel_rfl)) rfl ?_
  exact ⟨rfl, HK2.out.setRow (by omega) _⟩
theorem lowered_some (d n m i : Int) (w : World) (h0 : 0 < i) (h1 : i < 4096) :
    Calls Tryd.prog 64 #[.agg (insV 7 d n m i)] w fun e w' => e = .returned (.agg (insV 7 d n m (-i))) ∧ Kp w w' := by
  have e0 : (i == 0) = false := by simp; omega
  unfold insV
  go_enter Tryd.func64, Tryd.ntmps64
  go_wp2
  refine bodyPost_ret (results_cell_row rfl _ _ _ _ _ _ _ rfl (Blk.new2 w _ _ _) Tryd.underlying25 rfl (by kernel_rfl)) rfl ?_
  exact ⟨rfl, (kpA _ _ _).alloc _ _⟩
def rowV (k W : Nat) : Array Value := if k < 18 then rdS k W k else if rdI 7 W = 0 then insV 18 0 0 0 0 else insV 7 (rdD 7 W) (rdN 7 W) (rdM 7 W) (-rdI 7 W)
def R1At (w w' : World) (k p : Nat) : Prop := w'.cell? ⟨0, k * 8, none⟩ = some (.string (fName k)) ∧ w'.cell? ⟨0, k * 8 + 1, none⟩ = some (.int .u32 (fW k)) ∧ w'.cell? ⟨0, k * 8 + 2, none⟩ = some (.bool (fD k)) ∧ w'.cell? ⟨0, k * 8 + 3, none⟩ = some (.bool (fN k)) ∧ w'.cell? ⟨0, k * 8 + 4, none⟩ = some (.bool (fM k)) ∧ w'.cell? ⟨0, k * 8 + 5, none⟩ = some (.int .i64 (fLo k)) ∧ w'.cell? ⟨0, k * 8 + 6, none⟩ = some (.int .i64 (fWd k)) ∧ w'.cell? ⟨0, k * 8 + 7, none⟩ = some (.bool (fS k)) ∧ w'.cell? ⟨p, 0, none⟩ = some (.int .i8 k) ∧ 0 < w'.heap.size ∧ p < w'.heap.size ∧ Kp w w'
theorem R1At.kp {w w1 w2 : World} {k p : Nat} (h : R1At w w1 k p) (g : Kp w1 w2) : R1At w w2 k p := by
  obtain ⟨h0, h1, h2, h3, h4, h5, h6, h7, hp, hl, hl2, hk⟩ := h
  have a := fun j => g.cell (o := j) hl
  exact ⟨(a _).trans h0, (a _).trans h1, (a _).trans h2, (a _).trans h3, (a _).trans h4, (a _).trans h5, (a _).trans h6, (a _).trans h7, (g.cell hl2).trans hp, Nat.lt_of_lt_of_le hl g.size, Nat.lt_of_lt_of_le hl2 g.size, hk.trans g⟩
theorem R1At.back {w w' : World} {k p : Nat} (h : R1At w w' k p) : Kp w w' := h.2.2.2.2.2.2.2.2.2.2.2
theorem R1At.of {w w' : World} {k p : Nat} (hk : k < 19) (h : FmtsOk w') (hp : Blk w' p #[.int .i8 k] 23) (g : Kp w w') : R1At w w' k p := ⟨h.at k 0 hk (by decide), h.at k 1 hk (by decide), h.at k 2 hk (by decide), h.at k 3 hk (by decide), h.at k 4 hk (by decide), h.at k 5 hk (by decide), h.at k 6 hk (by decide), h.at k 7 hk (by decide), hp.cell 0, h.lt, hp.lt, g⟩
theorem cell_setRow' (w : World) (B g j : Nat) (cs : Array Value) (h : g ≠ B) : (w.setRow B cs).cell? ⟨g, j, none⟩ = w.cell? ⟨g, j, none⟩ := World.cell?_of_block (a := ⟨g, j, none⟩) (setRow_other w B g cs h)
theorem R1At.set {w w1 : World} {k p : Nat} (h : R1At w w1 k p) (hp : p < w.heap.size) (hG : 0 < w.heap.size) (cs : Array Value) : R1At w (w1.setRow w.heap.size cs) k p := by
  obtain ⟨h0, h1, h2, h3, h4, h5, h6, h7, hq, hl, hl2, hk⟩ := h
  have a := fun j => cell_setRow' w1 w.heap.size 0 j cs (by omega)
  exact ⟨(a _).trans h0, (a _).trans h1, (a _).trans h2, (a _).trans h3, (a _).trans h4, (a _).trans h5, (a _).trans h6, (a _).trans h7, (cell_setRow' w1 w.heap.size p 0 cs (by omega)).trans hq, by simpa using hl, by simpa using hl2, hk.setRow (Nat.le_refl _) _⟩
set_option maxRecDepth 20000 in
set_option maxHeartbeats 2000000 in
theorem row1_any (k W p : Nat) (w : World) (hk : k < 18) (hW : W < 4294967296) (hF : FmtsRow w) (h2 : Blk w p #[.int .i8 k] 23) :
    Calls Tryd.prog 61 #[.int .u32 W, .pointer (some ⟨p, 0, none⟩)] w fun e w' => e = .returned (.agg (rowV k W)) ∧ Kp w w' := by
  rw [show rowV k W = rdS k W k from if_pos hk]
  have HP : Hid (p < w.heap.size) := Lib.hid h2.lt
  have HG : Hid (0 < w.heap.size) := Lib.hid hF.ok.lt
  have HR : Hid (Blk (w.alloc (.cells (insV 0 0 0 0 0) 25)).drew w.heap.size (insV 0 0 0 0 0) 25) := Lib.hid (Blk.new w _ _).drew
  have HS : Hid (R1At w (w.alloc (.cells (insV 0 0 0 0 0) 25)).drew k p) := Lib.hid (R1At.of (by omega) (hF.kp ((kpA _ _ _).drew)).ok ((h2.alloc _).drew) ((kpA _ _ _).drew))
  have HK : Hid (k < 19) := Lib.hid (by omega)
  have HW := Lib.hid hW
  have k0 : (0 : Int) ≤ (k : Int) := by omega
  have k1 : (k : Int) < 19 := by omega
  clear h2 hk hW hF
  unfold insV at HR HS
  go_enter Tryd.func61, Tryd.ntmps61
  go_wp2_with fail
  refine wp_region_held_drew (S := fun w' => w'.cell? ⟨0, k * 8, none⟩ = some (.string (fName k)) ∧ w'.cell? ⟨0, k * 8 + 1, none⟩ = some (.int .u32 (fW k)) ∧ w'.cell? ⟨0, k * 8 + 2, none⟩ = some (.bool (fD k)) ∧ w'.cell? ⟨0, k * 8 + 3, none⟩ = some (.bool (fN k)) ∧ w'.cell? ⟨0, k * 8 + 4, none⟩ = some (.bool (fM k)) ∧ w'.cell? ⟨0, k * 8 + 5, none⟩ = some (.int .i64 (fLo k)) ∧ w'.cell? ⟨0, k * 8 + 6, none⟩ = some (.int .i64 (fWd k)) ∧ w'.cell? ⟨0, k * 8 + 7, none⟩ = some (.bool (fS k)) ∧ w'.cell? ⟨p, 0, none⟩ = some (.int .i8 k) ∧ 0 < w'.heap.size ∧ p < w'.heap.size ∧ Kp w w') (by kernel_rfl) HS.out (fun hHeld => ?_)
  have hB0 := HR.out
  clear HR HS
  generalize World.drew _ = wz at hHeld hB0 ⊢
  refine wpAnyH_take (i := 0) (oi := ?p0z901) (v := ?v0z901) ?o0z901 (by kernel_rfl) (by kernel_rfl) (by kernel_rfl) ?q0z901 ?y0z901 (by assumption) ?r0z901
  case o0z901 => (simp only [List.getElem?_toArray, List.getElem?_cons_zero]; rfl)
  case q0z901 => (exact fun _ _ _ h => h)
  case y0z901 => (refine Or.inl ⟨by rfl, ?_⟩; intro w hSw; (try dsimp only at hSw); go_simp; (try with_reducible rfl))
  simp only [Act.put, List.setIfInBounds_toArray, List.set_cons_zero, List.set_cons_succ]
  refine wpAnyH_take (i := 1) (oi := ?p1z902) (v := ?v1z902) ?o1z902 (by kernel_rfl) (by kernel_rfl) (by kernel_rfl) ?q1z902 ?y1z902 (by assumption) ?r1z902
  case o1z902 => (simp only [List.getElem?_toArray, List.getElem?_cons_succ, List.getElem?_cons_zero]; rfl)
  case q1z902 => (exact fun _ _ _ h => h)
  case y1z902 => (refine Or.inl ⟨by rfl, ?_⟩; intro w hSw; (try dsimp only at hSw); go_simp; (try with_reducible rfl))
  simp only [Act.put, List.setIfInBounds_toArray, List.set_cons_zero, List.set_cons_succ]
  refine wpAnyH_take (i := 2) (oi := ?p2z903) (v := ?v2z903) ?o2z903 (by kernel_rfl) (by kernel_rfl) (by kernel_rfl) ?q2z903 ?y2z903 (by assumption) ?r2z903
  case o2z903 => (simp only [List.getElem?_toArray, List.getElem?_cons_succ, List.getElem?_cons_zero]; rfl)
  case q2z903 => (exact fun _ _ _ h => h)
  case y2z903 => (refine Or.inl ⟨by rfl, ?_⟩; intro w hSw; (try dsimp only at hSw); go_simp; (try with_reducible rfl))
  simp only [Act.put, List.setIfInBounds_toArray, List.set_cons_zero, List.set_cons_succ]
  refine wpAnyH_take (i := 3) (oi := ?p3z904) (v := ?v3z904) ?o3z904 (by kernel_rfl) (by kernel_rfl) (by kernel_rfl) ?q3z904 ?y3z904 (by assumption) ?r3z904
  case o3z904 => (simp only [List.getElem?_toArray, List.getElem?_cons_succ, List.getElem?_cons_zero]; rfl)
  case q3z904 => (exact fun _ _ _ h => h)
  case y3z904 => (refine Or.inl ⟨by rfl, ?_⟩; intro w hSw; (try dsimp only at hSw); go_simp; (try with_reducible rfl))
  simp only [Act.put, List.setIfInBounds_toArray, List.set_cons_zero, List.set_cons_succ]
  refine wpAnyH_take (i := 4) (oi := ?p4z905) (v := ?v4z905) ?o4z905 (by kernel_rfl) (by kernel_rfl) (by kernel_rfl) ?q4z905 ?y4z905 (by assumption) ?r4z905
  case o4z905 => (simp only [List.getElem?_toArray, List.getElem?_cons_succ, List.getElem?_cons_zero]; rfl)
  case q4z905 => (exact fun _ _ _ h => h)
  case y4z905 => (refine Or.inl ⟨by rfl, ?_⟩; intro w hSw; (try dsimp only at hSw); go_simp; (try with_reducible rfl))
  simp only [Act.put, List.setIfInBounds_toArray, List.set_cons_zero, List.set_cons_succ]
  refine wpAnyH_ready (rs := [5]) (by kernel_rfl) (by simp) ?_
  refine (AllReadyH.cons (o := ?pz906) ?oz906 (fun K hK => ?wz906) AllReadyH.nil)
  case oz906 => (simp only [List.getElem?_toArray, List.getElem?_cons_succ, List.getElem?_cons_zero]; rfl)
  case wz906 =>
    rw [if_pos (by rfl)]
    go_simp
    refine (read_any k W k _ HK.out HW.out).mono ?_; rintro e wz907 ⟨rfl, hgz907⟩
    (try go_wp2_with fail)
    have fz908 := hB0.kp hgz907
    refine hK.out _ _ (R1At.kp (k := k) (p := p) hHeld hgz907) (fun hz907 => ?_)
    clear hK K hgz907
    refine wpAnyH_ready (rs := [6]) (by kernel_rfl) (by simp) ?_
    refine (AllReadyH.cons (o := ?pz909) ?oz909 (fun K hK => ?wz909) AllReadyH.nil)
    case oz909 => (simp only [List.getElem?_toArray, List.getElem?_cons_succ, List.getElem?_cons_zero]; rfl)
    case wz909 =>
      rw [if_pos (by rfl)]
      refine wp_store_row 25 (.tmp 3) (.tmp 9) rfl w.heap.size (rdS k W k) rfl rfl _ _ fz908 (by kernel_rfl) rfl (by simp [rdS, insV, Value.oneCell']) ?_
      have sBz910 := Blk.setRow fz908 (rdS k W k)
      refine hK.out _ _ (R1At.set (k := k) (p := p) hz907 HP.out HG.out (rdS k W k)) (fun hz910 => ?_)
      clear hK K
      generalize World.setRow wz907 w.heap.size (rdS k W k) = wz910 at hz910 sBz910 ⊢
      refine wpAnyH_done (by kernel_rfl) ?_ _
      go_wp2_with fail
      refine bodyPost_ret (results_cell_row rfl _ _ _ _ _ _ _ rfl (sBz910) Tryd.underlying25 rfl (by kernel_rfl)) rfl ?_
      exact ⟨rfl, (R1At.back (k := k) (p := p) hz910)⟩
theorem low_is (W : Nat) (w : World) :
    Calls Tryd.prog 64 #[.agg (rdS 7 W 7)] w fun e w' => e = .returned (.agg (rowV 18 W)) ∧ Kp w w' := by
  have hp := rdI_pos W
  by_cases h : rdI 7 W = 0
  · rw [show rowV 18 W = insV 18 0 0 0 0 from (if_neg (by decide)).trans (if_pos h)]
    unfold rdS
    rw [h]
    exact lowered_zero _ _ _ w
  · rw [show rowV 18 W = insV 7 (rdD 7 W) (rdN 7 W) (rdM 7 W) (-rdI 7 W) from (if_neg (by decide)).trans (if_neg h)]
    exact lowered_some _ _ _ _ w (by omega) hp.2
theorem row2_any (W : Nat) (w : World) (hW : W < 4294967296) (hF : FmtsRow w) :
    Calls Tryd.prog 63 #[.int .u32 W] w fun e w' => e = .returned (.agg (rowV 18 W)) ∧ Kp w w' := by
  have HR : Hid (Blk (w.alloc (.cells (insV 0 0 0 0 0) 25)) w.heap.size (insV 0 0 0 0 0) 25) := Lib.hid (Blk.new w _ _)
  have HW := Lib.hid hW
  have hok := (hF.kp (kpA w (insV 0 0 0 0 0) 25)).ok
  have hc0 : (w.alloc (.cells (insV 0 0 0 0 0) 25)).cell? ⟨0, 56, none⟩ = some (.string (fName 7)) := hok.at 7 0 (by decide) (by decide)
  have hc1 : (w.alloc (.cells (insV 0 0 0 0 0) 25)).cell? ⟨0, 57, none⟩ = some (.int .u32 (fW 7)) := hok.at 7 1 (by decide) (by decide)
  have hc2 : (w.alloc (.cells (insV 0 0 0 0 0) 25)).cell? ⟨0, 58, none⟩ = some (.bool (fD 7)) := hok.at 7 2 (by decide) (by decide)
  have hc3 : (w.alloc (.cells (insV 0 0 0 0 0) 25)).cell? ⟨0, 59, none⟩ = some (.bool (fN 7)) := hok.at 7 3 (by decide) (by decide)
  have hc4 : (w.alloc (.cells (insV 0 0 0 0 0) 25)).cell? ⟨0, 60, none⟩ = some (.bool (fM 7)) := hok.at 7 4 (by decide) (by decide)
  have hc5 : (w.alloc (.cells (insV 0 0 0 0 0) 25)).cell? ⟨0, 61, none⟩ = some (.int .i64 (fLo 7)) := hok.at 7 5 (by decide) (by decide)
  have hc6 : (w.alloc (.cells (insV 0 0 0 0 0) 25)).cell? ⟨0, 62, none⟩ = some (.int .i64 (fWd 7)) := hok.at 7 6 (by decide) (by decide)
  have hc7 : (w.alloc (.cells (insV 0 0 0 0 0) 25)).cell? ⟨0, 63, none⟩ = some (.bool (fS 7)) := hok.at 7 7 (by decide) (by decide)
  clear hW hF hok
  have h1c : ∀ a b c d e f, #[Value.int .i8 a, .int .i8 b, .int .i8 c, .int .i8 d, .int .i64 e] = f → (f : Array Value).all (·.oneCell') = true := by
    rintro a b c d e f rfl; simp [Value.oneCell']
  have HV1 : Hid ((rowV 18 W).all (·.oneCell') = true ∧ (rowV 18 W).size = 5) := Lib.hid (by
    unfold rowV
    rw [if_neg (by decide)]
    split
    · exact ⟨h1c _ _ _ _ _ _ rfl, rfl⟩
    · exact ⟨h1c _ _ _ _ _ _ rfl, rfl⟩)
  clear h1c
  unfold insV at HR hc0 hc1 hc2 hc3 hc4 hc5 hc6 hc7
  go_enter Tryd.func63, Tryd.ntmps63
  go_wp2_with (first | (go_at_call 62; refine (read_any 7 W 7 _ (by decide) HW.out).mono ?_; rintro e w2 ⟨rfl, hg⟩; have HB1 : Hid (Blk w2 w.heap.size (insV 0 0 0 0 0) 25) := Lib.hid (HR.out.kp hg); have HK1 : Hid (Kp w w2) := Lib.hid ((kpA _ _ _).trans hg); clear hg) | (go_at_call 64; refine (low_is W _).mono ?_; rintro e w3 ⟨rfl, hg⟩; have HB : Hid (Blk w3 w.heap.size (insV 0 0 0 0 0) 25) := Lib.hid (HB1.out.kp hg); have HK2 : Hid (Kp w w3) := Lib.hid (HK1.out.trans hg); clear hg) | (refine wpList_store_row rfl 25 (.tmp 2) (.tmp 7) rfl w.heap.size (rowV 18 W) rfl rfl _ _ HB.out (by rw [HV1.out.2]; kernel_rfl) HV1.out.2.symm HV1.out.1 ?_))
  refine bodyPost_ret (results_cell_row rfl _ _ _ _ _ _ _ rfl (HB.out.setRow (rowV 18 W)) Tryd.underlying25 rfl (by rw [HV1.out.2]; kernel_rfl)) rfl ?_
  exact ⟨rfl, HK2.out.setRow (Nat.le_refl _) _⟩
/-! All rows. -/
def SRow (w w' : World) (A k : Nat) : Prop := w'.cell? ⟨A, 0, none⟩ = some (.string (fName k)) ∧ w'.cell? ⟨A, 1, none⟩ = some (.int .u32 (fW k)) ∧ w'.cell? ⟨A, 2, none⟩ = some (.bool (fD k)) ∧ w'.cell? ⟨A, 3, none⟩ = some (.bool (fN k)) ∧ w'.cell? ⟨A, 4, none⟩ = some (.bool (fM k)) ∧ w'.cell? ⟨A, 5, none⟩ = some (.int .i64 (fLo k)) ∧ w'.cell? ⟨A, 6, none⟩ = some (.int .i64 (fWd k)) ∧ w'.cell? ⟨A, 7, none⟩ = some (.bool (fS k)) ∧ A < w'.heap.size ∧ Kp w w'
theorem SRow.kp {w w1 w2 : World} {A k : Nat} (h : SRow w w1 A k) (g : Kp w1 w2) : SRow w w2 A k := by
  obtain ⟨h0, h1, h2, h3, h4, h5, h6, h7, hl, hk⟩ := h
  have a := fun j => g.cell (o := j) hl
  exact ⟨(a _).trans h0, (a _).trans h1, (a _).trans h2, (a _).trans h3, (a _).trans h4, (a _).trans h5, (a _).trans h6, (a _).trans h7, Nat.lt_of_lt_of_le hl g.size, hk.trans g⟩
theorem SRow.of {w w' : World} {A k : Nat} (h : Blk w' A (fmtV k) 62) (hk : Kp w w') : SRow w w' A k := ⟨h.cell 0, h.cell 1, h.cell 2, h.cell 3, h.cell 4, h.cell 5, h.cell 6, h.cell 7, h.lt, hk⟩
theorem SRow.back {w w' : World} {A k : Nat} (h : SRow w w' A k) : Kp w w' := h.2.2.2.2.2.2.2.2.2
theorem news_at {w : World} {b : Nat} {cs : Array Value} {t : TypeId} (h : Blk w b cs t) : ∀ j u, cs.toList[j]? = some u → w.cell? ((⟨b, 0, none⟩ : Addr).add j) = some u := by
  intro j u hj
  have e : (⟨b, 0, none⟩ : Addr).add j = ⟨b, j, none⟩ := by unfold Addr.add; split <;> simp_all
  rw [e, h.cell]
  simpa using hj
theorem maxl7 {n : Nat} (h : n ≤ 100) : n ≤ maxLen := by unfold maxLen; omega
theorem fitsR {n : Nat} (h : n ≤ 50) : n + 1 ≤ maxLen ∧ (n + 1) * 16 ≤ 140737488355328 := ⟨maxl7 (by omega), by omega⟩
theorem Caps.lts {w : World} {B : Nat} {ps : List Nat} (h : Caps w B ps) (hn : ps.length ≤ 18) : ∀ q ∈ ps, q < w.heap.size := fun q hq => by
  obtain ⟨j, hj⟩ := List.getElem?_of_mem hq
  have hl := (List.getElem?_eq_some_iff.1 hj).1
  exact (h j q hj (by omega)).2.lt
set_option maxRecDepth 20000 in
set_option maxHeartbeats 8000000 in
theorem rows_any (w : World) (hF : FmtsRow w) :
    Calls Tryd.prog 48 #[] w fun e w' => ∃ v ps, e = .returned v ∧ ps.length = 19 ∧ OwnsR w' w.heap.size v ps ∧ Caps w' w.heap.size ps ∧ Kp w w' := by
  have HF := Lib.hid hF
  have HFA : Hid (∃ t fr, w.heap[0]? = some (.cells fmtA t fr)) := Lib.hid hF
  obtain ⟨tA, frA, hA⟩ := HFA.out
  have HA := Lib.hid hA
  obtain ⟨ii0, hi0, hz0, hz1, hz2⟩ := info_parts row_info
  clear hF HFA hA
  go_enter Tryd.func48, Tryd.ntmps48
  go_wp2_with (first | (at_make; refine wpList_make_own _ rfl _ _ 52 rfl w.heap.size 88 ii0 _ 3 Tryd.underlying52 hi0 hz0 hz1 _ _ _ 20 rfl rfl rfl (by rw [hz2]; omega) (by unfold maxLen; omega) (Nat.le_refl _) ?_; intro w1 hown hgrow; have HO1 : Hid (OwnsR w1 w.heap.size (.slice (some ⟨w.heap.size, 0, none⟩) 0 20) []) := Lib.hid hown; have HK1 : Hid (Kp w w1) := Lib.hid (Kp.grown (Kp.refl w) hgrow (fun k e => by cases e)); clear hown hgrow; have HA1 : Hid (w1.heap[0]? = some (.cells fmtA tA frA)) := Lib.hid ((Below.block HK1.out _ (lt_of_block HA.out)).trans HA.out)) | refine wpList_load_row rfl 63 (.global 0) rfl 0 rfl _ _ _ _ HA1.out Tryd.underlying63 rfl (by kernel_rfl) ?_)
  go_loopw [1, 2, 3, 4, 8] (fun l s2 s3 s4 x wr => ∃ k : Nat, ∃ ps, k ≤ 19 ∧ x = .int .i64 k ∧ ps.length = min k 18 ∧ OwnsR wr w.heap.size l ps ∧ Caps wr w.heap.size ps ∧ Free ps l ∧ Kp w wr) (fun _ _ _ _ x _ => 19 - (intOf x).toNat)
  case atStart => exact ⟨0, [], by omega, rfl, rfl, HO1.out, fun j p hp => by simp at hp, fun p hp => by simp at hp, HK1.out⟩
  case round =>
    obtain ⟨k, ps, hk19, rfl, hlen, hown, hcap, hfree, hk⟩ := hrel
    obtain ⟨w3, rfl⟩ : ∃ w3, w3 = wr := ⟨_, rfl⟩
    have HOW := Lib.hid hown
    have HCP := Lib.hid hcap
    have HFR := Lib.hid hfree
    have HK := Lib.hid hk
    clear hown hcap hfree hk
    by_cases h19 : k = 19
    · subst h19
      have HL : Hid (ps.length = 18) := Lib.hid (by omega)
      clear hk19 hlen
      have hok := (HF.out.kp HK.out).ok
      have hc0 : w3.cell? ⟨0, 56, none⟩ = some (.string (fName 7)) := hok.at 7 0 (by decide) (by decide)
      have hc1 : w3.cell? ⟨0, 57, none⟩ = some (.int .u32 (fW 7)) := hok.at 7 1 (by decide) (by decide)
      have hc2 : w3.cell? ⟨0, 58, none⟩ = some (.bool (fD 7)) := hok.at 7 2 (by decide) (by decide)
      have hc3 : w3.cell? ⟨0, 59, none⟩ = some (.bool (fN 7)) := hok.at 7 3 (by decide) (by decide)
      have hc4 : w3.cell? ⟨0, 60, none⟩ = some (.bool (fM 7)) := hok.at 7 4 (by decide) (by decide)
      have hc5 : w3.cell? ⟨0, 61, none⟩ = some (.int .i64 (fLo 7)) := hok.at 7 5 (by decide) (by decide)
      have hc6 : w3.cell? ⟨0, 62, none⟩ = some (.int .i64 (fWd 7)) := hok.at 7 6 (by decide) (by decide)
      have hc7 : w3.cell? ⟨0, 63, none⟩ = some (.bool (fS 7)) := hok.at 7 7 (by decide) (by decide)
      have hM := Lib.hid (fun w => mask_any 7 w (by decide))
      have HNE : Hid (u1.ownBlock ≠ some w3.heap.size) := Lib.hid (fun e => by have := (World.ownsRow.lt HOW.out _ e).2; omega)
      have HOW1 : Hid (OwnsR (w3.alloc (.cells (fmtV 7) 62)).drew w.heap.size u1 ps) := Lib.hid (HOW.out.kp ((kpA _ _ _).drew))
      have HCP1 : Hid (Caps (w3.alloc (.cells (fmtV 7) 62)).drew w.heap.size ps) := Lib.hid (HCP.out.kp ((kpA _ _ _).drew))
      have HA1 : Hid (Blk (w3.alloc (.cells (fmtV 7) 62)).drew w3.heap.size (fmtV 7) 62) := Lib.hid (Blk.new w3 _ _).drew
      have HK1 : Hid (Kp w (w3.alloc (.cells (fmtV 7) 62)).drew) := Lib.hid (HK.out.trans ((kpA _ _ _).drew))
      have HSZ := Lib.hid HK.out.size
      have HRC : Hid ([.int .u32 (mkN 7), .int .u32 (bits .or .u32 (fW 7 : Int) 1073741824), .func (.func 63) #[] #[]] = rowC ps.length 0) := Lib.hid (by rw [HL.out]; rfl)
      have HM := Lib.hid (fitsR (n := ps.length) (by have := HL.out; omega))
      unfold fmtV at HOW1 HCP1 HA1 HK1
      clear hok
      go_wp2_with fail
      refine wp_region_held_drew (S := fun w' => w'.cell? ⟨w3.heap.size, 0, none⟩ = some (.string (fName 7)) ∧ w'.cell? ⟨w3.heap.size, 1, none⟩ = some (.int .u32 (fW 7)) ∧ w'.cell? ⟨w3.heap.size, 2, none⟩ = some (.bool (fD 7)) ∧ w'.cell? ⟨w3.heap.size, 3, none⟩ = some (.bool (fN 7)) ∧ w'.cell? ⟨w3.heap.size, 4, none⟩ = some (.bool (fM 7)) ∧ w'.cell? ⟨w3.heap.size, 5, none⟩ = some (.int .i64 (fLo 7)) ∧ w'.cell? ⟨w3.heap.size, 6, none⟩ = some (.int .i64 (fWd 7)) ∧ w'.cell? ⟨w3.heap.size, 7, none⟩ = some (.bool (fS 7)) ∧ w3.heap.size < w'.heap.size ∧ Kp w w') (by kernel_rfl) (SRow.of (k := 7) HA1.out HK1.out) (fun hHeld => ?_)
      have hown0 := HOW1.out
      have hcap0 := HCP1.out
      have hA0 := HA1.out
      clear HOW1 HCP1 HA1 HK1 hc0 hc1 hc2 hc3 hc4 hc5 hc6 hc7
      generalize World.drew _ = wz at hHeld hown0 hcap0 hA0 ⊢
      refine wpAnyH_take (i := 0) (oi := ?p0z501) (v := ?v0z501) ?o0z501 (by kernel_rfl) (by kernel_rfl) (by kernel_rfl) ?q0z501 ?y0z501 (by assumption) ?r0z501
      case o0z501 => (simp only [List.getElem?_toArray, List.getElem?_cons_zero]; rfl)
      case q0z501 => (exact fun _ _ _ h => h)
      case y0z501 => (refine Or.inl ⟨by rfl, ?_⟩; intro w hSw; (try dsimp only at hSw); go_simp; (try with_reducible rfl))
      simp only [Act.put, List.setIfInBounds_toArray, List.set_cons_zero, List.set_cons_succ]
      refine wpAnyH_take (i := 1) (oi := ?p1z502) (v := ?v1z502) ?o1z502 (by kernel_rfl) (by kernel_rfl) (by kernel_rfl) ?q1z502 ?y1z502 (by assumption) ?r1z502
      case o1z502 => (simp only [List.getElem?_toArray, List.getElem?_cons_succ, List.getElem?_cons_zero]; rfl)
      case q1z502 => (exact fun _ _ _ h => h)
      case y1z502 => (refine Or.inl ⟨by rfl, ?_⟩; intro w hSw; (try dsimp only at hSw); go_simp; (try with_reducible rfl))
      simp only [Act.put, List.setIfInBounds_toArray, List.set_cons_zero, List.set_cons_succ]
      refine wpAnyH_take (i := 3) (oi := ?p3z503) (v := ?v3z503) ?o3z503 (by kernel_rfl) (by kernel_rfl) (by kernel_rfl) ?q3z503 ?y3z503 (by assumption) ?r3z503
      case o3z503 => (simp only [List.getElem?_toArray, List.getElem?_cons_succ, List.getElem?_cons_zero]; rfl)
      case q3z503 => (exact fun _ _ _ h => h)
      case y3z503 => (refine Or.inl ⟨by rfl, ?_⟩; intro w hSw; (try dsimp only at hSw); go_simp; (try with_reducible rfl))
      simp only [Act.put, List.setIfInBounds_toArray, List.set_cons_zero, List.set_cons_succ]
      refine wpAnyH_take (i := 4) (oi := ?p4z504) (v := ?v4z504) ?o4z504 (by kernel_rfl) (by kernel_rfl) (by kernel_rfl) ?q4z504 ?y4z504 (by assumption) ?r4z504
      case o4z504 => (simp only [List.getElem?_toArray, List.getElem?_cons_succ, List.getElem?_cons_zero]; rfl)
      case q4z504 => (exact fun _ _ _ h => h)
      case y4z504 => (refine Or.inl ⟨by rfl, ?_⟩; intro w hSw; (try dsimp only at hSw); go_simp; (try with_reducible rfl))
      simp only [Act.put, List.setIfInBounds_toArray, List.set_cons_zero, List.set_cons_succ]
      refine wpAnyH_take (i := 5) (oi := ?p5z505) (v := ?v5z505) ?o5z505 (by kernel_rfl) (by kernel_rfl) (by kernel_rfl) ?q5z505 ?y5z505 (by assumption) ?r5z505
      case o5z505 => (simp only [List.getElem?_toArray, List.getElem?_cons_succ, List.getElem?_cons_zero]; rfl)
      case q5z505 => (exact fun _ _ _ h => h)
      case y5z505 => (refine Or.inl ⟨by rfl, ?_⟩; intro w hSw; (try dsimp only at hSw); go_simp; (try with_reducible rfl))
      simp only [Act.put, List.setIfInBounds_toArray, List.set_cons_zero, List.set_cons_succ]
      refine wpAnyH_ready (rs := [2]) (by kernel_rfl) (by simp) ?_
      refine (AllReadyH.cons (o := ?pz506) ?oz506 (fun K hK => ?wz506) AllReadyH.nil)
      case oz506 => (simp only [List.getElem?_toArray, List.getElem?_cons_succ, List.getElem?_cons_zero]; rfl)
      case wz506 =>
        rw [if_pos (by rfl)]
        go_simp
        refine (hM.out _).mono ?_; rintro e wz507 ⟨rfl, hgz507⟩
        (try go_wp2_with fail)
        have fz508 := hown0.kp hgz507
        have fz509 := hcap0.kp hgz507
        have fz510 := hA0.kp hgz507
        refine hK.out _ _ (SRow.kp (k := 7) hHeld hgz507) (fun hz507 => ?_)
        clear hK K hgz507
        refine wpAnyH_take (i := 6) (oi := ?p6z511) (v := ?v6z511) ?o6z511 (by kernel_rfl) (by kernel_rfl) (by kernel_rfl) ?q6z511 ?y6z511 (by assumption) ?r6z511
        case o6z511 => (simp only [List.getElem?_toArray, List.getElem?_cons_succ, List.getElem?_cons_zero]; rfl)
        case q6z511 => (exact fun _ _ _ h => h)
        case y6z511 => (refine Or.inl ⟨by rfl, ?_⟩; intro w hSw; (try dsimp only at hSw); go_simp; (try with_reducible rfl))
        simp only [Act.put, List.setIfInBounds_toArray, List.set_cons_zero, List.set_cons_succ]
        refine wpAnyH_ready (rs := [7]) (by kernel_rfl) (by simp) ?_
        refine (AllReadyH.cons (o := ?pz512) ?oz512 (fun K hK => ?wz512) AllReadyH.nil)
        case oz512 => (simp only [List.getElem?_toArray, List.getElem?_cons_succ, List.getElem?_cons_zero]; rfl)
        case wz512 =>
          rw [if_pos (by rfl)]
          go_simp
          have hgz513 := kpA wz507 #[.int .u32 (mkN 7), .int .u32 (bits .or .u32 (fW 7 : Int) 1073741824), .func (.func 63) #[] #[]] 88
          have fz514 := fz508.kp hgz513
          have fz515 := fz509.kp hgz513
          have fz516 := fz510.kp hgz513
          have hBz513 := Blk.new wz507 #[.int .u32 (mkN 7), .int .u32 (bits .or .u32 (fW 7 : Int) 1073741824), .func (.func 63) #[] #[]] 88
          refine hK.out _ _ (SRow.kp (k := 7) hz507 hgz513) (fun hz513 => ?_)
          clear hK K hgz513
          generalize wz507.alloc (.cells #[.int .u32 (mkN 7), .int .u32 (bits .or .u32 (fW 7 : Int) 1073741824), .func (.func 63) #[] #[]] 88) = wz513 at hz513 fz514 fz515 fz516 hBz513 ⊢
          refine wpAnyH_ready (rs := [8]) (by kernel_rfl) (by simp) ?_
          refine (AllReadyH.cons (o := ?pz517) ?oz517 (fun K hK => ?wz517) AllReadyH.nil)
          case oz517 => (simp only [List.getElem?_toArray, List.getElem?_cons_succ, List.getElem?_cons_zero]; rfl)
          case wz517 =>
            rw [if_pos (by rfl)]
            refine wp_append_at _ (.tmp 28) (.tmp 35) 52 rfl w.heap.size 88 ii0 _ 3 16 Tryd.underlying52 hi0 hz0 hz1 hz2 rfl (by decide) _ _ _ rfl fz514 ⟨wz507.heap.size, 0, none⟩ 1 1 [.int .u32 (mkN 7), .int .u32 (bits .or .u32 (fW 7 : Int) 1073741824), .func (.func 63) #[] #[]] rfl rfl (news_at hBz513) (by rw [HRC.out]; exact rowC_one _ _) HM.out.1 HM.out.2 (Kp.size (SRow.back (k := 7) hz513)) ?_
            intro v' wz518 hown1 hg1 hat1
            rw [HRC.out] at hown1
            have hst := OwnsR.step (SRow.back (k := 7) hz513) fz514 hown1 hg1
            have hcp := Caps.snoc (p := 0) (Caps.grown fz515 HFR.out hg1) (fun h => by have := HL.out; omega) (fun h => by have := HL.out; omega)
            have hsr : SRow w wz518 w3.heap.size 7 := SRow.of (Blk.grown fz516 hg1 HNE.out) hst.2
            clear hown1 hg1 hat1
            refine hK.out _ _ hsr (fun hz518 => ?_)
            clear hK K hsr
            refine wpAnyH_take (i := 9) (oi := ?p9z519) (v := ?v9z519) ?o9z519 (by kernel_rfl) (by kernel_rfl) (by kernel_rfl) ?q9z519 ?y9z519 (by assumption) ?r9z519
            case o9z519 => (simp only [List.getElem?_toArray, List.getElem?_cons_succ, List.getElem?_cons_zero]; rfl)
            case q9z519 => (exact fun _ _ _ h => h)
            case y9z519 => (refine Or.inl ⟨by rfl, ?_⟩; intro w hSw; (try dsimp only at hSw); go_simp; (try with_reducible rfl))
            simp only [Act.put, List.setIfInBounds_toArray, List.set_cons_zero, List.set_cons_succ]
            refine wpAnyH_done (by kernel_rfl) ?_ _
            have HST := Lib.hid hst
            have HCQ := Lib.hid hcp
            clear hst hcp
            go_wp2_with fail
            go_ret
            exact ⟨_, _, rfl, by have := HL.out; simp; omega, HST.out.1, HCQ.out, HST.out.2⟩
    · have hk18 : k < 19 := by omega
      have k0 : (0 : Int) ≤ (k : Int) := by omega
      have k1 : (k : Int) < 19 := by omega
      have HK3 := Lib.hid hk18
      have hidx : ∀ w, (Instr.index 63 (.agg fmtA) (.int .i64 k)).run Tryd.prog w = .ok (.agg #[.string (fName k), .int .u32 (fW k), .bool (fD k), .bool (fN k), .bool (fM k), .int .i64 (fLo k), .int .i64 (fWd k), .bool (fS k)]) w := fmt_idx k hk18
      have hM := Lib.hid (fun w => mask_any k w hk18)
      clear hk19 h19 hk18
      by_cases h18 : k = 18
      · have e18 : ((k : Int) == 18) = true := by simp; omega
        have HL : Hid (ps.length = 18 ∧ k = 18) := Lib.hid (by omega)
        clear hlen h18
        go_wp2_with fail
        go_roundw
        case rel => exact ⟨k + 1, ps, by have := HK3.out; omega, by go_num, by have := HL.out; omega, HOW.out.kp ((kpA _ _ _).alloc _ _), HCP.out.kp ((kpA _ _ _).alloc _ _), HFR.out, HK.out.trans ((kpA _ _ _).alloc _ _)⟩
        case measure => have := HK3.out; simp [intOf]; omega
      · have e18 : ((k : Int) == 18) = false := by simp; omega
        have HL : Hid (ps.length = k ∧ k < 18) := Lib.hid (by have := HK3.out; omega)
        clear hlen h18
        have HNE : Hid (u1.ownBlock ≠ some w3.heap.size ∧ u1.ownBlock ≠ some (w3.heap.size + 1)) := Lib.hid ⟨fun e => by have := (World.ownsRow.lt HOW.out _ e).2; omega, fun e => by have := (World.ownsRow.lt HOW.out _ e).2; omega⟩
        have HOW1 : Hid (OwnsR ((w3.alloc (.cells (fmtV k) 62)).alloc (.cells #[.int .i8 k] 23)).drew w.heap.size u1 ps) := Lib.hid (HOW.out.kp (((kpA _ _ _).alloc _ _).drew))
        have HCP1 : Hid (Caps ((w3.alloc (.cells (fmtV k) 62)).alloc (.cells #[.int .i8 k] 23)).drew w.heap.size ps) := Lib.hid (HCP.out.kp (((kpA _ _ _).alloc _ _).drew))
        have HA1 : Hid (Blk ((w3.alloc (.cells (fmtV k) 62)).alloc (.cells #[.int .i8 k] 23)).drew w3.heap.size (fmtV k) 62) := Lib.hid ((Blk.new w3 _ _).alloc _).drew
        have HB1 : Hid (Blk ((w3.alloc (.cells (fmtV k) 62)).alloc (.cells #[.int .i8 k] 23)).drew (w3.heap.size + 1) #[.int .i8 k] 23) := Lib.hid (Blk.new2 w3 _ _ _).drew
        have HK1 : Hid (Kp w ((w3.alloc (.cells (fmtV k) 62)).alloc (.cells #[.int .i8 k] 23)).drew) := Lib.hid (HK.out.trans (((kpA _ _ _).alloc _ _).drew))
        have HSZ := Lib.hid HK.out.size
        have HRC : Hid ([.int .u32 (mkN k), .int .u32 (fW k), .func (.func 61) #[] #[.pointer (some ⟨w3.heap.size + 1, 0, none⟩)]] = rowC ps.length (w3.heap.size + 1)) := Lib.hid (by
          rw [HL.out.1]
          unfold rowC rowM rowW fnV
          rw [if_pos HL.out.2, if_pos HL.out.2, if_pos HL.out.2])
        have HRF : Hid (rowF ps.length = k ∧ (ps.length : Int) = (k : Int)) := Lib.hid ⟨by rw [HL.out.1]; exact if_pos HL.out.2, by rw [HL.out.1]⟩
        have HM := Lib.hid (fitsR (n := ps.length) (by have := HL.out; omega))
        unfold fmtV at HOW1 HCP1 HA1 HB1 HK1
        go_wp2_with fail
        refine wp_region_held_drew (S := fun w' => w'.cell? ⟨w3.heap.size, 0, none⟩ = some (.string (fName k)) ∧ w'.cell? ⟨w3.heap.size, 1, none⟩ = some (.int .u32 (fW k)) ∧ w'.cell? ⟨w3.heap.size, 2, none⟩ = some (.bool (fD k)) ∧ w'.cell? ⟨w3.heap.size, 3, none⟩ = some (.bool (fN k)) ∧ w'.cell? ⟨w3.heap.size, 4, none⟩ = some (.bool (fM k)) ∧ w'.cell? ⟨w3.heap.size, 5, none⟩ = some (.int .i64 (fLo k)) ∧ w'.cell? ⟨w3.heap.size, 6, none⟩ = some (.int .i64 (fWd k)) ∧ w'.cell? ⟨w3.heap.size, 7, none⟩ = some (.bool (fS k)) ∧ w3.heap.size < w'.heap.size ∧ Kp w w') (by kernel_rfl) (SRow.of (k := k) HA1.out HK1.out) (fun hHeld => ?_)
        have hown0 := HOW1.out
        have hcap0 := HCP1.out
        have hA0 := HA1.out
        have hB0 := HB1.out
        clear HOW1 HCP1 HA1 HB1 HK1
        generalize World.drew _ = wz at hHeld hown0 hcap0 hA0 hB0 ⊢
        refine wpAnyH_take (i := 0) (oi := ?p0z101) (v := ?v0z101) ?o0z101 (by kernel_rfl) (by kernel_rfl) (by kernel_rfl) ?q0z101 ?y0z101 (by assumption) ?r0z101
        case o0z101 => (simp only [List.getElem?_toArray, List.getElem?_cons_zero]; rfl)
        case q0z101 => (exact fun _ _ _ h => h)
        case y0z101 => (refine Or.inl ⟨by rfl, ?_⟩; intro w hSw; (try dsimp only at hSw); go_simp; (try with_reducible rfl))
        simp only [Act.put, List.setIfInBounds_toArray, List.set_cons_zero, List.set_cons_succ]
        refine wpAnyH_take (i := 1) (oi := ?p1z102) (v := ?v1z102) ?o1z102 (by kernel_rfl) (by kernel_rfl) (by kernel_rfl) ?q1z102 ?y1z102 (by assumption) ?r1z102
        case o1z102 => (simp only [List.getElem?_toArray, List.getElem?_cons_succ, List.getElem?_cons_zero]; rfl)
        case q1z102 => (exact fun _ _ _ h => h)
        case y1z102 => (refine Or.inl ⟨by rfl, ?_⟩; intro w hSw; (try dsimp only at hSw); go_simp; (try with_reducible rfl))
        simp only [Act.put, List.setIfInBounds_toArray, List.set_cons_zero, List.set_cons_succ]
        refine wpAnyH_take (i := 3) (oi := ?p3z103) (v := ?v3z103) ?o3z103 (by kernel_rfl) (by kernel_rfl) (by kernel_rfl) ?q3z103 ?y3z103 (by assumption) ?r3z103
        case o3z103 => (simp only [List.getElem?_toArray, List.getElem?_cons_succ, List.getElem?_cons_zero]; rfl)
        case q3z103 => (exact fun _ _ _ h => h)
        case y3z103 => (refine Or.inl ⟨by rfl, ?_⟩; intro w hSw; (try dsimp only at hSw); go_simp; (try with_reducible rfl))
        simp only [Act.put, List.setIfInBounds_toArray, List.set_cons_zero, List.set_cons_succ]
        refine wpAnyH_take (i := 4) (oi := ?p4z104) (v := ?v4z104) ?o4z104 (by kernel_rfl) (by kernel_rfl) (by kernel_rfl) ?q4z104 ?y4z104 (by assumption) ?r4z104
        case o4z104 => (simp only [List.getElem?_toArray, List.getElem?_cons_succ, List.getElem?_cons_zero]; rfl)
        case q4z104 => (exact fun _ _ _ h => h)
        case y4z104 => (refine Or.inl ⟨by rfl, ?_⟩; intro w hSw; (try dsimp only at hSw); go_simp; (try with_reducible rfl))
        simp only [Act.put, List.setIfInBounds_toArray, List.set_cons_zero, List.set_cons_succ]
        refine wpAnyH_take (i := 5) (oi := ?p5z105) (v := ?v5z105) ?o5z105 (by kernel_rfl) (by kernel_rfl) (by kernel_rfl) ?q5z105 ?y5z105 (by assumption) ?r5z105
        case o5z105 => (simp only [List.getElem?_toArray, List.getElem?_cons_succ, List.getElem?_cons_zero]; rfl)
        case q5z105 => (exact fun _ _ _ h => h)
        case y5z105 => (refine Or.inl ⟨by rfl, ?_⟩; intro w hSw; (try dsimp only at hSw); go_simp; (try with_reducible rfl))
        simp only [Act.put, List.setIfInBounds_toArray, List.set_cons_zero, List.set_cons_succ]
        refine wpAnyH_ready (rs := [2]) (by kernel_rfl) (by simp) ?_
        refine (AllReadyH.cons (o := ?pz106) ?oz106 (fun K hK => ?wz106) AllReadyH.nil)
        case oz106 => (simp only [List.getElem?_toArray, List.getElem?_cons_succ, List.getElem?_cons_zero]; rfl)
        case wz106 =>
          rw [if_pos (by rfl)]
          go_simp
          refine (hM.out _).mono ?_; rintro e wz107 ⟨rfl, hgz107⟩
          (try go_wp2_with fail)
          have fz108 := hown0.kp hgz107
          have fz109 := hcap0.kp hgz107
          have fz110 := hA0.kp hgz107
          have fz111 := hB0.kp hgz107
          refine hK.out _ _ (SRow.kp (k := k) hHeld hgz107) (fun hz107 => ?_)
          clear hK K hgz107
          refine wpAnyH_take (i := 6) (oi := ?p6z112) (v := ?v6z112) ?o6z112 (by kernel_rfl) (by kernel_rfl) (by kernel_rfl) ?q6z112 ?y6z112 (by assumption) ?r6z112
          case o6z112 => (simp only [List.getElem?_toArray, List.getElem?_cons_succ, List.getElem?_cons_zero]; rfl)
          case q6z112 => (exact fun _ _ _ h => h)
          case y6z112 => (refine Or.inl ⟨by rfl, ?_⟩; intro w hSw; (try dsimp only at hSw); go_simp; (try with_reducible rfl))
          simp only [Act.put, List.setIfInBounds_toArray, List.set_cons_zero, List.set_cons_succ]
          refine wpAnyH_ready (rs := [7]) (by kernel_rfl) (by simp) ?_
          refine (AllReadyH.cons (o := ?pz113) ?oz113 (fun K hK => ?wz113) AllReadyH.nil)
          case oz113 => (simp only [List.getElem?_toArray, List.getElem?_cons_succ, List.getElem?_cons_zero]; rfl)
          case wz113 =>
            rw [if_pos (by rfl)]
            go_simp
            have hgz114 := kpA wz107 #[.int .u32 (mkN k), .int .u32 (fW k), .func (.func 61) #[] #[.pointer (some ⟨w3.heap.size + 1, 0, none⟩)]] 88
            have fz115 := fz108.kp hgz114
            have fz116 := fz109.kp hgz114
            have fz117 := fz110.kp hgz114
            have fz118 := fz111.kp hgz114
            have hBz114 := Blk.new wz107 #[.int .u32 (mkN k), .int .u32 (fW k), .func (.func 61) #[] #[.pointer (some ⟨w3.heap.size + 1, 0, none⟩)]] 88
            refine hK.out _ _ (SRow.kp (k := k) hz107 hgz114) (fun hz114 => ?_)
            clear hK K hgz114
            generalize wz107.alloc (.cells #[.int .u32 (mkN k), .int .u32 (fW k), .func (.func 61) #[] #[.pointer (some ⟨w3.heap.size + 1, 0, none⟩)]] 88) = wz114 at hz114 fz115 fz116 fz117 fz118 hBz114 ⊢
            refine wpAnyH_ready (rs := [8]) (by kernel_rfl) (by simp) ?_
            refine (AllReadyH.cons (o := ?pz119) ?oz119 (fun K hK => ?wz119) AllReadyH.nil)
            case oz119 => (simp only [List.getElem?_toArray, List.getElem?_cons_succ, List.getElem?_cons_zero]; rfl)
            case wz119 =>
              rw [if_pos (by rfl)]
              refine wp_append_at _ (.tmp 16) (.tmp 23) 52 rfl w.heap.size 88 ii0 _ 3 16 Tryd.underlying52 hi0 hz0 hz1 hz2 rfl (by decide) _ _ _ rfl fz115 ⟨wz107.heap.size, 0, none⟩ 1 1 [.int .u32 (mkN k), .int .u32 (fW k), .func (.func 61) #[] #[.pointer (some ⟨w3.heap.size + 1, 0, none⟩)]] rfl rfl (news_at hBz114) (by rw [HRC.out]; exact rowC_one _ _) HM.out.1 HM.out.2 (Kp.size (SRow.back (k := k) hz114)) ?_
              intro v' wz120 hown1 hg1 hat1
              rw [HRC.out] at hown1
              have hst := OwnsR.step (SRow.back (k := k) hz114) fz115 hown1 hg1
              have hcp := Caps.snoc (p := w3.heap.size + 1) (Caps.grown fz116 HFR.out hg1) (fun _ => Nat.le_succ_of_le HSZ.out) (fun _ => by rw [HRF.out.2]; exact Blk.grown fz118 hg1 HNE.out.2)
              have hfr := Free.step (p := w3.heap.size + 1) HFR.out HNE.out.2 (fun q hq => by
                rw [List.mem_append] at hq
                rcases hq with hq | hq
                · exact Caps.lts fz116 (by have := HL.out; omega) q hq
                · rw [List.mem_singleton] at hq
                  subst hq
                  exact (fz118).lt) hat1
              have hsr : SRow w wz120 w3.heap.size k := SRow.of (Blk.grown fz117 hg1 HNE.out.1) hst.2
              clear hown1 hg1 hat1
              refine hK.out _ _ hsr (fun hz120 => ?_)
              clear hK K hsr
              refine wpAnyH_take (i := 9) (oi := ?p9z121) (v := ?v9z121) ?o9z121 (by kernel_rfl) (by kernel_rfl) (by kernel_rfl) ?q9z121 ?y9z121 (by assumption) ?r9z121
              case o9z121 => (simp only [List.getElem?_toArray, List.getElem?_cons_succ, List.getElem?_cons_zero]; rfl)
              case q9z121 => (exact fun _ _ _ h => h)
              case y9z121 => (refine Or.inl ⟨by rfl, ?_⟩; intro w hSw; (try dsimp only at hSw); go_simp; (try with_reducible rfl))
              simp only [Act.put, List.setIfInBounds_toArray, List.set_cons_zero, List.set_cons_succ]
              refine wpAnyH_done (by kernel_rfl) ?_ _
              have HST := Lib.hid hst
              have HCQ := Lib.hid hcp
              have HFQ := Lib.hid hfr
              clear hst hcp hfr
              go_wp2_with fail
              go_roundw
              case rel => exact ⟨k + 1, _, by have := HK3.out; omega, by go_num, by have := HL.out; simp; omega, HST.out.1, HCQ.out, HFQ.out, HST.out.2⟩
              case measure => have := HK3.out; simp [intOf]; omega
end Go.Proofs.YtfbkppncaampdaaDoor
