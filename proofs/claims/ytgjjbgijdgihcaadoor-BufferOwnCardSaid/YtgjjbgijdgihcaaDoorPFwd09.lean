/-
  Package buffer: Forward, at the landed code. No condition but the table.
-/
import Derived.Test.YtgjjbgijdgihcaaDoorBwd09
namespace Go.Proofs.YtgjjbgijdgihcaaDoor
open Go Go.RowKit Go.Shelf
attribute [local go_sem] Oper.semAt_some

theorem Kp.others {w w' : World} (h : Kp w w') : KeepsOthers w w' := ⟨h.size, fun k _ ho _ => (Below.block h k (Array.getElem?_eq_some_iff.1 ho).1).trans ho⟩
/-- Does the entry name the word as one to be written? -/
def nmW (e : Ent) (u : Nat) : Bool := mtB (wrS e) (u, u + 1)
theorem fwR_skip {e : Ent} {u : Nat} (h : mayB e = true) (hn : nmW e u = false) (l : List Ent) : fwR (e :: l) u = fwR l u := by
  unfold nmW mtB meetB wrS at hn
  rcases kinds h with ⟨a, _, _⟩ | a | ⟨a, b⟩ | ⟨a, b, c⟩ <;> simp [a] at hn
  · rw [fwR, if_neg (by omega), if_neg (by omega), if_neg (by omega)]
  · rw [fwR, if_neg (by omega), if_neg (by omega), if_neg (by omega)]
  · rw [fwR, if_neg (by omega), if_neg (by omega), if_neg (by omega)]
  · rw [fwR, if_neg (by omega), if_neg (by omega), if_neg (by omega)]
theorem fwR_copy {e : Ent} {u : Nat} (h : mayB e = true) (hn : nmW e u = true) (hk : e.k = 3) (l : List Ent) : fwR (e :: l) u = (0, false, 21) := by
  unfold nmW mtB meetB wrS at hn
  rcases kinds h with ⟨a, _, _⟩ | a | ⟨a, b⟩ | ⟨a, b, c⟩ <;> simp [a] at hn
  · omega
  · omega
  · rw [fwR, if_neg (by omega), if_neg (by omega), if_pos (by omega)]
theorem fwR_hit {e : Ent} {u : Nat} (h : mayB e = true) (hn : nmW e u = true) (hk : e.k ≠ 3) (l : List Ent) : fwR (e :: l) u = (e.x, true, 0) := by
  have h' := h
  unfold nmW mtB meetB wrS at hn
  rcases kinds h with ⟨a, _, _⟩ | a | ⟨a, b⟩ | ⟨a, b, c⟩ <;> simp [a] at hn
  · rw [fwR, if_pos (by omega)]
  · unfold mayB at h'
    simp [a] at h'
    rw [fwR, if_neg (by omega), if_pos (by omega), h'.1.1.1.2]
  · exact absurd a hk
theorem kind_hit {e : Ent} {u : Nat} (h : mayB e = true) (hn : nmW e u = true) : e.k = 0 ∨ e.k = 2 ∨ e.k = 3 := by
  unfold nmW mtB meetB wrS at hn
  rcases kinds h with ⟨a, _, _⟩ | a | ⟨a, b⟩ | ⟨a, b, c⟩ <;> simp [a] at hn <;> omega
/-- Forward's own boxes: the word, and the three results. -/
def FB (w wr : World) (u : Nat) (a : Nat) (b : Bool) (c : Int) : Prop := Blk wr w.heap.size #[.int .u64 u] 24 ∧ Blk wr (w.heap.size + 1) #[.int .u64 a] 24 ∧ Blk wr (w.heap.size + 1 + 1) #[.bool b] 4 ∧ Blk wr (w.heap.size + 1 + 1 + 1) #[.int .i64 c] 28 ∧ Kp w wr
theorem FB.new (w : World) (u : Nat) : FB w ((((w.alloc (.cells #[.int .u64 u] 24)).alloc (.cells #[.int .u64 0] 24)).alloc (.cells #[.bool false] 4)).alloc (.cells #[.int .i64 0] 28)) u 0 false 0 := by
  refine ⟨(((Blk.new w _ _).alloc _).alloc _).alloc _, ((Blk.new2 w _ _ _).alloc _).alloc _, ?_, ?_, (((kpA _ _ _).alloc _ _).alloc _ _).alloc _ _⟩
  · have := Blk.new ((w.alloc (.cells #[.int .u64 u] 24)).alloc (.cells #[.int .u64 0] 24)) #[.bool false] 4
    simp only [World.size_alloc] at this
    exact this.alloc _
  · have := Blk.new (((w.alloc (.cells #[.int .u64 u] 24)).alloc (.cells #[.int .u64 0] 24)).alloc (.cells #[.bool false] 4)) #[.int .i64 0] 28
    simp only [World.size_alloc] at this
    exact this
theorem FB.kp {w wr wx : World} {u a : Nat} {b : Bool} {c : Int} (h : FB w wr u a b c) (g : Kp wr wx) : FB w wx u a b c := ⟨h.1.kp g, h.2.1.kp g, h.2.2.1.kp g, h.2.2.2.1.kp g, h.2.2.2.2.trans g⟩
theorem FB.cells {w wr : World} {u a : Nat} {b : Bool} {c : Int} (h : FB w wr u a b c) : wr.cell? ⟨w.heap.size, 0, none⟩ = some (.int .u64 u) ∧ wr.cell? ⟨w.heap.size + 1, 0, none⟩ = some (.int .u64 a) ∧ wr.cell? ⟨w.heap.size + 1 + 1, 0, none⟩ = some (.bool b) ∧ wr.cell? ⟨w.heap.size + 1 + 1 + 1, 0, none⟩ = some (.int .i64 c) ∧ wr.frozen? ⟨w.heap.size + 1, 0, none⟩ = false ∧ wr.frozen? ⟨w.heap.size + 1 + 1, 0, none⟩ = false ∧ wr.frozen? ⟨w.heap.size + 1 + 1 + 1, 0, none⟩ = false :=
  ⟨h.1.cell 0, h.2.1.cell 0, h.2.2.1.cell 0, h.2.2.2.1.cell 0, h.2.1.frozen 0, h.2.2.1.frozen 0, h.2.2.2.1.frozen 0⟩
/-- The three results stored. -/
theorem FB.put {w wr : World} {u a : Nat} {b : Bool} {c : Int} (h : FB w wr u a b c) (a' : Nat) (b' : Bool) (c' : Int) : FB w (((wr.setCell ⟨w.heap.size + 1, 0, none⟩ (.int .u64 a')).setCell ⟨w.heap.size + 1 + 1, 0, none⟩ (.bool b')).setCell ⟨w.heap.size + 1 + 1 + 1, 0, none⟩ (.int .i64 c')) u a' b' c' := by
  obtain ⟨h1, h2, h3, h4, h5⟩ := h
  refine ⟨((h1.other ?_ _).other ?_ _).other ?_ _, ((h2.set 0 _).other ?_ _).other ?_ _, ((h3.other ?_ _).set 0 _).other ?_ _, ((h4.other ?_ _).other ?_ _).set 0 _, ((h5.setCell ?_ _).setCell ?_ _).setCell ?_ _⟩
  all_goals first | (show _ ≤ _; simp <;> omega) | (show ¬ _ = _; simp <;> omega)
theorem res3 {w wr : World} {u a : Nat} {b : Bool} {c : Int} (h : FB w wr u a b c) (tmps : Array Value) (h4 : tmps.getD 4 undef = .pointer (some ⟨w.heap.size + 1, 0, none⟩)) (h5 : tmps.getD 5 undef = .pointer (some ⟨w.heap.size + 1 + 1, 0, none⟩)) (h6 : tmps.getD 6 undef = .pointer (some ⟨w.heap.size + 1 + 1 + 1, 0, none⟩)) :
    (results Tryd.f12 tmps).run Tryd.prog wr = .ok (.tuple #[.int .u64 a, .bool b, .int .i64 c]) wr := by
  obtain ⟨z0, z1, z2, z3, z4, z5, z6⟩ := h.cells
  have h4' : tmps[4]?.getD undef = .pointer (some ⟨w.heap.size + 1, 0, none⟩) := by simpa using h4
  have h5' : tmps[5]?.getD undef = .pointer (some ⟨w.heap.size + 1 + 1, 0, none⟩) := by simpa using h5
  have h6' : tmps[6]?.getD undef = .pointer (some ⟨w.heap.size + 1 + 1 + 1, 0, none⟩) := by simpa using h6
  simp [results, Tryd.f12, asAddr, h4', h5', h6', go_sem, z1, z2, z3]
set_option maxHeartbeats 2000000 in
theorem pfwd_bad (a0 : Option Addr) (cap N : Nat) (L : List Ent) (u : Nat) (w : World) (hT : TabsOk w) (hN : N = L.length) (h : RowE w a0 cap L) (hw : ∀ e ∈ L, e.wf) (hb : (okB L && decide (u < 1099511627776)) = false) :
    Calls Tryd.prog 12 #[.slice a0 N cap, .int .u64 u] w fun r w' => r = .returned (.tuple #[.int .u64 0, .bool false, .int .i64 2]) ∧ Kp w w' := by
  have HC := Lib.hid (fun w1 (g : Kp w w1) => pcheck_any a0 cap N L w1 (hT.kp g) hN (h.kp g) hw)
  have HF := Lib.hid (FB.new w u)
  clear hT hN h hw
  cases hok : okB L with
  | false =>
    rw [hok, if_neg (by decide)] at HC
    clear hok hb
    go_enter Tryd.func12, Tryd.ntmps12
    go_wp2_with fail
    refine (HC.out _ HF.out.2.2.2.2).mono ?_; rintro r w1 ⟨rfl, hg⟩
    have HF1 := Lib.hid (HF.out.kp hg)
    obtain ⟨z0, z1, z2, z3, z4, z5, z6⟩ := HF1.out.cells
    clear hg
    go_wp2_with fail
    have hp := HF1.out.put 0 false 2
    refine bodyPost_ret (res3 hp _ rfl rfl rfl) rfl ?_
    exact ⟨rfl, hp.2.2.2.2⟩
  | true =>
    rw [hok, if_pos rfl] at HC
    have hu : ¬ ((u : Int) < 1099511627776) := by rw [hok] at hb; simp at hb; omega
    have hu' : decide ((1099511627776 : Int) ≤ (u : Int)) = true := decide_eq_true (by omega)
    clear hok hb hu
    go_enter Tryd.func12, Tryd.ntmps12
    go_wp2_with fail
    refine (HC.out _ HF.out.2.2.2.2).mono ?_; rintro r w1 ⟨rfl, hg⟩
    have HF1 := Lib.hid (HF.out.kp hg)
    obtain ⟨z0, z1, z2, z3, z4, z5, z6⟩ := HF1.out.cells
    clear hg
    go_wp2_with fail
    have hp := HF1.out.put 0 false 2
    refine bodyPost_ret (res3 hp _ rfl rfl rfl) rfl ?_
    exact ⟨rfl, hp.2.2.2.2⟩
theorem FB.grown {w W W' : World} {u a : Nat} {b : Bool} {c : Int} {row : Option Nat} (h : FB w W u a b c) (hg : W.grownBy W' row) (hr : ∀ r, row = some r → w.heap.size ≤ r ∧ ∃ o : Obj, W.heap[r]? = some o ∧ o.isCells = false) : FB w W' u a b c := by
  have nb : ∀ {B : Nat} {cs : Array Value} {t : TypeId}, Blk W B cs t → Blk W' B cs t := fun hb => hb.grownOf hg (fun e => by
    obtain ⟨_, o, ho, hc⟩ := hr _ e
    unfold Blk at hb
    rw [hb] at ho
    cases ho
    cases hc)
  exact ⟨nb h.1, nb h.2.1, nb h.2.2.1, nb h.2.2.2.1, Kp.grown h.2.2.2.2 hg (fun r e => (hr r e).1)⟩
theorem fw_kp {w w' : World} {b g u : Nat} {e : Ent} (h : w.cell? ⟨b, 0, none⟩ = some (.int .i8 e.k) ∧ w.cell? ⟨b, 1, none⟩ = some (.int .u64 e.w) ∧ w.cell? ⟨b, 2, none⟩ = some (.int .u64 e.x) ∧ w.cell? ⟨b, 3, none⟩ = some (.int .i64 e.fr) ∧ w.cell? ⟨b, 4, none⟩ = some (.int .i64 e.fm) ∧ w.cell? ⟨g, 0, none⟩ = some (.int .u64 u)) (k : Kp w w') : w'.cell? ⟨b, 0, none⟩ = some (.int .i8 e.k) ∧ w'.cell? ⟨b, 1, none⟩ = some (.int .u64 e.w) ∧ w'.cell? ⟨b, 2, none⟩ = some (.int .u64 e.x) ∧ w'.cell? ⟨b, 3, none⟩ = some (.int .i64 e.fr) ∧ w'.cell? ⟨b, 4, none⟩ = some (.int .i64 e.fm) ∧ w'.cell? ⟨g, 0, none⟩ = some (.int .u64 u) := by
  obtain ⟨h0, h1, h2, h3, h4, h5⟩ := h
  obtain ⟨k0, k1, k2, k3, k4⟩ := tc5_kp ⟨h0, h1, h2, h3, h4⟩ k
  exact ⟨k0, k1, k2, k3, k4, (k.cell (lt_of_cell h5)).trans h5⟩
def FwI (wL : World) (u : Nat) (pre : List Rnd) (W : World) : Prop := (∀ e ∈ entsR pre, nmW e u = false) ∧ Below wL.heap.size wL W
def FwX (w : World) (u : Nat) (c : Code) (pre : List Rnd) (W : World) : Prop := c = .ret ∧ ∃ a b q, (∀ rest, fwR (entsR pre ++ rest) u = (a, b, q)) ∧ FB w W u a b q
theorem FwI.own (wL : World) (u : Nat) : OwnFrom wL.heap.size (FwI wL u) := OwnFrom.and (ownFrom_pure _ (fun pre : List Rnd => ∀ e ∈ entsR pre, nmW e u = false)) (ownFrom_below (Nat.le_refl _) (Nat.le_refl _))
theorem FwX.own (w wL : World) (hL : w.heap.size ≤ wL.heap.size) (u : Nat) (c : Code) : OwnFrom wL.heap.size (FwX w u c) := fun pre W W' row h hg hr => by
  obtain ⟨hc, a, b, q, h1, h2⟩ := h
  exact ⟨hc, a, b, q, h1, h2.grown hg (fun r e => ⟨Nat.le_trans hL (hr r e).1, (hr r e).2⟩)⟩
def FwA (wL : World) (T : Nat → Rnd → Act) (x : Rnd) (a' : Act) (W : World) : Prop := ∃ Bx, (W.cell? ⟨Bx, 0, none⟩ = some (.int .i8 x.1.2.k) ∧ W.cell? ⟨Bx, 1, none⟩ = some (.int .u64 x.1.2.w) ∧ W.cell? ⟨Bx, 2, none⟩ = some (.int .u64 x.1.2.x) ∧ W.cell? ⟨Bx, 3, none⟩ = some (.int .i64 x.1.2.fr) ∧ W.cell? ⟨Bx, 4, none⟩ = some (.int .i64 x.1.2.fm)) ∧ wL.heap.size ≤ Bx ∧ a' = T Bx x
theorem FwA.own (wL : World) (T : Nat → Rnd → Act) (x : Rnd) (a' : Act) : OwnFrom wL.heap.size (fun (_ : Unit) W => FwA wL T x a' W) := fun _ W W' row h hg hr => by
  obtain ⟨Bx, ⟨c0, c1, c2, c3, c4⟩, h2, h3⟩ := h
  have k := fun (j : Nat) (v : Value) (q : W.cell? ⟨Bx, j, none⟩ = some v) => cell_kept q hg (fun r e => (hr r e).2)
  exact ⟨Bx, ⟨k _ _ c0, k _ _ c1, k _ _ c2, k _ _ c3, k _ _ c4⟩, h2, h3⟩
theorem fwR_none {xs : List Ent} (hm : ∀ e ∈ xs, mayB e = true) {u : Nat} (h : ∀ e ∈ xs, nmW e u = false) (rest : List Ent) : fwR (xs ++ rest) u = fwR rest u := by
  induction xs with
  | nil => rfl
  | cons e l ih =>
    rw [List.cons_append, fwR_skip (hm e (List.mem_cons_self ..)) (h e (List.mem_cons_self ..))]
    exact ih (fun a ha => hm a (List.mem_cons_of_mem _ ha)) (fun a ha => h a (List.mem_cons_of_mem _ ha))
theorem entsR_may (xs : List Rnd) : ∀ e ∈ entsR xs, mayB e = true := by
  intro e he
  unfold entsR at he
  rw [List.mem_map] at he
  obtain ⟨x, _, rfl⟩ := he
  exact x.2.1
set_option maxRecDepth 100000 in
set_option maxHeartbeats 4000000 in
theorem pfwd_good (a0 : Option Addr) (cap N : Nat) (L : List Ent) (u : Nat) (w : World) (hT : TabsOk w) (hN : N = L.length) (h : RowE w a0 cap L) (hw : ∀ e ∈ L, e.wf) (ho : okB L = true) (hu : u < 1099511627776) :
    Calls Tryd.prog 12 #[.slice a0 N cap, .int .u64 u] w fun r w' => r = .returned (.tuple #[.int .u64 (fwR L.reverse u).1, .bool (fwR L.reverse u).2.1, .int .i64 (fwR L.reverse u).2.2]) ∧ Kp w w' := by
  have HC := Lib.hid (fun w1 (g : Kp w w1) => pcheck_any a0 cap N L w1 (hT.kp g) hN (h.kp g) hw)
  rw [ho, if_pos rfl] at HC
  have HF := Lib.hid (FB.new w u)
  have HT := Lib.hid hT
  have HE := Lib.hid hN
  have H := Lib.hid h
  have hp := okB_parts ho
  have HM : Hid (∀ e ∈ L, mayB e = true ∧ e.wf) := Lib.hid (fun e he => ⟨hp.2.1 e he, hw e he⟩)
  have HN8 : Hid (N ≤ 8) := Lib.hid (by omega)
  have hu' : decide ((1099511627776 : Int) ≤ (u : Int)) = false := decide_eq_false (by omega)
  have HU := Lib.hid hu
  obtain ⟨V, hV⟩ : ∃ V, fwR L.reverse u = V := ⟨_, rfl⟩
  rw [hV]
  have HV := Lib.hid hV
  obtain ⟨A, B, C⟩ := V
  simp only []
  clear hT hN h hp hw ho hu hV
  refine (callsIn_wide (n := 10)).1 ?_
  refine callsIn_of_wp_marks Tryd.func12 rfl trivial ?_ rfl
  simp only [Tryd.ntmps12, List.size_toArray, List.length_cons, List.length_nil, Nat.reduceAdd, Nat.reduceSub, Array.replicate_succ, Array.replicate_zero, List.push_toArray, List.append_toArray, List.nil_append, List.cons_append]
  gi_wp2_with fail
  refine ⟨trivial, (callsIn_wide.2 (HC.out _ HF.out.2.2.2.2)).mono ?_⟩
  rintro r w1 ⟨rfl, hg⟩
  have HF1 := Lib.hid (HF.out.kp hg)
  obtain ⟨z0, z1, z2, z3, z4, z5, z6⟩ := HF1.out.cells
  clear hg
  gi_wp2_with fail
  refine ⟨trivial, (callsIn_wide.2 (mkback_any a0 cap N _)).mono ?_⟩
  rintro r w2 ⟨rfl, rfl⟩
  gi_wp2_with fail
  have hFL : FB w (w1.alloc (.cells #[.slice a0 N cap] 22)) u 0 false 0 := HF1.out.kp (kpA _ _ _)
  have hBs : (w1.alloc (.cells #[.slice a0 N cap] 22)).cell? ⟨w1.heap.size, 0, none⟩ = some (.slice a0 N cap) := (Blk.new w1 _ _).cell 0
  obtain ⟨wL, hwL⟩ : ∃ wL, w1.alloc (.cells #[.slice a0 N cap] 22) = wL := ⟨_, rfl⟩
  rw [hwL] at hFL hBs ⊢
  have HFL := Lib.hid hFL
  have HKL := Lib.hid hFL.2.2.2.2
  generalize w1.heap.size = Bs at *
  clear hwL HF1 z0 z1 z2 z3 z4 z5 z6 hFL
  refine wpIn_rangeFunc_ownH (F := Fence.wide) (n := 10) rfl (by omega) (gf := 37) (lb := #[.pointer (some ⟨Bs, 0, none⟩)]) rfl trivial (enters_of Tryd.func37 (by kernel_rfl) rfl)
    (back_stops 9 Bs a0 cap N L wL HE.out (by have := HN8.out; omega) (H.out.kp HKL.out) HM.out hBs) belowK_t (belowK_b (Nat.le_refl _)) (Below.refl _ _) (fun _ => rfl)
    (FwI wL u) (FwX w u) (FwI.own wL u) (FwX.own w wL HKL.out.size u) ⟨(fun e he => by simp [entsR] at he), Below.refl _ _⟩
    (FwA wL (fun Bx x => { tmps := #[.slice a0 N cap, .int .u64 u, undef, .pointer (some ⟨w.heap.size, 0, none⟩), .pointer (some ⟨w.heap.size + 1, 0, none⟩), .pointer (some ⟨w.heap.size + 1 + 1, 0, none⟩), .pointer (some ⟨w.heap.size + 1 + 1 + 1, 0, none⟩), undef, .pointer (some ⟨Bx, 0, none⟩), .slice a0 N cap,
      .int .i64 0, .bool false, .bool false, .int .u64 u, .bool false, .bool false, .slice a0 N cap, .func (.func 37) #[] #[.pointer (some ⟨Bs, 0, none⟩)], .int .i64 (x.1.1 : Nat), .agg (Ent.arr x.1.2), undef, undef, undef, undef, undef, undef, undef, undef, undef, undef, undef, undef, undef, undef, undef], defers := [] }))
    (FwA.own wL _) ?assign ?body ?done ?stop
  case assign =>
    rintro l pre ⟨⟨i, e⟩, hx⟩ W K hi hK
    have hg := kpA W (Ent.arr e) 26
    have hb := Ent.five (Blk.new W (Ent.arr e) 26)
    have hK' := Lib.hid (hK _ _ (hg.others.from _) (Below.mono hg (by have := Below.size hi.2; exact this)) ⟨hi.1, Below.trans hi.2 (Below.mono hg (Below.size hi.2))⟩ ⟨W.heap.size, hb, Below.size hi.2, rfl⟩)
    clear hK hb hi hg
    unfold encR Ent.arr at *
    gi_wp2
    exact hK'.out
  case body =>
    rintro l pre x a' W hl ⟨r, hr⟩ hI ⟨Bx, h5, hBx, rfl⟩ hlt
    obtain ⟨hm, hwf⟩ := x.2
    dsimp only
    obtain ⟨e, he⟩ : ∃ e, x.1.2 = e := ⟨_, rfl⟩
    obtain ⟨i, hi⟩ : ∃ i, x.1.1 = i := ⟨_, rfl⟩
    rw [he] at h5 hm hwf ⊢
    rw [hi]
    have HXe := Lib.hid he
    clear he hi
    have HW := Lib.hid hI.2
    have HI := Lib.hid hI.1
    have HMe := Lib.hid hm
    have z0 := (HFL.out.kp HW.out).cells.1
    have HWr := Lib.hid (fun w2 (g : Kp wL w2) => written_any e w2 (HT.out.kp (HKL.out.trans g)) hm)
    have HOn := Lib.hid (fun w2 => one_any u HU.out w2)
    obtain ⟨PP, hPP⟩ : ∃ PP, wrS e = PP := ⟨_, rfl⟩
    have hnm : nmW e u = mtB PP (u, u + 1) := by rw [← hPP]; rfl
    rw [hPP] at HWr
    obtain ⟨P1, P2⟩ := PP
    unfold mtB at hnm
    simp only [] at hnm
    have HNm := Lib.hid hnm
    obtain ⟨U1, hU1⟩ : ∃ U1, u + 1 = U1 := ⟨_, rfl⟩
    rw [hU1] at HOn HNm
    unfold stV at HWr
    simp only [] at HWr
    have hS : W.drew.cell? ⟨Bx, 0, none⟩ = some (.int .i8 e.k) ∧ W.drew.cell? ⟨Bx, 1, none⟩ = some (.int .u64 e.w) ∧ W.drew.cell? ⟨Bx, 2, none⟩ = some (.int .u64 e.x) ∧ W.drew.cell? ⟨Bx, 3, none⟩ = some (.int .i64 e.fr) ∧ W.drew.cell? ⟨Bx, 4, none⟩ = some (.int .i64 e.fm) ∧ W.drew.cell? ⟨w.heap.size, 0, none⟩ = some (.int .u64 u) := by
      obtain ⟨c0, c1, c2, c3, c4⟩ := h5
      exact ⟨c0, c1, c2, c3, c4, z0⟩
    have HS := Lib.hid hS
    have HKd : Hid (Kp wL W.drew) := Lib.hid (Kp.drew HW.out)
    clear hI hm hwf h5 hPP hnm hU1 hS z0 hl hr r hlt
    unfold Ent.arr at HWr ⊢
    cases hn : nmW e u with
    | false =>
      gi_wp2_with fail
      refine region_round (S := fun w' => w'.cell? ⟨Bx, 0, none⟩ = some (.int .i8 e.k) ∧ w'.cell? ⟨Bx, 1, none⟩ = some (.int .u64 e.w) ∧ w'.cell? ⟨Bx, 2, none⟩ = some (.int .u64 e.x) ∧ w'.cell? ⟨Bx, 3, none⟩ = some (.int .i64 e.fr) ∧ w'.cell? ⟨Bx, 4, none⟩ = some (.int .i64 e.fm) ∧ w'.cell? ⟨w.heap.size, 0, none⟩ = some (.int .u64 u)) (by kernel_rfl) (by rintro ⟨_, _, h⟩; exact h) (by kernel_rfl) HS.out (fun hHeld => ?_)
      clear HS
      refine wpAnyH_take (i := 0) (oi := ?p0y1) (v := ?v0y1) ?o0y1 (by kernel_rfl) (by kernel_rfl) (by kernel_rfl) ?q0y1 ?y0y1 (by assumption) ?r0y1
      case o0y1 => (simp only [List.getElem?_toArray, List.getElem?_cons_zero]; rfl)
      case q0y1 => (exact fun _ _ _ h => h)
      case y0y1 => (refine Or.inl ⟨by rfl, ?_⟩; intro w hSw; (try dsimp only at hSw); go_simp; (try with_reducible rfl))
      simp only [Act.put, List.setIfInBounds_toArray, List.set_cons_zero, List.set_cons_succ]
      refine wpAnyH_take (i := 2) (oi := ?p2y2) (v := ?v2y2) ?o2y2 (by kernel_rfl) (by kernel_rfl) (by kernel_rfl) ?q2y2 ?y2y2 (by assumption) ?r2y2
      case o2y2 => (simp only [List.getElem?_toArray, List.getElem?_cons_succ, List.getElem?_cons_zero]; rfl)
      case q2y2 => (exact fun _ _ _ h => h)
      case y2y2 => (refine Or.inl ⟨by rfl, ?_⟩; intro w hSw; (try dsimp only at hSw); go_simp; (try with_reducible rfl))
      simp only [Act.put, List.setIfInBounds_toArray, List.set_cons_zero, List.set_cons_succ]
      refine wpAnyH_ready (rs := [1]) (by kernel_rfl) (by simp) ?_
      refine AllReadyH.cons (o := ?pc3) ?oc3 (fun K hK => ?wc3) AllReadyH.nil
      case oc3 => (simp only [List.getElem?_toArray, List.getElem?_cons_succ, List.getElem?_cons_zero]; rfl)
      rw [if_pos (by rfl)]
      go_simp
      refine (HWr.out _ HKd.out).mono ?_; rintro r w3 ⟨rfl, hg⟩
      (try go_wp2_with fail)
      have hH' := fw_kp hHeld hg
      have K3 := Lib.hid (Kp.trans HKd.out hg)
      have G3 := Lib.hid (Kp.trans (Kp.drew (Kp.refl W)) hg)
      refine hK.out _ _ hH' (fun hHeld2 => ?_)
      clear hK K hg hH' hHeld
      have hHeld := hHeld2
      clear hHeld2
      refine wpAnyH_ready (rs := [3]) (by kernel_rfl) (by simp) ?_
      refine AllReadyH.cons (o := ?pc4) ?oc4 (fun K hK => ?wc4) AllReadyH.nil
      case oc4 => (simp only [List.getElem?_toArray, List.getElem?_cons_succ, List.getElem?_cons_zero]; rfl)
      rw [if_pos (by rfl)]
      go_simp
      refine (HOn.out _).mono ?_; rintro r w4 ⟨rfl, hg⟩
      (try go_wp2_with fail)
      have hH' := fw_kp hHeld hg
      have K4 := Lib.hid (Kp.trans K3.out hg)
      have G4 := Lib.hid (Kp.trans G3.out hg)
      refine hK.out _ _ hH' (fun hHeld2 => ?_)
      clear hK K hg hH' hHeld
      have hHeld := hHeld2
      clear hHeld2
      refine wpAnyH_ready (rs := [4]) (by kernel_rfl) (by simp) ?_
      refine AllReadyH.cons (o := ?pc5) ?oc5 (fun K hK => ?wc5) AllReadyH.nil
      case oc5 => (simp only [List.getElem?_toArray, List.getElem?_cons_succ, List.getElem?_cons_zero]; rfl)
      rw [if_pos (by rfl)]
      go_simp
      refine (meets_is P1 P2 u U1 false (HNm.out.symm.trans hn) _).mono ?_; rintro r w5 ⟨rfl, hg⟩
      (try go_wp2_with fail)
      have hH' := fw_kp hHeld hg
      have K5 := Lib.hid (Kp.trans K4.out hg)
      have G5 := Lib.hid (Kp.trans G4.out hg)
      refine hK.out _ _ hH' (fun hHeld2 => ?_)
      clear hK K hg hH' hHeld
      have hHeld := hHeld2
      clear hHeld2
      refine wpAnyH_take (i := 5) (oi := ?p5y6) (v := ?v5y6) ?o5y6 (by kernel_rfl) (by kernel_rfl) (by kernel_rfl) ?q5y6 ?y5y6 (by assumption) ?r5y6
      case o5y6 => (simp only [List.getElem?_toArray, List.getElem?_cons_succ, List.getElem?_cons_zero]; rfl)
      case q5y6 => (exact fun _ _ _ h => h)
      case y5y6 => (refine Or.inl ⟨by rfl, ?_⟩; intro w hSw; (try dsimp only at hSw); go_simp; (try with_reducible rfl))
      simp only [Act.put, List.setIfInBounds_toArray, List.set_cons_zero, List.set_cons_succ]
      refine wpAnyH_take (i := 6) (oi := ?p6y7) (v := ?v6y7) ?o6y7 (by kernel_rfl) (by kernel_rfl) (by kernel_rfl) ?q6y7 ?y6y7 (by assumption) ?r6y7
      case o6y7 => (simp only [List.getElem?_toArray, List.getElem?_cons_succ, List.getElem?_cons_zero]; rfl)
      case q6y7 => (exact fun _ _ _ h => h)
      case y6y7 => (refine Or.inl ⟨by rfl, ?_⟩; intro w hSw; (try dsimp only at hSw); go_simp; (try with_reducible rfl))
      simp only [Act.put, List.setIfInBounds_toArray, List.set_cons_zero, List.set_cons_succ]
      refine wpAnyH_done (by kernel_rfl) ?_ _
      clear hHeld
      gi_wp2_with fail
      have gB := Below.mono G5.out (Below.size HW.out)
      refine ⟨G5.out.others.from _, gB, fun a ha => ?_, Below.trans HW.out gB⟩
      rw [entsR_snoc, List.mem_append] at ha
      rcases ha with ha | ha
      · exact HI.out a ha
      · rw [List.mem_singleton, HXe.out] at ha
        rw [ha]
        exact hn
    | true =>
      gi_wp2_with fail
      refine region_round (S := fun w' => w'.cell? ⟨Bx, 0, none⟩ = some (.int .i8 e.k) ∧ w'.cell? ⟨Bx, 1, none⟩ = some (.int .u64 e.w) ∧ w'.cell? ⟨Bx, 2, none⟩ = some (.int .u64 e.x) ∧ w'.cell? ⟨Bx, 3, none⟩ = some (.int .i64 e.fr) ∧ w'.cell? ⟨Bx, 4, none⟩ = some (.int .i64 e.fm) ∧ w'.cell? ⟨w.heap.size, 0, none⟩ = some (.int .u64 u)) (by kernel_rfl) (by rintro ⟨_, _, h⟩; exact h) (by kernel_rfl) HS.out (fun hHeld => ?_)
      clear HS
      refine wpAnyH_take (i := 0) (oi := ?p0y8) (v := ?v0y8) ?o0y8 (by kernel_rfl) (by kernel_rfl) (by kernel_rfl) ?q0y8 ?y0y8 (by assumption) ?r0y8
      case o0y8 => (simp only [List.getElem?_toArray, List.getElem?_cons_zero]; rfl)
      case q0y8 => (exact fun _ _ _ h => h)
      case y0y8 => (refine Or.inl ⟨by rfl, ?_⟩; intro w hSw; (try dsimp only at hSw); go_simp; (try with_reducible rfl))
      simp only [Act.put, List.setIfInBounds_toArray, List.set_cons_zero, List.set_cons_succ]
      refine wpAnyH_take (i := 2) (oi := ?p2y9) (v := ?v2y9) ?o2y9 (by kernel_rfl) (by kernel_rfl) (by kernel_rfl) ?q2y9 ?y2y9 (by assumption) ?r2y9
      case o2y9 => (simp only [List.getElem?_toArray, List.getElem?_cons_succ, List.getElem?_cons_zero]; rfl)
      case q2y9 => (exact fun _ _ _ h => h)
      case y2y9 => (refine Or.inl ⟨by rfl, ?_⟩; intro w hSw; (try dsimp only at hSw); go_simp; (try with_reducible rfl))
      simp only [Act.put, List.setIfInBounds_toArray, List.set_cons_zero, List.set_cons_succ]
      refine wpAnyH_ready (rs := [1]) (by kernel_rfl) (by simp) ?_
      refine AllReadyH.cons (o := ?pc10) ?oc10 (fun K hK => ?wc10) AllReadyH.nil
      case oc10 => (simp only [List.getElem?_toArray, List.getElem?_cons_succ, List.getElem?_cons_zero]; rfl)
      rw [if_pos (by rfl)]
      go_simp
      refine (HWr.out _ HKd.out).mono ?_; rintro r w3 ⟨rfl, hg⟩
      (try go_wp2_with fail)
      have hH' := fw_kp hHeld hg
      have K3 := Lib.hid (Kp.trans HKd.out hg)
      have G3 := Lib.hid (Kp.trans (Kp.drew (Kp.refl W)) hg)
      refine hK.out _ _ hH' (fun hHeld2 => ?_)
      clear hK K hg hH' hHeld
      have hHeld := hHeld2
      clear hHeld2
      refine wpAnyH_ready (rs := [3]) (by kernel_rfl) (by simp) ?_
      refine AllReadyH.cons (o := ?pc11) ?oc11 (fun K hK => ?wc11) AllReadyH.nil
      case oc11 => (simp only [List.getElem?_toArray, List.getElem?_cons_succ, List.getElem?_cons_zero]; rfl)
      rw [if_pos (by rfl)]
      go_simp
      refine (HOn.out _).mono ?_; rintro r w4 ⟨rfl, hg⟩
      (try go_wp2_with fail)
      have hH' := fw_kp hHeld hg
      have K4 := Lib.hid (Kp.trans K3.out hg)
      have G4 := Lib.hid (Kp.trans G3.out hg)
      refine hK.out _ _ hH' (fun hHeld2 => ?_)
      clear hK K hg hH' hHeld
      have hHeld := hHeld2
      clear hHeld2
      refine wpAnyH_ready (rs := [4]) (by kernel_rfl) (by simp) ?_
      refine AllReadyH.cons (o := ?pc12) ?oc12 (fun K hK => ?wc12) AllReadyH.nil
      case oc12 => (simp only [List.getElem?_toArray, List.getElem?_cons_succ, List.getElem?_cons_zero]; rfl)
      rw [if_pos (by rfl)]
      go_simp
      refine (meets_is P1 P2 u U1 true (HNm.out.symm.trans hn) _).mono ?_; rintro r w5 ⟨rfl, hg⟩
      (try go_wp2_with fail)
      have hH' := fw_kp hHeld hg
      have K5 := Lib.hid (Kp.trans K4.out hg)
      have G5 := Lib.hid (Kp.trans G4.out hg)
      refine hK.out _ _ hH' (fun hHeld2 => ?_)
      clear hK K hg hH' hHeld
      have hHeld := hHeld2
      clear hHeld2
      refine wpAnyH_take (i := 5) (oi := ?p5y13) (v := ?v5y13) ?o5y13 (by kernel_rfl) (by kernel_rfl) (by kernel_rfl) ?q5y13 ?y5y13 (by assumption) ?r5y13
      case o5y13 => (simp only [List.getElem?_toArray, List.getElem?_cons_succ, List.getElem?_cons_zero]; rfl)
      case q5y13 => (exact fun _ _ _ h => h)
      case y5y13 => (refine Or.inl ⟨by rfl, ?_⟩; intro w hSw; (try dsimp only at hSw); go_simp; (try with_reducible rfl))
      simp only [Act.put, List.setIfInBounds_toArray, List.set_cons_zero, List.set_cons_succ]
      refine wpAnyH_take (i := 6) (oi := ?p6y14) (v := ?v6y14) ?o6y14 (by kernel_rfl) (by kernel_rfl) (by kernel_rfl) ?q6y14 ?y6y14 (by assumption) ?r6y14
      case o6y14 => (simp only [List.getElem?_toArray, List.getElem?_cons_succ, List.getElem?_cons_zero]; rfl)
      case q6y14 => (exact fun _ _ _ h => h)
      case y6y14 => (refine Or.inl ⟨by rfl, ?_⟩; intro w hSw; (try dsimp only at hSw); go_simp; (try with_reducible rfl))
      simp only [Act.put, List.setIfInBounds_toArray, List.set_cons_zero, List.set_cons_succ]
      refine wpAnyH_done (by kernel_rfl) ?_ _
      have HFB := Lib.hid (HFL.out.kp K5.out)
      obtain ⟨z0, z1, z2, z3, z4, z5, z6⟩ := HFB.out.cells
      obtain ⟨q0, q1, q2, q3, q4, -⟩ := hHeld
      clear q1 q3 q4 z0
      have HT5 := Lib.hid (HT.out.kp (HKL.out.trans K5.out))
      have HKf : Hid (KeepsFrom wL.heap.size W w5) := Lib.hid (G5.out.others.from _)
      have hpre : ∀ (a : Nat) (b : Bool) (q : Int), (∀ l, fwR (e :: l) u = (a, b, q)) → ∀ rest, fwR (entsR (pre ++ [x]) ++ rest) u = (a, b, q) := fun a b q h rest => by
        rw [entsR_snoc, HXe.out, List.append_assoc, fwR_none (entsR_may pre) HI.out]
        exact h rest
      have HPr := Lib.hid hpre; clear hpre
      have HKs : Hid (∀ a b q, KeepsFrom wL.heap.size w5 (((w5.setCell ⟨w.heap.size + 1, 0, none⟩ a).setCell ⟨w.heap.size + 1 + 1, 0, none⟩ b).setCell ⟨w.heap.size + 1 + 1 + 1, 0, none⟩ q)) := Lib.hid (fun a b q => (((KeepsOthers.setCell w5 ⟨w.heap.size + 1, 0, none⟩ a).trans (KeepsOthers.setCell _ ⟨w.heap.size + 1 + 1, 0, none⟩ b)).trans (KeepsOthers.setCell _ ⟨w.heap.size + 1 + 1 + 1, 0, none⟩ q)).from _)
      have HHn := Lib.hid hn
      rcases kind_hit HMe.out hn with hk | hk | hk
      · have HKd0 := Lib.hid hk
        rw [hk] at q0
        obtain ⟨t0, t1, t2⟩ := HT5.out.at 0 (by decide) true false false ⟨rfl, rfl, rfl⟩
        simp only [Nat.reduceMul, Nat.reduceAdd] at t0 t1 t2
        clear hk hn t0 t1
        gi_wp2_with fail
        exact ⟨HKf.out.trans (HKs.out _ _ _), rfl, _, _, _, HPr.out _ _ _ (fun l => fwR_hit HMe.out HHn.out (by rw [HKd0.out]; decide) l), HFB.out.put e.x true 0⟩
      · have HKd0 := Lib.hid hk
        rw [hk] at q0
        obtain ⟨t0, t1, t2⟩ := HT5.out.at 2 (by decide) false true false ⟨rfl, rfl, rfl⟩
        simp only [Nat.reduceMul, Nat.reduceAdd] at t0 t1 t2
        clear hk hn t0 t1
        gi_wp2_with fail
        exact ⟨HKf.out.trans (HKs.out _ _ _), rfl, _, _, _, HPr.out _ _ _ (fun l => fwR_hit HMe.out HHn.out (by rw [HKd0.out]; decide) l), HFB.out.put e.x true 0⟩
      · have HKd0 := Lib.hid hk
        rw [hk] at q0
        obtain ⟨t0, t1, t2⟩ := HT5.out.at 3 (by decide) false true true ⟨rfl, rfl, rfl⟩
        simp only [Nat.reduceMul, Nat.reduceAdd] at t0 t1 t2
        clear hk hn t0 t1
        gi_wp2_with fail
        exact ⟨HKf.out.trans (HKs.out _ _ _), rfl, _, _, _, HPr.out _ _ _ (fun l => fwR_copy HMe.out HHn.out HKd0.out l), HFB.out.put 0 false 21⟩
  case done =>
    rintro D xs W hD hxs ⟨hI, hb⟩ hK
    have hv : (A, B, C) = (0, false, 0) := by
      rw [← HV.out, ← hxs, ← List.append_nil (entsR xs), fwR_none (entsR_may xs) hI]; rfl
    cases hv
    have HFW := Lib.hid (HFL.out.kp hb)
    obtain ⟨z0, z1, z2, z3, z4, z5, z6⟩ := HFW.out.cells
    have hDw : w.heap.size ≤ D := Nat.le_trans HKL.out.size hD
    clear hI hb hxs
    gi_wp2
    have hp := HFW.out.put 0 false 0
    have hK3 := (((KeepsOthers.setCell W ⟨w.heap.size + 1, 0, none⟩ (.int .u64 (0 : Nat))).trans (KeepsOthers.setCell _ ⟨w.heap.size + 1 + 1, 0, none⟩ (.bool false))).trans (KeepsOthers.setCell _ ⟨w.heap.size + 1 + 1 + 1, 0, none⟩ (.int .i64 0))).same D _ hK rfl
    refine ⟨by simp, .inl ⟨_, _, rfl, run_takeDeferred hK3, ?_⟩⟩
    have hq := hp.grown (grownBy_putObj' _ D (.deferred none)) (fun r e => by cases e; exact ⟨hDw, _, hK3, rfl⟩)
    exact ⟨_, res3 hq _ rfl rfl rfl, rfl, hq.2.2.2.2⟩
  case stop =>
    rintro D c pre W hD hpre ⟨rfl, a, b, q, h1, h2⟩ hK
    obtain ⟨rest, hr⟩ := hpre
    have hv : (A, B, C) = (a, b, q) := by rw [← HV.out, ← hr]; exact h1 rest
    cases hv
    have hDw : w.heap.size ≤ D := Nat.le_trans HKL.out.size hD
    have HFW := Lib.hid h2
    clear h1 hr h2
    gi_wp2
    refine ⟨by simp, .inl ⟨_, _, rfl, run_takeDeferred hK, ?_⟩⟩
    have hq := HFW.out.grown (grownBy_putObj' _ D (.deferred none)) (fun r e => by cases e; exact ⟨hDw, _, hK, rfl⟩)
    exact ⟨_, res3 hq _ rfl rfl rfl, rfl, hq.2.2.2.2⟩
theorem pfwd_any (a0 : Option Addr) (cap N : Nat) (L : List Ent) (u : Nat) (w : World) (hT : TabsOk w) (hN : N = L.length) (h : RowE w a0 cap L) (hw : ∀ e ∈ L, e.wf) :
    Calls Tryd.prog 12 #[.slice a0 N cap, .int .u64 u] w fun r w' => r = .returned (.tuple #[.int .u64 (fwdB L u).1, .bool (fwdB L u).2.1, .int .i64 (fwdB L u).2.2]) ∧ Kp w w' := by
  cases hb : (okB L && decide (u < 1099511627776)) with
  | false =>
    have e : fwdB L u = (0, false, 2) := by unfold fwdB; rw [hb]; rfl
    rw [e]
    exact pfwd_bad a0 cap N L u w hT hN h hw hb
  | true =>
    have e : fwdB L u = fwR L.reverse u := by unfold fwdB; rw [hb]; rfl
    rw [e]
    simp only [Bool.and_eq_true, decide_eq_true_eq] at hb
    exact pfwd_good a0 cap N L u w hT hN h hw hb.1 hb.2
end Go.Proofs.YtgjjbgijdgihcaaDoor
