/-
  The document's memory: a frame copied. No condition.
-/
import Derived.Test.YtnjdglejcfdonaaRefReach08
import Derived.Laws.Append
import Derived.Deep.RegionHeld3
namespace Go.Proofs.Ytnjdglejcfdonaa
open Go Go.RowKit

def newsU (U : Nat → Nat) : List Value := (List.range 512).map fun p => .int .u64 (U p)
theorem newsU_at (U : Nat → Nat) (p : Nat) (h : p < 512) : (newsU U)[p]? = some (.int .u64 (U p)) := by simp [newsU, h]
theorem append_row (ty : TypeId) (w : World) (g o cp : Nat) (U : Nat → Nat) (h : RowAt w g o U) :
    ∃ c w', (Builtin.append_ #[51, 51] ty #[.slice none 0 0, .slice (some ⟨g, o, none⟩) 512 cp]).run Try.prog w = .ok (.slice (some ⟨w.heap.size, 0, none⟩) 512 c) w' ∧ Kp w w' ∧ RowAt w' w.heap.size 0 U ∧ w.heap.size < w'.heap.size := by
  obtain ⟨i, hi, hz, hs, hb⟩ := info_parts info_u64
  have hl : (newsU U).length = 512 := by simp [newsU]
  have hr := run_append_nil (P := Try.prog) w 51 ty 32 i _ Try.underlying51 hi hz ⟨g, o, none⟩ 512 cp (newsU U) (by rw [hs, hl]) (fun j v hv => by
    by_cases c : j < 512
    · rw [newsU_at U j c] at hv
      cases hv
      have q := (h j c).1
      unfold Addr.add
      by_cases j0 : j = 0
      · subst j0; simpa using q
      · simpa [j0] using q
    · rw [List.getElem?_eq_none (by omega)] at hv; cases hv) (by decide) (by decide) (by rw [hb]; decide)
  refine ⟨_, _, hr, Kp.alloc ((Kp.refl w).drew) _ _, fun p hp => ?_, by simp⟩
  have B := Blk.new w.drew ((newsU U).toArray ++ Builtin.zeroCells (Value.int .u64 0).cells (grownCap w 512 0 32 - 512)) 32
  refine ⟨?_, B.frozen _⟩
  rw [show w.heap.size = w.drew.heap.size from rfl, B.cell, Nat.zero_add, Array.getElem?_append_left (by simp [hl]; exact hp)]
  simpa using newsU_at U p hp
theorem append_none (ty : TypeId) (w : World) : (Builtin.append_ #[51, 51] ty #[.slice none 0 0, .slice none 0 0]).run Try.prog w = .ok (.slice none 0 0) w := by
  obtain ⟨i, hi, hz, hs, hb⟩ := info_parts info_u64
  simp [Builtin.append_, run_underlying Try.underlying51, sizeOf, typeInfo, hi, Builtin.lenOf, Builtin.firstCells]
theorem wp_append_row {o : Oper} {a : Act} {K : Act → World → Prop} {Q : Exit → Act → World → Prop} (w : World) (s x : Operand) {g p cp : Nat} {U : Nat → Nat}
    (ho : o.op = .call { callee := .builtin .append, args := #[s, x], argTypes := #[51, 51] }) (hs : a.eval s = .slice none 0 0) (hx : a.eval x = .slice (some ⟨g, p, none⟩) 512 cp) (h : RowAt w g p U)
    (hK : ∀ c w', Kp w w' → RowAt w' w.heap.size 0 U → w.heap.size < w'.heap.size → K (a.put o.dst (.slice (some ⟨w.heap.size, 0, none⟩) 512 c)) w') : o.wp Try.prog a w K Q := by
  obtain ⟨c, w', hr, h1, h2, h3⟩ := append_row o.type w g p cp U h
  unfold Oper.wp execOp
  simp only [ho, resolve, invoke, builtin, Sem.run_bind, Sem.run_pure, Result.andThen_ok, List.map_toArray, List.map_cons, List.map_nil, hs, hx, hr]
  exact hK c w' h1 h2 h3
/-- What the region that copies reads. -/
def CopyS (w0 : World) (b lb n r g o cp e f : Nat) (U : Nat → Nat) (w : World) : Prop :=
  w.cell? ⟨b, 0, none⟩ = some (.slice (some ⟨lb, 0, none⟩) n n) ∧ w.cell? ⟨lb, r, none⟩ = some (.slice (some ⟨g, o, none⟩) 512 cp) ∧ w.cell? ⟨e, 3, none⟩ = some (.int .i64 r) ∧ w.cell? ⟨e, 4, none⟩ = some (.int .i64 f) ∧ Kp w0 w ∧ RowAt w g o U
theorem cell_kp {w w' : World} {a : Addr} {v : Value} (h : w.cell? a = some v) (k : Kp w w') : w'.cell? a = some v := by
  have hlt : a.block < w.heap.size := by
    by_cases c : a.block < w.heap.size
    · exact c
    · simp [World.cell?, Array.getElem?_eq_none (Nat.not_lt.1 c)] at h
  exact (World.cell?_of_block (Below.block k a.block hlt)).trans h
theorem RowAt.kp {w w' : World} {g o : Nat} {U : Nat → Nat} (h : RowAt w g o U) (k : Kp w w') : RowAt w' g o U := by
  have h0 := (h 0 (by decide)).1
  have hlt : g < w.heap.size := by
    by_cases c : g < w.heap.size
    · exact c
    · simp [World.cell?, Array.getElem?_eq_none (Nat.not_lt.1 c)] at h0
  exact fun p hp => ⟨cell_kp (h p hp).1 k, (k.frozen hlt).trans (h p hp).2⟩
theorem CopyS.kp {w0 : World} {b lb n r g o cp e f : Nat} {U : Nat → Nat} {w w' : World} (h : CopyS w0 b lb n r g o cp e f U w) (k : Kp w w') : CopyS w0 b lb n r g o cp e f U w' :=
  ⟨cell_kp h.1 k, cell_kp h.2.1 k, cell_kp h.2.2.1 k, cell_kp h.2.2.2.1 k, h.2.2.2.2.1.trans k, h.2.2.2.2.2.kp k⟩
set_option maxRecDepth 20000 in
theorem rreach_copy (W X : Int) (r f : Nat) (w : World) (S : Nat → Prop) (b n : Nat) (V : Nat → Nat → Nat) (h : RMem w S b n V) (hf : f < n) (hr : r < n) :
    Calls Try.prog 22 #[.pointer (some ⟨b, 0, none⟩), .agg (entV 3 W X r f)] w fun e w' => e = .returned (.int .i64 0) ∧ ∃ S', RMem w' S' b n (setF V f (V r)) ∧ Grew w S S' ∧ Off S w w' := by
  have K1 : Kp w (w.alloc (.cells (entV 3 W X r f) 35)) := (Kp.refl w).alloc _ _
  obtain ⟨lb, L, h, rfl⟩ := h
  have HC : Hid (Calls Try.prog 26 #[.pointer (some ⟨b, 0, none⟩), .int .i64 f] (w.alloc (.cells (entV 3 W X r f) 35)) fun e w' => e = .returned (.bool true) ∧ Kp _ w') := Lib.hid (by
    have q := rframe_any f _ b lb n L V (h.kp K1)
    rwa [show (decide (0 ≤ (f : Int)) && decide ((f : Int) < n)) = true by simp; omega] at q)
  have HD : Hid (∀ w1, Kp w w1 → Calls Try.prog 26 #[.pointer (some ⟨b, 0, none⟩), .int .i64 r] w1 fun e w' => e = .returned (.bool true) ∧ Kp w1 w') := Lib.hid (fun w1 g => by
    have q := rframe_any r w1 b lb n L V (h.kp g)
    rwa [show (decide (0 ≤ (r : Int)) && decide ((r : Int) < n)) = true by simp; omega] at q)
  have B := Lib.hid (Blk.new w (entV 3 W X r f) 35)
  have HK := Lib.hid K1
  have HH := Lib.hid h
  have HF := Lib.hid hf
  have HR0 := Lib.hid hr
  have fi : (f : Int) < (n : Int) := by omega
  have ri : (r : Int) < (n : Int) := by omega
  clear h K1 hf hr
  unfold entV at HC HK B ⊢
  cases hL : L r with
  | none =>
    go_enter Try.func22, Try.ntmps22
    go_wp2_with fail
    refine (HC.out).mono ?_; rintro e w1 ⟨rfl, hg⟩
    have H1 := Lib.hid hg; clear hg
    have d3 := (B.out.kp H1.out).cell 3
    go_wp2_with fail
    refine (HD.out w1 (HK.out.trans H1.out)).mono ?_; rintro e w2 ⟨rfl, hg⟩
    have H2 := Lib.hid hg; clear hg
    have KK := Lib.hid ((HK.out.trans H1.out).trans H2.out)
    have HR := Lib.hid (HH.out.kp KK.out)
    have d0 := HR.out.hb.cell 0
    have d1 := (HR.out.hl.cell r).trans (rowsA_at L n r HR0.out)
    rw [hL] at d1
    unfold rowV at d1
    have d2 := HR.out.hl.frozen f
    have d6 := (HR.out.hl.cell f).trans (rowsA_at L n f HF.out)
    have B2 := (B.out.kp H1.out).kp H2.out
    have d4 := B2.cell 3
    have d5 := B2.cell 4
    clear B2 d3
    have ap := append_none 51
    go_wp2_with fail
    go_region
    go_wp2_with fail
    go_region
    go_wp2
    go_ret
    have R0 := HR.out.setRow HF.out none (V r) (fun p hp => HR.out.no r HR0.out hL p hp) (fun p => HR.out.wf r p)
    exact ⟨rfl, _, ⟨lb, _, R0.same (by simp) (fun _ _ => rfl), rfl⟩, fun k hk => .inl ((feet_setL hk).elim id (fun ⟨_, _, e⟩ => by cases e)), (Off.setCell (S := feet b lb n L) (Off.of_kp KK.out) (p := ⟨lb, f, none⟩) (.inl (.inr (.inl rfl))) _).drew.drew⟩
  | some q =>
    obtain ⟨g, o, cp⟩ := q
    go_enter Try.func22, Try.ntmps22
    go_wp2_with fail
    refine (HC.out).mono ?_; rintro e w3 ⟨rfl, hg⟩
    have H3 := Lib.hid hg; clear hg
    have d3 := (B.out.kp H3.out).cell 3
    go_wp2_with fail
    refine (HD.out w3 (HK.out.trans H3.out)).mono ?_; rintro e w4 ⟨rfl, hg⟩
    have H4 := Lib.hid hg; clear hg
    have KK := Lib.hid ((HK.out.trans H3.out).trans H4.out)
    have HR := Lib.hid (HH.out.kp KK.out)
    have d0 := HR.out.hb.cell 0
    have d1 := (HR.out.hl.cell r).trans (rowsA_at L n r HR0.out)
    rw [hL] at d1
    unfold rowV at d1
    have B2 := (B.out.kp H3.out).kp H4.out
    have d4 := B2.cell 3
    have B3 := Lib.hid B2
    clear B2 d3
    have d5 := B3.out.cell 4
    have HRA := Lib.hid (HR.out.row r g o cp HR0.out hL).2.2.2
    clear B3
    -- GEN
    go_wp2_with fail
    refine wp_region_held_drew (S := fun w' => w'.cell? ⟨b, 0, none⟩ = some (.slice (some ⟨lb, 0, none⟩) n n) ∧ w'.cell? ⟨lb, r, none⟩ = some (.slice (some ⟨g, o, none⟩) 512 cp) ∧ w'.cell? ⟨w.heap.size, 3, none⟩ = some (.int .i64 r) ∧ w'.cell? ⟨w.heap.size, 4, none⟩ = some (.int .i64 f) ∧ Kp w4 w' ∧ RowAt w' g o (V r)) (by kernel_rfl) ⟨d0, d1, d4, d5, (Kp.refl w4).drew, HRA.out⟩ (fun hHeld => ?_)
    clear d0 d1 d4 d5
    generalize World.drew _ = wz at hHeld ⊢
    refine wpAnyH_take (i := 0) (oi := ?p0z1) (v := ?v0z1) ?o0z1 (by kernel_rfl) (by kernel_rfl) (by kernel_rfl) ?q0z1 ?y0z1 (by assumption) ?r0z1
    case o0z1 => (simp only [List.getElem?_toArray, List.getElem?_cons_zero]; rfl)
    case q0z1 => (exact fun _ _ _ h => h)
    case y0z1 => (refine Or.inl ⟨by rfl, ?_⟩; intro w hSw; (try dsimp only at hSw); go_simp; (try with_reducible rfl))
    simp only [Act.put, List.setIfInBounds_toArray, List.set_cons_zero, List.set_cons_succ]
    refine wpAnyH_take (i := 1) (oi := ?p1z2) (v := ?v1z2) ?o1z2 (by kernel_rfl) (by kernel_rfl) (by kernel_rfl) ?q1z2 ?y1z2 (by assumption) ?r1z2
    case o1z2 => (simp only [List.getElem?_toArray, List.getElem?_cons_succ, List.getElem?_cons_zero]; rfl)
    case q1z2 => (exact fun _ _ _ h => h)
    case y1z2 => (refine Or.inl ⟨by rfl, ?_⟩; intro w hSw; (try dsimp only at hSw); go_simp; (try with_reducible rfl))
    simp only [Act.put, List.setIfInBounds_toArray, List.set_cons_zero, List.set_cons_succ]
    refine wpAnyH_take (i := 2) (oi := ?p2z3) (v := ?v2z3) ?o2z3 (by kernel_rfl) (by kernel_rfl) (by kernel_rfl) ?q2z3 ?y2z3 (by assumption) ?r2z3
    case o2z3 => (simp only [List.getElem?_toArray, List.getElem?_cons_succ, List.getElem?_cons_zero]; rfl)
    case q2z3 => (exact fun _ _ _ h => h)
    case y2z3 => (refine Or.inl ⟨by rfl, ?_⟩; intro w hSw; (try dsimp only at hSw); go_simp; (try with_reducible rfl))
    simp only [Act.put, List.setIfInBounds_toArray, List.set_cons_zero, List.set_cons_succ]
    refine wpAnyH_take (i := 3) (oi := ?p3z4) (v := ?v3z4) ?o3z4 (by kernel_rfl) (by kernel_rfl) (by kernel_rfl) ?q3z4 ?y3z4 (by assumption) ?r3z4
    case o3z4 => (simp only [List.getElem?_toArray, List.getElem?_cons_succ, List.getElem?_cons_zero]; rfl)
    case q3z4 => (exact fun _ _ _ h => h)
    case y3z4 => (refine Or.inl ⟨by rfl, ?_⟩; intro w hSw; (try dsimp only at hSw); go_simp; (try with_reducible rfl))
    simp only [Act.put, List.setIfInBounds_toArray, List.set_cons_zero, List.set_cons_succ]
    refine wpAnyH_take (i := 4) (oi := ?p4z5) (v := ?v4z5) ?o4z5 (by kernel_rfl) (by kernel_rfl) (by kernel_rfl) ?q4z5 ?y4z5 (by assumption) ?r4z5
    case o4z5 => (simp only [List.getElem?_toArray, List.getElem?_cons_succ, List.getElem?_cons_zero]; rfl)
    case q4z5 => (exact fun _ _ _ h => h)
    case y4z5 => (refine Or.inl ⟨by rfl, ?_⟩; intro w hSw; (try dsimp only at hSw); go_simp; (try with_reducible rfl))
    simp only [Act.put, List.setIfInBounds_toArray, List.set_cons_zero, List.set_cons_succ]
    refine wpAnyH_take (i := 5) (oi := ?p5z6) (v := ?v5z6) ?o5z6 (by kernel_rfl) (by kernel_rfl) (by kernel_rfl) ?q5z6 ?y5z6 (by assumption) ?r5z6
    case o5z6 => (simp only [List.getElem?_toArray, List.getElem?_cons_succ, List.getElem?_cons_zero]; rfl)
    case q5z6 => (exact fun _ _ _ h => h)
    case y5z6 => (refine Or.inl ⟨by rfl, ?_⟩; intro w hSw; (try dsimp only at hSw); go_simp; (try with_reducible rfl))
    simp only [Act.put, List.setIfInBounds_toArray, List.set_cons_zero, List.set_cons_succ]
    refine wpAnyH_take (i := 6) (oi := ?p6z7) (v := ?v6z7) ?o6z7 (by kernel_rfl) (by kernel_rfl) (by kernel_rfl) ?q6z7 ?y6z7 (by assumption) ?r6z7
    case o6z7 => (simp only [List.getElem?_toArray, List.getElem?_cons_succ, List.getElem?_cons_zero]; rfl)
    case q6z7 => (exact fun _ _ _ h => h)
    case y6z7 => (refine Or.inl ⟨by rfl, ?_⟩; intro w hSw; (try dsimp only at hSw); go_simp; (try with_reducible rfl))
    simp only [Act.put, List.setIfInBounds_toArray, List.set_cons_zero, List.set_cons_succ]
    refine wpAnyH_take (i := 7) (oi := ?p7z8) (v := ?v7z8) ?o7z8 (by kernel_rfl) (by kernel_rfl) (by kernel_rfl) ?q7z8 ?y7z8 (by assumption) ?r7z8
    case o7z8 => (simp only [List.getElem?_toArray, List.getElem?_cons_succ, List.getElem?_cons_zero]; rfl)
    case q7z8 => (exact fun _ _ _ h => h)
    case y7z8 => (refine Or.inl ⟨by rfl, ?_⟩; intro w hSw; (try dsimp only at hSw); go_simp; (try with_reducible rfl))
    simp only [Act.put, List.setIfInBounds_toArray, List.set_cons_zero, List.set_cons_succ]
    refine wpAnyH_take (i := 8) (oi := ?p8z9) (v := ?v8z9) ?o8z9 (by kernel_rfl) (by kernel_rfl) (by kernel_rfl) ?q8z9 ?y8z9 (by assumption) ?r8z9
    case o8z9 => (simp only [List.getElem?_toArray, List.getElem?_cons_succ, List.getElem?_cons_zero]; rfl)
    case q8z9 => (exact fun _ _ _ h => h)
    case y8z9 => (refine Or.inl ⟨by rfl, ?_⟩; intro w hSw; (try dsimp only at hSw); go_simp; (try with_reducible rfl))
    simp only [Act.put, List.setIfInBounds_toArray, List.set_cons_zero, List.set_cons_succ]
    refine wpAnyH_ready (rs := [9]) (by kernel_rfl) (by simp) ?_
    refine (AllReadyH.cons (o := ?pz10) ?oz10 (fun K hK => ?wz10) AllReadyH.nil)
    case oz10 => (simp only [List.getElem?_toArray, List.getElem?_cons_succ, List.getElem?_cons_zero]; rfl)
    case wz10 =>
      rw [if_pos (by rfl)]
      (try rw [if_pos (by rfl)])
      refine wp_append_row _ (.tmp 46) (.tmp 54) rfl rfl rfl hHeld.2.2.2.2.2 ?_
      intro cz11 wz11 hkz11 hrz11 hzz11
      refine hK.out _ _ (CopyS.kp (w0 := w4) (b := b) (lb := lb) (n := n) (r := r) (g := g) (o := o) (cp := cp) (e := w.heap.size) (f := f) (U := V r) hHeld hkz11) (fun hz11 => ?_)
      clear hK K
      refine wpAnyH_take (i := 10) (oi := ?p10z12) (v := ?v10z12) ?o10z12 (by kernel_rfl) (by kernel_rfl) (by kernel_rfl) ?q10z12 ?y10z12 (by assumption) ?r10z12
      case o10z12 => (simp only [List.getElem?_toArray, List.getElem?_cons_succ, List.getElem?_cons_zero]; rfl)
      case q10z12 => (exact fun _ _ _ h => h)
      case y10z12 => (refine Or.inl ⟨by rfl, ?_⟩; intro w hSw; (try dsimp only at hSw); go_simp; (try with_reducible rfl))
      simp only [Act.put, List.setIfInBounds_toArray, List.set_cons_zero, List.set_cons_succ]
      refine wpAnyH_done (by kernel_rfl) ?_ _
      have HN : Hid (RowAt wz11 wz.heap.size 0 (V r) ∧ wz.heap.size < wz11.heap.size ∧ w4.heap.size ≤ wz.heap.size ∧ Kp w4 wz11) := Lib.hid ⟨hrz11, hzz11, Kp.size hHeld.2.2.2.2.1, hHeld.2.2.2.2.1.trans hkz11⟩
      have e4 : wz11.cell? ⟨w.heap.size, 4, none⟩ = some (.int .i64 f) := hz11.2.2.2.1
      clear hrz11 hzz11 hkz11 hz11 hHeld
      generalize wz.heap.size = G at HN ⊢
      generalize wz11 = w6 at HN e4 ⊢
      generalize cz11 = cq
      have HR6 := Lib.hid (HR.out.kp HN.out.2.2.2)
      have KN := Lib.hid (KK.out.trans HN.out.2.2.2)
      have q0 := HR6.out.hb.cell 0
      have q2 := HR6.out.hl.frozen f
      have q6 := (HR6.out.hl.cell f).trans (rowsA_at L n f HF.out)
      go_wp2_with fail
      go_region
      go_wp2
      go_ret
      have R0 := HR6.out.setRow HF.out (some (G, 0, cq)) (V r) ⟨HN.out.2.1, fun k hk => by have := HR.out.lt hk; have := HN.out.2.2.1; omega, HN.out.1⟩ (fun p => HR.out.wf r p)
      refine ⟨rfl, _, ⟨lb, _, R0.same (by simp) (fun _ _ => rfl), rfl⟩, fun k hk => ?_, (Off.setCell (S := feet b lb n L) (Off.of_kp KN.out) (p := ⟨lb, f, none⟩) (.inl (.inr (.inl rfl))) _).drew⟩
      rcases feet_setL hk with h | ⟨o2, c2, h⟩
      · exact .inl h
      · cases h
        have := HN.out.2.2.1
        have := KK.out.size
        exact .inr (by omega)
end Go.Proofs.Ytnjdglejcfdonaa
