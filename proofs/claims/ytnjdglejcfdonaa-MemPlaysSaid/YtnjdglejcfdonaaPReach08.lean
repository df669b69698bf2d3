/-
  Package mem: what an entry does. No condition.
-/
import Derived.Test.YtnjdglejcfdonaaPRW08
import Derived.Deep.WholeRow
namespace Go.Proofs.Ytnjdglejcfdonaa
open Go Go.RowKit Go.Maps

theorem lt_of_cell {w : World} {b o : Nat} {v : Value} (h : w.cell? ⟨b, o, none⟩ = some v) : b < w.heap.size := by
  unfold World.cell? at h
  apply Nat.lt_of_not_le
  intro hn
  rw [Array.getElem?_eq_none hn] at h
  simp at h
theorem cell_off {S : Nat → Prop} {w w' : World} {b o : Nat} {v : Value} (h : w.cell? ⟨b, o, none⟩ = some v) (g : Off S w w') (hb : ¬ S b) : w'.cell? ⟨b, o, none⟩ = some v :=
  (World.cell?_of_block (a := ⟨b, o, none⟩) (g.block b (lt_of_cell h) hb)).trans h
theorem cell_turned {w w' : World} {m b o : Nat} {v : Value} (h : w.cell? ⟨b, o, none⟩ = some v) (g : w.mapTurned w' m) (hb : b ≠ m) : w'.cell? ⟨b, o, none⟩ = some v :=
  (World.cell?_of_block (a := ⟨b, o, none⟩) (turned_other g hb)).trans h
theorem PMem.congr {w : World} {S : Nat → Prop} {b n : Nat} {V U : Nat → Nat → Nat} (h : PMem w S b n V) (e : ∀ f p, f < n → p < 512 → U f p = V f p) (hu : ∀ f p, U f p < 18446744073709551616) : PMem w S b n U := by
  obtain ⟨mb, L, h, rfl⟩ := h; exact ⟨mb, L, h.congr e hu, rfl⟩
theorem okF_yes {n : Nat} {f : Nat} (h : f < n) : okF n f = true := by unfold okF; simp; omega
theorem pword_any (k : Int) (W X : Nat) (fr fm : Int) (w : World) (S : Nat → Prop) (b n : Nat) (V : Nat → Nat → Nat) (h : PMem w S b n V) (hW : W < 18446744073709551616) (hX : X < 18446744073709551616) :
    Calls Try.prog 27 #[.pointer (some ⟨b, 0, none⟩), .agg (entV k W X fr fm)] w fun e w' => e = .returned (.int .i64 (if W / 512 < n then 0 else 80)) ∧
      ∃ S', PMem w' S' b n (if W / 512 < n then putV V (W / 512) (W % 512) X else V) ∧ Grew w S S' ∧ Off S w w' := by
  have K1 : Kp w (w.alloc (.cells (entV k W X fr fm) 35)) := (Kp.refl w).alloc _ _
  have HWr := Lib.hid (pwrite_any W X _ S b n V (h.kp K1) hW hX)
  have HK := Lib.hid K1
  clear h hW hX K1
  generalize hr : (if W / 512 < n then putV V (W / 512) (W % 512) X else V) = U at *
  generalize hE : (if W / 512 < n then (0 : Int) else 80) = E at *
  unfold entV at HWr HK ⊢
  go_enter Try.func27, Try.ntmps27
  go_wp2_with fail
  refine HWr.out.mono ?_; rintro e w2 ⟨rfl, S', r, g, o⟩
  have R := Lib.hid r
  have G := Lib.hid g
  have O := Lib.hid o
  clear r g o
  go_wp2
  go_ret
  exact ⟨rfl, S', R.out, fun k hk => (G.out k hk).imp id (fun z => Nat.le_trans HK.out.size z), (Off.of_kp HK.out).trans O.out (Grew.refl _ _)⟩
theorem pbar_any (k W X fr fm : Int) (b : Nat) (w : World) :
    Calls Try.prog 28 #[.pointer (some ⟨b, 0, none⟩), .agg (entV k W X fr fm)] w fun e w' => e = .returned (.int .i64 0) ∧ Kp w w' := by
  unfold entV
  go_enter Try.func28, Try.ntmps28
  go_wp2
  go_ret
  exact ⟨rfl, (Kp.refl w).alloc (entV k W X fr fm) 35⟩
theorem pzero_no (k W X fr fm : Int) (w : World) (S : Nat → Prop) (b n : Nat) (V : Nat → Nat → Nat) (h : PMem w S b n V) (hf : okF n fm = false) :
    Calls Try.prog 29 #[.pointer (some ⟨b, 0, none⟩), .agg (entV k W X fr fm)] w fun e w' => e = .returned (.int .i64 80) ∧ Kp w w' := by
  have K1 : Kp w (w.alloc (.cells (entV k W X fr fm) 35)) := (Kp.refl w).alloc _ _
  obtain ⟨mb, L, h, hS⟩ := h
  have HC := Lib.hid (has_any fm _ b mb n L V (h.kp K1))
  rw [hf] at HC
  have HK := Lib.hid K1
  clear h hS hf K1
  unfold entV at HC HK ⊢
  go_enter Try.func29, Try.ntmps29
  go_wp2_with fail
  refine (HC.out).mono ?_; rintro e w1 ⟨rfl, hg⟩
  have H1 := Lib.hid hg; clear hg
  go_wp2
  go_ret
  exact ⟨rfl, HK.out.trans H1.out⟩
theorem pzero_any (k W X fr : Int) (f : Nat) (w : World) (S : Nat → Prop) (b n : Nat) (V : Nat → Nat → Nat) (h : PMem w S b n V) (hf : f < n) :
    Calls Try.prog 29 #[.pointer (some ⟨b, 0, none⟩), .agg (entV k W X fr f)] w fun e w' => e = .returned (.int .i64 0) ∧ ∃ S', PMem w' S' b n (setF V f fun _ => 0) ∧ Grew w S S' ∧ Off S w w' := by
  have K1 : Kp w (w.alloc (.cells (entV k W X fr f) 35)) := (Kp.refl w).alloc _ _
  obtain ⟨mb, L, h, rfl⟩ := h
  have HC := Lib.hid (has_any f _ b mb n L V (h.kp K1))
  rw [okF_yes hf] at HC
  have B := Lib.hid (Blk.new w (entV k W X fr f) 35)
  have HK := Lib.hid K1
  have HH := Lib.hid h
  have HF := Lib.hid hf
  have HM : Hid (w.heap.size ≠ mb ∧ b ≠ mb) := Lib.hid ⟨fun e => by have := h.hm.lt; omega, h.bl⟩
  clear h hf K1
  unfold entV at HC HK B ⊢
  go_enter Try.func29, Try.ntmps29
  go_wp2_with fail
  refine (HC.out).mono ?_; rintro e w1 ⟨rfl, hg⟩
  have H1 := Lib.hid hg; clear hg
  have HR := Lib.hid ((HH.out.kp (HK.out.trans H1.out)).kp (Kp.refl _).drew)
  have d0 := HR.out.hb.cell 1
  have d3 := ((B.out.kp H1.out).kp (Kp.refl _).drew).cell 4
  have HK2 := Lib.hid ((HK.out.trans H1.out).drew)
  go_wp2_with fail
  refine wp_region_held_drew (S := fun w' => w'.cell? ⟨b, 1, none⟩ = some (.map (some mb)) ∧ w'.cell? ⟨w.heap.size, 4, none⟩ = some (.int .i64 f)) (by kernel_rfl) ⟨d0, d3⟩ (fun hHeld => ?_)
  clear d0 d3 HC B HK
  generalize World.drew _ = w0 at hHeld HR HK2 ⊢
  obtain ⟨w2, hdel, hpm, htu⟩ := HR.out.drop HF.out 0
  have HPM := Lib.hid hpm
  have HTU := Lib.hid htu
  clear hpm htu
  refine wpAnyH_take (i := 0) (oi := ?p0z1) (v := ?v0z1) ?o0z1 (by kernel_rfl) (by kernel_rfl) (by kernel_rfl) ?q0z1 ?y0z1 (by assumption) ?r0z1
  case o0z1 => (simp only [List.getElem?_toArray, List.getElem?_cons_zero]; rfl)
  case q0z1 => (exact fun _ _ _ h => h)
  case y0z1 => (refine Or.inl ⟨by rfl, ?_⟩; intro w hSw; (try dsimp only at hSw); go_simp; (try with_reducible rfl))
  simp only [Act.put, List.setIfInBounds_toArray, List.set_cons_zero, List.set_cons_succ]
  refine wpAnyH_take (i := 1) (oi := ?p1z2) (v := ?v1z2) ?o1z2 (by kernel_rfl) (by kernel_rfl) (by kernel_rfl) ?q1z2 ?y1z2 (by assumption) ?r1z2
  case o1z2 => (simp only [List.getElem?_toArray, List.getElem?_cons_succ, List.getElem?_cons_zero]; rfl)
  case q1z2 => (exact fun _ _ _ h => h)
  case y1z2 => (refine Or.inl ⟨by rfl, ?_⟩; intro w hSw; (try dsimp only at hSw); go_simp; (try with_reducible rfl))
  simp only [Act.put, List.setIfInBounds_toArray, List.set_cons_zero, List.set_cons_succ]
  refine wpAnyH_take (i := 2) (oi := ?p2z3) (v := ?v2z3) ?o2z3 (by kernel_rfl) (by kernel_rfl) (by kernel_rfl) ?q2z3 ?y2z3 (by assumption) ?r2z3
  case o2z3 => (simp only [List.getElem?_toArray, List.getElem?_cons_succ, List.getElem?_cons_zero]; rfl)
  case q2z3 => (exact fun _ _ _ h => h)
  case y2z3 => (refine Or.inl ⟨by rfl, ?_⟩; intro w hSw; (try dsimp only at hSw); go_simp; (try with_reducible rfl))
  simp only [Act.put, List.setIfInBounds_toArray, List.set_cons_zero, List.set_cons_succ]
  refine wpAnyH_take (i := 3) (oi := ?p3z4) (v := ?v3z4) ?o3z4 (by kernel_rfl) (by kernel_rfl) (by kernel_rfl) ?q3z4 ?y3z4 (by assumption) ?r3z4
  case o3z4 => (simp only [List.getElem?_toArray, List.getElem?_cons_succ, List.getElem?_cons_zero]; rfl)
  case q3z4 => (exact fun _ _ _ h => h)
  case y3z4 => (refine Or.inl ⟨by rfl, ?_⟩; intro w hSw; (try dsimp only at hSw); go_simp; (try with_reducible rfl))
  simp only [Act.put, List.setIfInBounds_toArray, List.set_cons_zero, List.set_cons_succ]
  refine wpAnyH_take (i := 4) (oi := ?p4z5) (v := ?v4z5) ?o4z5 (by kernel_rfl) (by kernel_rfl) (by kernel_rfl) ?q4z5 ?y4z5 (by assumption) ?r4z5
  case o4z5 => (simp only [List.getElem?_toArray, List.getElem?_cons_succ, List.getElem?_cons_zero]; rfl)
  case q4z5 => (exact fun _ _ _ h => h)
  case y4z5 => (refine Or.inl ⟨by rfl, ?_⟩; intro w hSw; (try dsimp only at hSw); go_simp; (try with_reducible rfl))
  simp only [Act.put, List.setIfInBounds_toArray, List.set_cons_zero, List.set_cons_succ]
  refine wpAnyH_take (i := 5) (oi := ?p5z6) (v := ?v5z6) ?o5z6 (by kernel_rfl) (by kernel_rfl) (by kernel_rfl) ?q5z6 ?y5z6 (by assumption) ?r5z6
  case o5z6 => (simp only [List.getElem?_toArray, List.getElem?_cons_succ, List.getElem?_cons_zero]; rfl)
  case q5z6 => (exact fun _ _ _ h => h)
  case y5z6 => (refine Or.inl ⟨by rfl, ?_⟩; intro w hSw; (try dsimp only at hSw); go_simp; (try with_reducible rfl))
  simp only [Act.put, List.setIfInBounds_toArray, List.set_cons_zero, List.set_cons_succ]
  refine wpAnyH_ready (rs := [6]) (by kernel_rfl) (by simp) ?_
  refine (AllReadyH.cons (o := ?pz7) ?oz7 (fun K hK => ?wz7) AllReadyH.nil)
  case oz7 => (simp only [List.getElem?_toArray, List.getElem?_cons_succ, List.getElem?_cons_zero]; rfl)
  case wz7 =>
    rw [if_pos (by rfl)]
    go_simp
    (try go_wp2_with fail)
    refine hK.out _ _ ⟨HPM.out.hb.cell 1, cell_turned (hHeld).2 HTU.out HM.out.1⟩ (fun hz8 => ?_)
    clear hK K
    refine wpAnyH_done (by kernel_rfl) ?_ _
    go_wp2_with fail
    go_ret
    exact ⟨rfl, _, ⟨mb, _, HPM.out, rfl⟩, fun k hk => .inl ((pfeet_set hk).elim id (fun e => by cases e)), (Off.of_kp HK2.out).turned HTU.out (.inl (.inr (.inl rfl)))⟩
theorem ptake_no (k W X fr fm : Int) (w : World) (S : Nat → Prop) (b n : Nat) (V : Nat → Nat → Nat) (h : PMem w S b n V) (hf : okF n fm = false ∨ okF n fr = false) :
    Calls Try.prog 30 #[.pointer (some ⟨b, 0, none⟩), .agg (entV k W X fr fm)] w fun e w' => e = .returned (.int .i64 80) ∧ Kp w w' := by
  have K1 : Kp w (w.alloc (.cells (entV k W X fr fm) 35)) := (Kp.refl w).alloc _ _
  obtain ⟨mb, L, h, hS⟩ := h
  have HC := Lib.hid (has_any fm _ b mb n L V (h.kp K1))
  have HD : Hid (∀ w1, Kp w w1 → Calls Try.prog 32 #[.pointer (some ⟨b, 0, none⟩), .int .i64 fr] w1 fun e w' => e = .returned (.bool (okF n fr)) ∧ Kp w1 w') := Lib.hid (fun w1 g => has_any fr w1 b mb n L V (h.kp g))
  have B := Lib.hid (Blk.new w (entV k W X fr fm) 35)
  have HK := Lib.hid K1
  clear h hS K1
  by_cases c : okF n fm = false
  · rw [c] at HC
    clear hf c HD B
    unfold entV at HC HK ⊢
    go_enter Try.func30, Try.ntmps30
    go_wp2_with fail
    refine (HC.out).mono ?_; rintro e w1 ⟨rfl, hg⟩
    have H1 := Lib.hid hg; clear hg
    go_wp2
    go_ret
    exact ⟨rfl, HK.out.trans H1.out⟩
  · have c2 : okF n fr = false := hf.resolve_left c
    have c1 : okF n fm = true := by simpa using c
    rw [c1] at HC
    rw [c2] at HD
    clear hf c c1 c2
    unfold entV at HC HK B ⊢
    go_enter Try.func30, Try.ntmps30
    go_wp2_with fail
    refine (HC.out).mono ?_; rintro e w2 ⟨rfl, hg⟩
    have H2 := Lib.hid hg; clear hg
    have d3 := (B.out.kp H2.out).cell 3
    go_wp2_with fail
    refine (HD.out w2 (HK.out.trans H2.out)).mono ?_; rintro e w3 ⟨rfl, hg⟩
    have H3 := Lib.hid hg; clear hg
    go_wp2
    go_ret
    exact ⟨rfl, (HK.out.trans H2.out).trans H3.out⟩
set_option maxRecDepth 100000 in
theorem ptake_any (k W X : Int) (r f : Nat) (w : World) (S : Nat → Prop) (b n : Nat) (V : Nat → Nat → Nat) (h : PMem w S b n V) (hf : f < n) (hr : r < n) :
    Calls Try.prog 30 #[.pointer (some ⟨b, 0, none⟩), .agg (entV k W X r f)] w fun e w' => e = .returned (.int .i64 0) ∧ ∃ S', PMem w' S' b n (setF V f (V r)) ∧ Grew w S S' ∧ Off S w w' := by
  have K1 : Kp w (w.alloc (.cells (entV k W X r f) 35)) := (Kp.refl w).alloc _ _
  obtain ⟨mb, L, h, rfl⟩ := h
  have HC := Lib.hid (has_any f _ b mb n L V (h.kp K1))
  have HD : Hid (∀ w1, Kp w w1 → Calls Try.prog 32 #[.pointer (some ⟨b, 0, none⟩), .int .i64 r] w1 fun e w' => e = .returned (.bool true) ∧ Kp w1 w') := Lib.hid (fun w1 g => by rw [← okF_yes hr]; exact has_any r w1 b mb n L V (h.kp g))
  rw [okF_yes hf] at HC
  have HZ := Lib.hid (fun w1 (g : Kp w w1) => pzero_any k W X r f w1 _ b n V ⟨mb, L, h.kp g, rfl⟩ hf)
  have B := Lib.hid (Blk.new w (entV k W X r f) 35)
  have HK := Lib.hid K1
  have HH := Lib.hid h
  have HF := Lib.hid (And.intro hf hr)
  have HM : Hid (w.heap.size ≠ mb ∧ b ≠ mb) := Lib.hid ⟨fun e => by have := h.hm.lt; omega, h.bl⟩
  clear h hf hr K1
  unfold entV at HC HK B HZ ⊢
  go_enter Try.func30, Try.ntmps30
  go_wp2_with fail
  refine (HC.out).mono ?_; rintro e w1 ⟨rfl, hg⟩
  have H1 := Lib.hid hg; clear hg
  have d3 := (B.out.kp H1.out).cell 3
  go_wp2_with fail
  refine (HD.out w1 (HK.out.trans H1.out)).mono ?_; rintro e w2 ⟨rfl, hg⟩
  have H2 := Lib.hid hg; clear hg
  have HR := Lib.hid (HH.out.kp ((HK.out.trans H1.out).trans H2.out))
  have d0 := HR.out.hb.cell 1
  have d3 := (B.out.kp (H1.out.trans H2.out)).cell 3
  have d1 := (HR.out.kp (Kp.refl _).drew).look r HF.out.2
  go_wp2_with fail
  go_region
  clear d0 d1 d3 HC HD
  have HKw := Lib.hid (((HK.out.trans H1.out).trans H2.out).drew)
  have HR2 := Lib.hid (HR.out.kp (Kp.refl _).drew)
  have HB2 := Lib.hid ((B.out.kp (H1.out.trans H2.out)).kp (Kp.refl _).drew)
  clear B H1 H2 HR HK
  generalize w2.drew = w3 at *
  cases hL : L r with
  | none =>
    have q0 := HB2.out.cell 0
    have q1 := HB2.out.cell 1
    have q2 := HB2.out.cell 2
    have q3 := HB2.out.cell 3
    have q4 := HB2.out.cell 4
    go_wp2_with (go_at_call 29; refine (HZ.out _ HKw.out).mono ?_; rintro e w4 ⟨rfl, S', r', g', o'⟩; have R := Lib.hid r'; have G := Lib.hid g'; have O := Lib.hid o'; clear r' g' o')
    go_ret
    refine ⟨rfl, S', R.out.congr (fun f' p hf' hp => ?_) (fun f' p => ?_), fun k hk => (G.out k hk).imp id (fun z => Nat.le_trans HKw.out.size z), (Off.of_kp HKw.out).trans O.out (Grew.refl _ _)⟩
    · unfold setF
      by_cases e : f' = f
      · rw [if_pos e, if_pos e]
        exact HH.out.no r HF.out.2 hL p hp
      · rw [if_neg e, if_neg e]
    · unfold setF
      split
      · exact HH.out.wf _ _
      · exact HH.out.wf _ _
  | some g =>
    have HG := Lib.hid (HR2.out.row r g HF.out.2 hL).2.2
    have hal := zero_arr
    go_wp2_with (first
      | (refine wpList_load_row rfl 61 (.tmp 32) rfl g rfl _ _ _ _ HG.out Try.underlying61 rfl (by kernel_rfl) ?_)
      | (refine wpList_store_row rfl 61 (.tmp 6) (.tmp 33) rfl w3.heap.size (rowU (V r)) rfl rfl _ _ (heap_alloc_last _ _) (by kernel_rfl) rfl (by simp [rowU, Value.oneCell']) ?_; rw [World.setRow_alloc_new]))
    clear HZ
    have KA := Lib.hid ((Kp.refl w3).alloc (rowU (V r)) 61)
    have NA : NewArr (w3.alloc (.cells (rowU (V r)) 61)).drew b mb n L (V r) (some w3.heap.size) := ⟨fun k hk => Nat.ne_of_lt (HR2.out.lt hk), (Blk.new w3 _ _).drew⟩
    obtain ⟨w5, hst, hpm, htu⟩ := (HR2.out.kp (KA.out.drew)).store HF.out.1 w3.heap.size (V r) NA (fun p => HH.out.wf r p)
    have HP := Lib.hid hpm
    have HT := Lib.hid htu
    have d4 := (HR2.out.kp KA.out).hb.cell 1
    have d5 := (HB2.out.alloc (.cells (rowU (V r)) 61)).cell 4
    clear hpm htu NA hL hal
    generalize hRU : rowU (V r) = RU at *
    go_region
    all_goals (try go_wp2)
    all_goals (go_ret; exact ⟨rfl, _, ⟨mb, _, HP.out, rfl⟩, fun k hk => (pfeet_set hk).imp id (fun e => by cases e; exact HKw.out.size), (Off.of_kp (HKw.out.trans KA.out.drew)).turned HT.out (.inl (.inr (.inl rfl)))⟩)
end Go.Proofs.Ytnjdglejcfdonaa
