/-
  Package mem: New, Frames, a word's place, Read, Write, Add. No condition.
-/
import Derived.Test.YtnjdglejcfdonaaPMem08
namespace Go.Proofs.Ytnjdglejcfdonaa
open Go Go.RowKit Go.Maps

theorem PM.congr {w : World} {b mb n : Nat} {L : Nat → Option Nat} {V U : Nat → Nat → Nat} (h : PM w b mb n L V) (e : ∀ f p, f < n → p < 512 → U f p = V f p) (hu : ∀ f p, U f p < 18446744073709551616) : PM w b mb n L U := by
  obtain ⟨h1, h2, h3, h4, h5, h6, h7, h8⟩ := h
  refine ⟨h1, h2, fun f g hf hL => ?_, h4, fun f hf hL p hp => (e f p hf hp).trans (h5 f hf hL p hp), hu, h7, h8⟩
  obtain ⟨r1, r2, r3⟩ := h3 f g hf hL
  have ea : rowU (U f) = rowU (V f) := by
    apply Array.ext_getElem?
    intro p
    by_cases hp : p < 512
    · rw [rowU_at _ _ hp, rowU_at _ _ hp, e f p hf hp]
    · rw [Array.getElem?_eq_none (by simp [rowU]; omega), Array.getElem?_eq_none (by simp [rowU]; omega)]
  generalize rowU (U f) = A at *
  subst ea
  exact ⟨r1, r2, r3⟩
theorem wrap_m (n : Nat) (h : n ≤ 64) : IntKind.u64.wrap ((n : Int) * 512) = ((n * 512 : Nat) : Int) := by
  rw [show IntKind.u64.wrap ((n : Int) * 512) = ((n : Int) * 512) % 18446744073709551616 from IntKind.wrap_u64 _]; omega
theorem arr_zero (w : World) : Blk (w.alloc (.cells (madeCells #[.int .u64 0] 512) 61)) w.heap.size (rowU fun _ => 0) 61 := by
  have e : madeCells #[Value.int .u64 0] 512 = rowU fun _ => 0 := by
    apply Array.ext_getElem?
    intro i
    have e := toList_madeCells_one (.int .u64 0) 512
    have e2 : (madeCells #[Value.int .u64 0] 512)[i]? = ((madeCells #[Value.int .u64 0] 512).toList)[i]? := by simp
    rw [e2, e, List.getElem?_replicate]
    by_cases h : i < 512
    · rw [rowU_at _ _ h, if_pos h]; rfl
    · rw [if_neg h, Array.getElem?_eq_none (by simp [rowU]; omega)]
  rw [← e]
  exact Blk.new w _ _
theorem zero_arr (w : World) : (zeroValue 61).run Try.prog w = .ok (.agg (rowU fun _ => 0)) w := by kernel_rfl
theorem mk_map (w : World) : (Instr.makeMap 53 none).run Try.prog w = .ok (.map (some w.heap.size)) (w.alloc (.map #[] 0)) := rfl
theorem Kp.allocO {w0 w : World} (h : Kp w0 w) (o : Obj) : Kp w0 (w.alloc o) := Below.trans h ⟨rfl, rfl, rfl, by show _ ≤ (w.heap.push o).size; simp, fun k hk => Below.heap_alloc w o k (Nat.lt_of_lt_of_le hk h.size)⟩
theorem wants_any (W : Nat) (w : World) (b mb n : Nat) (L : Nat → Option Nat) (V : Nat → Nat → Nat) (h : PM w b mb n L V) :
    Calls Try.prog 24 #[.pointer (some ⟨b, 0, none⟩), .int .u64 W] w fun e w' => e = .returned (.int .i64 (if W / 512 < n then 0 else 80)) ∧ Kp w w' := by
  have c0 := h.hb.cell 0
  have e2 := wrap_n n h.n64
  have e3 := wrap_m n h.n64
  clear h
  by_cases c : W / 512 < n
  · have d : ¬ ((n * 512 : Nat) : Int) ≤ (W : Int) := by omega
    have d' : decide (((n * 512 : Nat) : Int) ≤ (W : Int)) = false := decide_eq_false d
    rw [if_pos c]
    clear c
    generalize ((n * 512 : Nat) : Int) = M at *
    go_enter Try.func24, Try.ntmps24
    go_wp2
    go_ret
    exact ⟨rfl, Kp.refl w⟩
  · have d : ((n * 512 : Nat) : Int) ≤ (W : Int) := by omega
    have d' : decide (((n * 512 : Nat) : Int) ≤ (W : Int)) = true := decide_eq_true d
    rw [if_neg c]
    clear c
    generalize ((n * 512 : Nat) : Int) = M at *
    go_enter Try.func24, Try.ntmps24
    go_wp2
    go_ret
    exact ⟨rfl, Kp.refl w⟩
theorem has_any (x : Int) (w : World) (b mb n : Nat) (L : Nat → Option Nat) (V : Nat → Nat → Nat) (h : PM w b mb n L V) :
    Calls Try.prog 32 #[.pointer (some ⟨b, 0, none⟩), .int .i64 x] w fun e w' => e = .returned (.bool (okF n x)) ∧ Kp w w' := by
  have c0 := h.hb.cell 0
  clear h
  unfold okF
  by_cases c : 0 ≤ x
  · have d1 : decide (0 ≤ x) = true := decide_eq_true c
    go_enter Try.func32, Try.ntmps32
    go_wp2
    go_ret
    exact ⟨by simp [c], Kp.refl w⟩
  · have d1 : decide (0 ≤ x) = false := decide_eq_false c
    go_enter Try.func32, Try.ntmps32
    go_wp2
    go_ret
    exact ⟨by simp, Kp.refl w⟩
theorem pframes_any (w : World) (S : Nat → Prop) (b n : Nat) (V : Nat → Nat → Nat) (h : PMem w S b n V) :
    Calls Try.prog 16 #[.pointer (some ⟨b, 0, none⟩)] w fun e w' => e = .returned (.int .i64 n) ∧ Kp w w' := by
  obtain ⟨mb, L, h, -⟩ := h
  have c0 := h.hb.cell 0
  clear h
  go_enter Try.func16, Try.ntmps16
  go_wp2
  go_ret
  exact ⟨rfl, Kp.refl w⟩
theorem pnew_no (x : Int) (w : World) (h : x < 1 ∨ 64 < x) :
    Calls Try.prog 8 #[.int .i64 x] w fun e w' => e = .returned (.tuple #[.pointer none, .int .i64 2]) ∧ Kp w w' := by
  by_cases c : x < 1
  · have d1 : decide (x < 1) = true := decide_eq_true c
    go_enter Try.func8, Try.ntmps8
    go_wp2
    go_ret2
    exact ⟨rfl, Kp.refl w⟩
  · have d1 : decide (x < 1) = false := decide_eq_false c
    have d2 : decide (64 < x) = true := decide_eq_true (by omega)
    clear h
    go_enter Try.func8, Try.ntmps8
    go_wp2
    go_ret2
    exact ⟨rfl, Kp.refl w⟩
theorem pnew_yes (n : Nat) (w : World) (h1 : 1 ≤ n) (h2 : n ≤ 64) :
    Calls Try.prog 8 #[.int .i64 n] w fun e w' => ∃ b S, e = .returned (.tuple #[.pointer (some ⟨b, 0, none⟩), .int .i64 0]) ∧ PMem w' S b n (fun _ _ => 0) ∧ (∀ k, S k → w.heap.size ≤ k) ∧ Kp w w' := by
  have d1 : decide ((n : Int) < 1) = false := decide_eq_false (by omega)
  have d2 : decide ((64 : Int) < (n : Int)) = false := decide_eq_false (by omega)
  have H1 := Lib.hid h1
  have H2 := Lib.hid h2
  clear h1 h2
  have hmk := mk_map
  go_enter Try.func8, Try.ntmps8
  go_wp2
  go_ret2
  have hb := Blk.new2 w (.map #[] 0) #[.int .i64 n, .map (some w.heap.size)] 55
  have hm := (KMap.new Try.prog 3 w).alloc (.cells #[.int .i64 n, .map (some w.heap.size)] 55)
  refine ⟨w.heap.size + 1, _, rfl, ⟨w.heap.size, fun _ => none, ⟨hb, hm.ext (fun z l hz => ?_) (fun z hz => ?_), fun _ _ _ e => (by cases e), fun _ _ _ _ _ e => (by cases e), fun _ _ _ _ _ => rfl, fun _ _ => by decide, by omega, H2.out⟩, rfl⟩, fun k hk => ?_, ((Kp.refl w).allocO _).alloc _ _⟩
  · unfold frC
    split
    · split <;> rfl
    · rfl
  · unfold frC
    split
    · split <;> rfl
    · rfl
  · rcases hk with rfl | rfl | ⟨_, _, e⟩
    · omega
    · omega
    · cases e
/-! The word that is to be written. -/
theorem pcell_any (W : Nat) (w : World) (b mb n : Nat) (L : Nat → Option Nat) (V : Nat → Nat → Nat) (h : PM w b mb n L V) (hW : W < 18446744073709551616) (hf : W / 512 < n) :
    Calls Try.prog 25 #[.pointer (some ⟨b, 0, none⟩), .int .u64 W] w fun e w' => ∃ g L', e = .returned (.pointer (some ⟨g, W % 512, none⟩)) ∧ PM w' b mb n L' V ∧ L' (W / 512) = some g ∧ Grew w (pfeet b mb n L) (pfeet b mb n L') ∧ Off (pfeet b mb n L) w w' := by
  have e1 := wrap_q W hW
  have e3 := rem_q W
  have e4 : wrap64 ((W / 512 : Nat) : Int) = ((W / 512 : Nat) : Int) := by unfold wrap64; omega
  have e5 : wrap64 ((W % 512 : Nat) : Int) = ((W % 512 : Nat) : Int) := by unfold wrap64; omega
  have e6 : (W : Int) % 512 = ((W % 512 : Nat) : Int) := by omega
  have HH := Lib.hid h
  have hp : W % 512 < 512 := Nat.mod_lt _ (by decide)
  have c0 := h.hb.cell 1
  clear h hW
  generalize W / 512 = f at *
  generalize W % 512 = p at *
  have HF := Lib.hid hf
  have p0 : (0 : Int) ≤ (p : Int) := by omega
  have p1 : (p : Int) < 512 := by omega
  clear hf
  have d1 := HH.out.look f HF.out
  cases hL : L f with
  | none =>
    rw [hL] at d1
    have hal := zero_arr
    have NA : Hid (NewArr (w.alloc (.cells (rowU fun _ => 0) 61)) b mb n L (fun _ => 0) (some w.heap.size)) := Lib.hid ⟨fun k hk => Nat.ne_of_lt (HH.out.lt hk), Blk.new w _ _⟩
    have KA : Kp w (w.alloc (.cells (rowU fun _ => 0) 61)) := (Kp.refl w).alloc _ _
    obtain ⟨w2, hst, hpm, htu⟩ := (HH.out.kp KA).store HF.out w.heap.size (fun _ => 0) NA.out (fun _ => by decide)
    have HKA := Lib.hid KA
    have d4 := (HH.out.kp KA).hb.cell 1
    have HP := Lib.hid hpm
    have HTu := Lib.hid htu
    clear KA hpm htu
    have hLf : setO L f (some w.heap.size) f = some w.heap.size := by simp [setO]
    have HLf := Lib.hid hLf
    clear hLf
    generalize rowU (fun _ => 0) = A at *
    go_enter Try.func25, Try.ntmps25
    go_wp2
    go_ret
    refine ⟨w.heap.size, _, rfl, HP.out.congr (fun f' p' hf' hp' => ?_) HH.out.wf, HLf.out, fun k hk => ?_, (Off.of_kp HKA.out).turned HTu.out (.inl (.inr (.inl rfl)))⟩
    · unfold setF
      by_cases e : f' = f
      · subst e
        rw [if_pos rfl, HH.out.no f' HF.out hL p' hp']
      · rw [if_neg e]
    · rcases pfeet_set hk with h | h
      · exact .inl h
      · cases h; exact .inr (Nat.le_refl _)
  | some g =>
    rw [hL] at d1
    go_enter Try.func25, Try.ntmps25
    go_wp2
    go_ret
    exact ⟨g, L, rfl, HH.out, hL, Grew.refl _ _, Off.refl _ _⟩
theorem pread_any (W : Nat) (w : World) (S : Nat → Prop) (b n : Nat) (V : Nat → Nat → Nat) (h : PMem w S b n V) (hW : W < 18446744073709551616) :
    Calls Try.prog 17 #[.pointer (some ⟨b, 0, none⟩), .int .u64 W] w fun e w' => e = .returned (.tuple #[.int .u64 ((if W / 512 < n then V (W / 512) (W % 512) else 0 : Nat) : Int), .int .i64 (if W / 512 < n then 0 else 80)]) ∧ Kp w w' := by
  obtain ⟨mb, L, h, -⟩ := h
  have HT := Lib.hid (wants_any W w b mb n L V h)
  have HH := Lib.hid h
  have e1 := wrap_q W hW
  have e3 := rem_q W
  have e4 : wrap64 ((W / 512 : Nat) : Int) = ((W / 512 : Nat) : Int) := by unfold wrap64; omega
  have e5 : wrap64 ((W % 512 : Nat) : Int) = ((W % 512 : Nat) : Int) := by unfold wrap64; omega
  have e6 : (W : Int) % 512 = ((W % 512 : Nat) : Int) := by omega
  have hp : W % 512 < 512 := Nat.mod_lt _ (by decide)
  clear h hW
  generalize W / 512 = f at *
  generalize W % 512 = p at *
  by_cases c : f < n
  · rw [if_pos c, if_pos c]
    rw [if_pos c] at HT
    have HF := Lib.hid c
    have p0 : (0 : Int) ≤ (p : Int) := by omega
    have p1 : (p : Int) < 512 := by omega
    clear c
    cases hL : L f with
    | none =>
      rw [HH.out.no f HF.out hL p hp]
      go_enter Try.func17, Try.ntmps17
      go_wp2_with fail
      refine (HT.out).mono ?_; rintro e w1 ⟨rfl, hg⟩
      have H1 := Lib.hid hg; clear hg
      have HR := Lib.hid (HH.out.kp H1.out)
      have d0 := HR.out.hb.cell 1
      have d1 := HR.out.look f HF.out
      rw [hL] at d1
      go_wp2
      go_ret2
      exact ⟨rfl, H1.out⟩
    | some g =>
      go_enter Try.func17, Try.ntmps17
      go_wp2_with fail
      refine (HT.out).mono ?_; rintro e w2 ⟨rfl, hg⟩
      have H2 := Lib.hid hg; clear hg
      have HR := Lib.hid (HH.out.kp H2.out)
      have d0 := HR.out.hb.cell 1
      have d1 := HR.out.look f HF.out
      rw [hL] at d1
      have d2 := ((HR.out.row f g HF.out hL).2.2.cell p).trans (rowU_at (V f) p hp)
      go_wp2
      go_ret2
      exact ⟨rfl, H2.out⟩
  · rw [if_neg c, if_neg c]
    rw [if_neg c] at HT
    clear c
    go_enter Try.func17, Try.ntmps17
    go_wp2_with fail
    refine (HT.out).mono ?_; rintro e w3 ⟨rfl, hg⟩
    have H3 := Lib.hid hg; clear hg
    go_wp2
    go_ret2
    exact ⟨rfl, H3.out⟩
theorem pwrite_any (W X : Nat) (w : World) (S : Nat → Prop) (b n : Nat) (V : Nat → Nat → Nat) (h : PMem w S b n V) (hW : W < 18446744073709551616) (hX : X < 18446744073709551616) :
    Calls Try.prog 12 #[.pointer (some ⟨b, 0, none⟩), .int .u64 W, .int .u64 X] w fun e w' => e = .returned (.int .i64 (if W / 512 < n then 0 else 80)) ∧
      ∃ S', PMem w' S' b n (if W / 512 < n then putV V (W / 512) (W % 512) X else V) ∧ Grew w S S' ∧ Off S w w' := by
  obtain ⟨mb, L, h, rfl⟩ := h
  have HT := Lib.hid (wants_any W w b mb n L V h)
  have HC := Lib.hid (fun w1 (g : Kp w w1) => pcell_any W w1 b mb n L V (h.kp g) hW)
  have HX := Lib.hid hX
  have HH := Lib.hid h
  have HP : Hid (W % 512 < 512) := Lib.hid (Nat.mod_lt _ (by decide))
  clear h hW hX
  generalize W / 512 = f at *
  generalize W % 512 = p at *
  by_cases c : f < n
  · rw [if_pos c, if_pos c]
    rw [if_pos c] at HT
    have HF := Lib.hid c
    clear c
    go_enter Try.func12, Try.ntmps12
    go_wp2_with fail
    refine (HT.out).mono ?_; rintro e w1 ⟨rfl, hg⟩
    have H1 := Lib.hid hg; clear hg
    go_wp2_with (go_at_call 25; refine (HC.out _ H1.out HF.out).mono ?_; rintro e w2 ⟨g, L', rfl, hpm, hL, hgr, hof⟩; have d2 := ((hpm.row f g HF.out hL).2.2.cell p).trans (rowU_at (V f) p HP.out); have d3 := (hpm.row f g HF.out hL).2.2.frozen p; have HPM := Lib.hid hpm; have HL := Lib.hid hL; have HGR := Lib.hid hgr; have HOF := Lib.hid hof; clear hpm hL hgr hof)
    go_ret
    exact ⟨rfl, _, ⟨mb, L', HPM.out.put X HF.out HP.out HL.out HX.out, rfl⟩, fun k hk => (HGR.out k hk).imp id (fun q => Nat.le_trans H1.out.size q), ((Off.of_kp H1.out).trans HOF.out (Grew.refl _ _)).setCell (by
      rcases HGR.out g (.inr (.inr ⟨f, HF.out, HL.out⟩)) with q | q
      · exact .inl q
      · exact .inr (Nat.le_trans H1.out.size q)) _⟩
  · rw [if_neg c, if_neg c]
    rw [if_neg c] at HT
    clear c
    go_enter Try.func12, Try.ntmps12
    go_wp2_with fail
    refine (HT.out).mono ?_; rintro e w2 ⟨rfl, hg⟩
    have H2 := Lib.hid hg; clear hg
    go_wp2
    go_ret
    exact ⟨rfl, _, ⟨mb, L, HH.out.kp H2.out, rfl⟩, Grew.refl _ _, Off.of_kp H2.out⟩
theorem padd_any (W X : Nat) (w : World) (S : Nat → Prop) (b n : Nat) (V : Nat → Nat → Nat) (h : PMem w S b n V) (hW : W < 18446744073709551616) :
    Calls Try.prog 18 #[.pointer (some ⟨b, 0, none⟩), .int .u64 W, .int .u64 X] w fun e w' => e = .returned (.tuple #[.int .u64 ((if W / 512 < n then V (W / 512) (W % 512) else 0 : Nat) : Int), .int .i64 (if W / 512 < n then 0 else 80)]) ∧
      ∃ S', PMem w' S' b n (if W / 512 < n then putV V (W / 512) (W % 512) ((V (W / 512) (W % 512) + X) % 18446744073709551616) else V) ∧ Grew w S S' ∧ Off S w w' := by
  obtain ⟨mb, L, h, rfl⟩ := h
  have HT := Lib.hid (wants_any W w b mb n L V h)
  have HC := Lib.hid (fun w1 (g : Kp w w1) => pcell_any W w1 b mb n L V (h.kp g) hW)
  have HH := Lib.hid h
  have HP : Hid (W % 512 < 512) := Lib.hid (Nat.mod_lt _ (by decide))
  clear h hW
  generalize W / 512 = f at *
  generalize W % 512 = p at *
  have e1 : IntKind.u64.wrap ((V f p : Int) + (X : Int)) = (((V f p + X) % 18446744073709551616 : Nat) : Int) := by
    rw [show IntKind.u64.wrap ((V f p : Int) + (X : Int)) = ((V f p : Int) + (X : Int)) % 18446744073709551616 from IntKind.wrap_u64 _]
    omega
  have HX : Hid ((V f p + X) % 18446744073709551616 < 18446744073709551616) := Lib.hid (Nat.mod_lt _ (by decide))
  by_cases c : f < n
  · rw [if_pos c, if_pos c, if_pos c]
    rw [if_pos c] at HT
    have HF := Lib.hid c
    clear c
    generalize (V f p + X) % 18446744073709551616 = Y at *
    go_enter Try.func18, Try.ntmps18
    go_wp2_with fail
    refine (HT.out).mono ?_; rintro e w1 ⟨rfl, hg⟩
    have H1 := Lib.hid hg; clear hg
    go_wp2_with (go_at_call 25; refine (HC.out _ H1.out HF.out).mono ?_; rintro e w2 ⟨g, L', rfl, hpm, hL, hgr, hof⟩; have d2 := ((hpm.row f g HF.out hL).2.2.cell p).trans (rowU_at (V f) p HP.out); have d3 := (hpm.row f g HF.out hL).2.2.frozen p; have HPM := Lib.hid hpm; have HL := Lib.hid hL; have HGR := Lib.hid hgr; have HOF := Lib.hid hof; clear hpm hL hgr hof)
    go_ret2
    exact ⟨rfl, _, ⟨mb, L', HPM.out.put Y HF.out HP.out HL.out HX.out, rfl⟩, fun k hk => (HGR.out k hk).imp id (fun q => Nat.le_trans H1.out.size q), ((Off.of_kp H1.out).trans HOF.out (Grew.refl _ _)).setCell (by
      rcases HGR.out g (.inr (.inr ⟨f, HF.out, HL.out⟩)) with q | q
      · exact .inl q
      · exact .inr (Nat.le_trans H1.out.size q)) _⟩
  · rw [if_neg c, if_neg c, if_neg c]
    rw [if_neg c] at HT
    clear c
    go_enter Try.func18, Try.ntmps18
    go_wp2_with fail
    refine (HT.out).mono ?_; rintro e w2 ⟨rfl, hg⟩
    have H2 := Lib.hid hg; clear hg
    go_wp2
    go_ret2
    exact ⟨rfl, _, ⟨mb, L, HH.out.kp H2.out, rfl⟩, Grew.refl _ _, Off.of_kp H2.out⟩
end Go.Proofs.Ytnjdglejcfdonaa
