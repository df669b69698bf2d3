/-
  Package buffer: the functions on rows, at the landed code. No condition but the table.
-/
import Derived.Test.YtgjjbgijdgihcaaDoorPTch09
namespace Go.Proofs.YtgjjbgijdgihcaaDoor
open Go Go.RowKit

theorem has_any (a0 : Option Addr) (cap N : Nat) (k : Int) (w : World) : Calls Tryd.prog 27 #[.slice a0 N cap, .int .i64 k] w fun r w' => r = .returned (.bool (decide (0 ≤ k ∧ k < N))) ∧ w' = w := by
  cases h0 : decide (0 ≤ k) with
  | false =>
    rw [show decide (0 ≤ k ∧ k < N) = false by simp at h0 ⊢; omega]
    go_enter Tryd.func27, Tryd.ntmps27
    go_wp2
    go_ret
    exact ⟨rfl, rfl⟩
  | true =>
    rw [show decide (0 ≤ k ∧ k < N) = decide (k < N) by simp at h0 ⊢; omega]
    go_enter Tryd.func27, Tryd.ntmps27
    go_wp2
    go_ret
    exact ⟨rfl, rfl⟩
theorem RowE.drop {w : World} {b off cap : Nat} {L : List Ent} (h : RowE w (some ⟨b, off, none⟩) cap L) {k : Nat} (hk : k < L.length) : RowE w (some ⟨b, off + k * 5, none⟩) (L.length - k) (L.drop k) := by
  obtain ⟨b', off', h1, h2, h3⟩ := h
  obtain ⟨e, hlt⟩ := h1 (fun q => by rw [q] at hk; simp at hk)
  cases e
  exact ⟨b, off + k * 5, fun _ => ⟨rfl, hlt⟩, h2.drop k, by rw [List.length_drop]; exact Nat.le_refl _⟩
theorem row_of {w : World} {b : Nat} {cs : Array Value} {t : TypeId} {L : List Ent} (h : Blk w b cs t) (hc : cs.toList = L.flatMap Ent.cells) : RowE w (some ⟨b, 0, none⟩) L.length L := by
  refine ⟨b, 0, fun _ => ⟨rfl, h.lt⟩, fun k e hk j v hv => ?_, Nat.le_refl _⟩
  have hj : j < 5 := (List.getElem?_eq_some_iff.1 hv).1
  have q := flat_at L k e j hk hj
  rw [← hc, hv] at q
  rw [Nat.zero_add, h.cell]
  simpa using q
theorem RowE.take' {w : World} {a0 : Option Addr} {cap : Nat} {L : List Ent} (h : RowE w a0 cap L) {k : Nat} (hk : k ≤ L.length) : RowE w a0 k (L.take k) := by
  obtain ⟨b, off, h1, h2, h3⟩ := h
  exact ⟨b, off, fun q => h1 (fun q' => q (by rw [q', List.take_nil])), h2.take k, by rw [List.length_take]; omega⟩
theorem RowE.setRow' {w : World} {a0 : Option Addr} {cap g : Nat} {L : List Ent} (h : RowE w a0 cap L) (ha : ∀ b o, a0 = some ⟨b, o, none⟩ → b ≠ g) (cs : Array Value) : RowE (w.setRow g cs) a0 cap L := by
  obtain ⟨b, off, h1, h2, h3⟩ := h
  refine ⟨b, off, fun q => ⟨(h1 q).1, ?_⟩, fun k e hk j v hv => ?_, h3⟩
  · have := (h1 q).2; simpa using this
  · have hn : L ≠ [] := fun q => by rw [q] at hk; simp at hk
    exact (World.cell?_of_block (a := ⟨b, _, none⟩) (setRow_other w g b cs (ha b off (h1 hn).1))).trans (h2 k e hk j v hv)
theorem OwnsE.rowB {w : World} {B : Nat} {v : Value} {L : List Ent} (h : OwnsE w B v L) : ∃ a0 cap, v = .slice a0 L.length cap ∧ RowE w a0 cap L ∧ ∀ b o, a0 = some ⟨b, o, none⟩ → B ≤ b := by
  obtain ⟨a0, cap, rfl, hr⟩ := h.row
  refine ⟨a0, cap, rfl, hr, fun b o q => ?_⟩
  rcases h.2 with ⟨hv, hn⟩ | ⟨g, cap', cur, e, hb, _⟩
  · simp only [Value.slice.injEq] at hv
    rw [hv.1] at q; cases q
  · simp only [Value.slice.injEq] at e
    rw [e.1] at q; cases q; exact hb
theorem firstL_at {L : List Ent} {k : Nat} (hb : ∀ j e, j < k → L[j]? = some e → e.k = 1) (hk : k = L.length ∨ ∃ e, L[k]? = some e ∧ e.k ≠ 1) : firstL L = L.drop k := by
  induction L generalizing k with
  | nil => simp [firstL]
  | cons a l ih =>
    cases k with
    | zero =>
      rcases hk with h | ⟨e, he, hn⟩
      · simp at h
      · simp at he
        subst he
        exact firstL_id (by simpa [headBar] using hn)
    | succ k =>
      have h1 : a.k = 1 := hb 0 a (by omega) rfl
      unfold firstL
      rw [List.dropWhile_cons, if_pos (by simp [h1]), List.drop_succ_cons]
      exact ih (fun j e hj he => hb (j + 1) e (by omega) (by simpa using he)) (hk.imp (by simp) (by simp))
set_option maxHeartbeats 1000000 in
theorem psettled_any (a0 : Option Addr) (cap N : Nat) (L : List Ent) (w : World) (hN : N = L.length) (h : RowE w a0 cap L) (hn : N ≤ 1000) :
    Calls Tryd.prog 23 #[.slice a0 N cap] w fun r w' => (∃ a1, r = .returned (.slice a1 (firstL L).length (firstL L).length) ∧ RowE w a1 (firstL L).length (firstL L) ∧ ∀ b o, a1 = some ⟨b, o, none⟩ → ∃ o', a0 = some ⟨b, o', none⟩) ∧ w' = w := by
  have HE := Lib.hid hN
  have H := Lib.hid h
  have hcap : N ≤ cap := by obtain ⟨_, _, _, _, q⟩ := h; omega
  have HC := Lib.hid hcap
  have hNI : (N : Int) ≤ 1000 := by omega
  clear h hN hn hcap
  go_enter Tryd.func23, Tryd.ntmps23
  go_wp2_with fail
  go_loopw [3] (fun i wr => ∃ k : Nat, k ≤ N ∧ i = .int .i64 k ∧ (∀ j e, j < k → L[j]? = some e → e.k = 1) ∧ wr = w) (fun i _ => N - (intOf i).toNat)
  case atStart => exact ⟨0, by omega, rfl, fun j e hj => by omega, rfl⟩
  case round =>
    obtain ⟨k, hkN, rfl, hm, rfl⟩ := hrel
    have HM := Lib.hid hm
    clear hm
    by_cases hkl : k = N
    · subst hkl
      clear hkN
      have hf : firstL L = [] := by rw [firstL_at HM.out (.inl HE.out), HE.out, List.drop_length]
      have i0 : (0 : Int) ≤ (k : Int) := by omega
      have i1 : (k : Int) ≤ (cap : Int) := by have := HC.out; omega
      go_wp2_with fail
      go_ret
      rw [hf]
      exact ⟨⟨_, rfl, RowE.nil _ _ _, fun b o q => ⟨o, q⟩⟩, rfl⟩
    · have hkl' : k < N := by omega
      have i0 : (0 : Int) ≤ (k : Int) := by omega
      have i1 : (k : Int) < (N : Int) := by omega
      have i2 : (N : Int) ≤ (cap : Int) := by have := HC.out; omega
      have hx : L[k]? = some (L[k]'(by have := HE.out; omega)) := List.getElem?_eq_getElem _
      generalize L[k]'(by have := HE.out; omega) = e at hx
      obtain ⟨b, off, rfl, hlt, hc⟩ := H.out.at hx
      obtain ⟨c0, -, -, -, -⟩ := hc k e hx
      have HX := Lib.hid hx
      have HL := Lib.hid hkl'
      clear hc hlt hx hkl' hkN hkl
      by_cases hb : e.k = 1
      · have q : (e.k == 1) = true := by simp [hb]
        go_wp2_with fail
        go_roundw
        case rel => exact ⟨k + 1, HL.out, by go_num, fun j x hj hx => by
          by_cases c : j < k
          · exact HM.out j x c hx
          · obtain rfl : j = k := by omega
            have := HX.out
            rw [this] at hx
            cases hx
            exact hb, by first | rfl | trivial⟩
        case measure => have := HL.out; simp [intOf]; omega
      · have q : (e.k == 1) = false := by simp [hb]
        have hf : firstL L = L.drop k := firstL_at HM.out (.inr ⟨e, HX.out, hb⟩)
        go_wp2_with fail
        go_ret
        rw [hf, List.length_drop, ← HE.out]
        exact ⟨⟨_, rfl, by have := RowE.drop H.out (k := k) (by have := HE.out; have := HL.out; omega); rwa [← HE.out] at this, fun b' o q => by cases q; exact ⟨_, rfl⟩⟩, rfl⟩
theorem pgather_any (g n1 n2 c1 c2 : Nat) (a1 a2 : Option Addr) (L1 L2 : List Ent) (w : World) (hg : Blk w g #[.slice a1 n1 c1, .slice a2 n2 c2] 22) (h1 : n1 = L1.length) (h2 : n2 = L2.length) (r1 : RowE w a1 c1 L1) (r2 : RowE w a2 c2 L2) (hn : L1.length + L2.length ≤ 1000) :
    Calls Tryd.prog 24 #[.slice (some ⟨g, 0, none⟩) 2 2] w fun r w' => ∃ v, r = .returned v ∧ OwnsE w' w.heap.size v (L1 ++ L2) ∧ Kp w w' := by
  have z0 := hg.cell 0
  have z1 := hg.cell 1
  simp at z0 z1
  have HG := Lib.hid hg
  have H1 := Lib.hid h1; have H2 := Lib.hid h2; have R1 := Lib.hid r1; have R2 := Lib.hid r2; have HN := Lib.hid hn
  clear h1 h2 r1 r2 hn hg
  go_enter Tryd.func24, Tryd.ntmps24
  go_wp2_with fail
  refine wp_loop_rounds 4 ?_
  rw [rounds_succ]
  go_wp2_with (at_builtin; refine wpList_append_row rfl (.tmp 12) (.tmp 13) rfl w.heap.size _ [] L1 rfl (OwnsE.nil _ _) a1 n1 c1 H1.out rfl (fun hne => by obtain ⟨b, off, q1, q2, _⟩ := R1.out; exact ⟨b, off, (q1 hne).1, q2⟩) (by have := HN.out; simp; omega) (Nat.le_refl _) ?_; intro v1 w1 hown hgr; have HO1 := Lib.hid hown; have K1 := Lib.hid (Kp.grown (Kp.refl w) hgr (fun j e => by cases e)); clear hown hgr)
  have y1 := (HG.out.kp K1.out).cell 1
  simp at y1
  rw [rounds_succ]
  go_wp2_with (at_builtin; refine wpList_append_row rfl (.tmp 12) (.tmp 13) rfl w.heap.size v1 L1 L2 rfl HO1.out a2 n2 c2 H2.out rfl (fun hne => by obtain ⟨b, off, q1, q2, _⟩ := R2.out.kp K1.out; exact ⟨b, off, (q1 hne).1, q2⟩) HN.out K1.out.size ?_; intro v2 w2 hown hgr; have HO2 := Lib.hid hown; have K2 := Lib.hid (Kp.grown K1.out hgr (fun j e => (World.ownsRow.lt HO1.out j e).1)); clear hown hgr)
  rw [rounds_succ]
  go_wp2_with fail
  go_ret
  exact ⟨_, rfl, HO2.out, K2.out⟩
theorem headBar_len {L : List Ent} (h : headBar L = true) : (firstL L).length < L.length := by
  cases L with
  | nil => cases h
  | cons e l =>
    unfold firstL
    rw [List.dropWhile_cons, if_pos (by simpa [headBar] using h)]
    have := firstL_len l
    unfold firstL at this
    rw [List.length_cons]
    omega
set_option maxHeartbeats 1000000 in
theorem pcheck_any (a0 : Option Addr) (cap N : Nat) (L : List Ent) (w : World) (hT : TabsOk w) (hN : N = L.length) (h : RowE w a0 cap L) (hw : ∀ e ∈ L, e.wf) :
    Calls Tryd.prog 15 #[.slice a0 N cap] w fun r w' => r = .returned (.int .i64 (if okB L = true then 0 else 2)) ∧ Kp w w' := by
  obtain ⟨E, hE⟩ : ∃ E : Int, (if okB L = true then (0 : Int) else 2) = E := ⟨_, rfl⟩
  rw [hE]
  have HV := Lib.hid hE
  clear hE
  by_cases h8 : 8 < N
  · have d8 : decide (8 < (N : Int)) = true := decide_eq_true (by omega)
    have d8' : decide (8 < N) = true := decide_eq_true h8
    have e2 : E = 2 := HV.out.symm.trans (if_neg (fun q => by have := (okB_parts q).1; omega))
    subst e2
    clear h HV
    go_enter Tryd.func15, Tryd.ntmps15
    go_wp2
    go_ret
    exact ⟨rfl, Kp.refl w⟩
  have d8 : decide (8 < (N : Int)) = false := decide_eq_false (by omega)
  have d8' : decide (8 < N) = false := decide_eq_false h8
  have HS := Lib.hid (psettled_any a0 cap N L w hN h (by omega))
  have hNI : (N : Int) ≤ 8 := by omega
  have HE := Lib.hid hN
  have H := Lib.hid h
  have HW := Lib.hid hw
  have HT := Lib.hid hT
  clear h hN h8 hw hT
  cases hb : headBar L with
  | true =>
    have hl := headBar_len hb
    rw [← HE.out] at hl
    have e2 : E = 2 := HV.out.symm.trans (if_neg (fun q => by have := (okB_parts q).2.2; rw [hb] at this; cases this))
    subst e2
    generalize hM : (firstL L).length = M at *
    have hl' : (M : Int) < (N : Int) := by omega
    go_enter Tryd.func15, Tryd.ntmps15
    go_wp2_with fail
    refine HS.out.mono ?_; rintro r w1 ⟨⟨a1, rfl, -⟩, rfl⟩
    go_wp2_with fail
    go_ret
    exact ⟨rfl, Kp.refl _⟩
  | false =>
  have HB := Lib.hid hb
  have hfl : (firstL L).length = N := by rw [firstL_id hb, HE.out]
  clear hb
  go_enter Tryd.func15, Tryd.ntmps15
  go_wp2_with fail
  refine HS.out.mono ?_; rintro r w1 ⟨⟨a1, rfl, -⟩, rfl⟩
  rw [hfl]
  clear hfl
  go_wp2_with fail
  go_loopw [18] (fun i wr => ∃ k : Nat, k ≤ N ∧ i = .int .i64 k ∧ (∀ j e, j < k → L[j]? = some e → mayB e = true) ∧ Kp w1 wr) (fun i _ => N - (intOf i).toNat)
  case atStart => exact ⟨0, by omega, rfl, fun j e hj => by omega, Kp.refl _⟩
  case round =>
    obtain ⟨k, hkN, rfl, hm, hk⟩ := hrel
    obtain ⟨w3, rfl⟩ : ∃ w3, w3 = wr := ⟨_, rfl⟩
    have HM := Lib.hid hm
    have HK := Lib.hid hk
    clear hm hk
    by_cases hkl : k = N
    · subst hkl
      clear hkN
      have hall : ∀ e ∈ L, mayB e = true := fun e he => by
        obtain ⟨j, hj⟩ := List.mem_iff_getElem?.1 he
        exact HM.out j e (by have := (List.getElem?_eq_some_iff.1 hj).1; have := HE.out; omega) hj
      have e2 : E = 0 := HV.out.symm.trans (if_pos (okB_of (by have := HE.out; omega) hall HB.out))
      subst e2
      clear HV
      go_wp2
      go_ret
      exact ⟨rfl, HK.out⟩
    · have hkl' : k < N := by omega
      have i0 : (0 : Int) ≤ (k : Int) := by omega
      have i1 : (k : Int) < (N : Int) := by omega
      have hx : L[k]? = some (L[k]'(by have := HE.out; omega)) := List.getElem?_eq_getElem _
      generalize L[k]'(by have := HE.out; omega) = e at hx
      obtain ⟨b, off, rfl, hlt, hc⟩ := (H.out.kp HK.out).at hx
      obtain ⟨c0, c1, c2, c3, c4⟩ := hc k e hx
      have HX := Lib.hid hx
      have HL := Lib.hid hkl'
      have HY := Lib.hid (pmay_any e (w3.alloc (.cells (Ent.arr e) 26)) (HT.out.kp (HK.out.alloc _ _)) (HW.out e (List.mem_of_getElem? hx)).1)
      clear hc hlt hx hkl' hkN hkl
      unfold Ent.arr at HY
      cases hme : mayB e with
      | true =>
        rw [hme] at HY
        go_wp2_with fail
        refine HY.out.mono ?_; rintro r w4 ⟨rfl, hg⟩
        have HK4 := Lib.hid ((HK.out.alloc _ _).trans hg); clear hg
        go_wp2_with fail
        go_roundw
        case rel => exact ⟨k + 1, HL.out, by go_num, fun j x hj hx => by
          by_cases c : j < k
          · exact HM.out j x c hx
          · obtain rfl : j = k := by omega
            have := HX.out
            rw [this] at hx
            cases hx
            exact hme, HK4.out⟩
        case measure => have := HL.out; simp [intOf]; omega
      | false =>
        rw [hme] at HY
        have e2 : E = 2 := HV.out.symm.trans (if_neg (fun q => by have := (okB_parts q).2.1 e (List.mem_of_getElem? HX.out); rw [hme] at this; cases this))
        subst e2
        clear HV
        go_wp2_with fail
        refine HY.out.mono ?_; rintro r w4 ⟨rfl, hg⟩
        have HK4 := Lib.hid ((HK.out.alloc _ _).trans hg); clear hg
        go_wp2_with fail
        go_ret
        exact ⟨rfl, HK4.out⟩
theorem gs_kp {w w' : World} {B c b o : Nat} {v : Value} {a e : Ent} (h : w.cell? ⟨B, 0, none⟩ = some (.int .i8 a.k) ∧ w.cell? ⟨B, 1, none⟩ = some (.int .u64 a.w) ∧ w.cell? ⟨B, 2, none⟩ = some (.int .u64 a.x) ∧ w.cell? ⟨B, 3, none⟩ = some (.int .i64 a.fr) ∧ w.cell? ⟨B, 4, none⟩ = some (.int .i64 a.fm) ∧ w.cell? ⟨c, 0, none⟩ = some (v) ∧ w.cell? ⟨b, o, none⟩ = some (.int .i8 e.k) ∧ w.cell? ⟨b, o + 1, none⟩ = some (.int .u64 e.w) ∧ w.cell? ⟨b, o + 2, none⟩ = some (.int .u64 e.x) ∧ w.cell? ⟨b, o + 3, none⟩ = some (.int .i64 e.fr) ∧ w.cell? ⟨b, o + 4, none⟩ = some (.int .i64 e.fm)) (g : Kp w w') : w'.cell? ⟨B, 0, none⟩ = some (.int .i8 a.k) ∧ w'.cell? ⟨B, 1, none⟩ = some (.int .u64 a.w) ∧ w'.cell? ⟨B, 2, none⟩ = some (.int .u64 a.x) ∧ w'.cell? ⟨B, 3, none⟩ = some (.int .i64 a.fr) ∧ w'.cell? ⟨B, 4, none⟩ = some (.int .i64 a.fm) ∧ w'.cell? ⟨c, 0, none⟩ = some (v) ∧ w'.cell? ⟨b, o, none⟩ = some (.int .i8 e.k) ∧ w'.cell? ⟨b, o + 1, none⟩ = some (.int .u64 e.w) ∧ w'.cell? ⟨b, o + 2, none⟩ = some (.int .u64 e.x) ∧ w'.cell? ⟨b, o + 3, none⟩ = some (.int .i64 e.fr) ∧ w'.cell? ⟨b, o + 4, none⟩ = some (.int .i64 e.fm) := by
  obtain ⟨a0, a1, a2, a3, a4, c0, b0, b1, b2, b3, b4⟩ := h
  obtain ⟨x0, x1, x2, x3, x4⟩ := tc5_kp ⟨a0, a1, a2, a3, a4⟩ g
  obtain ⟨y0, y1, y2, y3, y4⟩ := five_kp ⟨b0, b1, b2, b3, b4⟩ g
  exact ⟨x0, x1, x2, x3, x4, (g.cell (lt_of_cell c0)).trans c0, y0, y1, y2, y3, y4⟩
theorem may_low {L : List Ent} {k : Int} (h : ¬ (0 ≤ k ∧ k < L.length)) : mayAt L k = false := by
  cases hm : mayAt L k with
  | false => rfl
  | true => obtain ⟨_, n, _, rfl, hn, _⟩ := mayAt_parts hm; exact absurd ⟨by omega, by omega⟩ h
theorem may_touched {L : List Ent} {n i : Nat} {a e : Ent} (hi : i < n) (ha : L[i]? = some a) (he : L[n]? = some e) (ht : tchB a e = true) : mayAt L n = false := by
  cases hm : mayAt L n with
  | false => rfl
  | true =>
    obtain ⟨_, n', e', hnn, _, he', _, hff⟩ := mayAt_parts hm
    obtain rfl : n = n' := by omega
    rw [he] at he'
    cases he'
    have := (hff i a hi ha).2
    rw [ht] at this
    cases this
theorem has_is (a0 : Option Addr) (cap N : Nat) (k : Int) (q : Bool) (h : decide (0 ≤ k ∧ k < N) = q) (w : World) : Calls Tryd.prog 27 #[.slice a0 N cap, .int .i64 k] w fun r w' => r = .returned (.bool q) ∧ w' = w := h ▸ has_any a0 cap N k w
set_option maxHeartbeats 2000000 in
theorem goer_in (c : Nat) (a0 : Option Addr) (cap N : Nat) (L : List Ent) (k : Int) (w : World) (hT : TabsOk w) (hN : N = L.length) (h : RowE w a0 cap L) (hok : okB L = true) (hc : Blk w c #[.slice a0 N cap] 22) :
    Calls Tryd.prog 36 #[.int .i64 k, .pointer (some ⟨c, 0, none⟩)] w fun r w' => r = .returned (.bool (mayAt L k)) ∧ Kp w w' := by
  obtain ⟨V, hV⟩ : ∃ V, mayAt L k = V := ⟨_, rfl⟩
  rw [hV]
  have HV := Lib.hid hV
  clear hV
  have z0 : w.cell? ⟨c, 0, none⟩ = some (.slice a0 N cap) := hc.cell 0
  have HCc := Lib.hid hc
  have HE := Lib.hid hN
  have H := Lib.hid h
  have HT := Lib.hid hT
  have HK := Lib.hid hok
  clear hN h hT hc hok
  by_cases hr : ¬ (0 ≤ k ∧ k < N)
  · obtain rfl : V = false := HV.out.symm.trans (may_low (by rw [← HE.out]; exact hr))
    have HH := Lib.hid (fun w1 => has_is a0 cap N k false (decide_eq_false hr) w1)
    clear HV hr
    go_enter Tryd.func36, Tryd.ntmps36
    go_wp2_with fail
    refine (HH.out _).mono ?_; rintro r w1 ⟨rfl, rfl⟩
    go_wp2_with fail
    go_ret
    exact ⟨rfl, Kp.refl _⟩
  have hr' : 0 ≤ k ∧ k < N := Decidable.not_not.1 hr
  have HH := Lib.hid (fun w1 => has_is a0 cap N k true (decide_eq_true hr') w1)
  obtain ⟨n, rfl⟩ : ∃ n : Nat, k = n := ⟨k.toNat, by omega⟩
  have hnN : n < N := by omega
  have hx : L[n]? = some (L[n]'(by have := HE.out; omega)) := List.getElem?_eq_getElem _
  generalize L[n]'(by have := HE.out; omega) = e at hx
  have n0 : (0 : Int) ≤ (n : Int) := by omega
  have n1 : (n : Int) < (N : Int) := by omega
  have hcap : N ≤ cap := by obtain ⟨_, _, _, _, q⟩ := H.out; have := HE.out; omega
  have n2 : (n : Int) ≤ (cap : Int) := by omega
  have hN8 : (N : Int) ≤ 8 := by have := (okB_parts HK.out).1; have := HE.out; omega
  obtain ⟨b, off, rfl, hlt, hcc⟩ := H.out.at hx
  have HCe := Lib.hid hcc
  have HB := Lib.hid hlt
  have HX := Lib.hid hx
  have HNn := Lib.hid hnN
  have HCap := Lib.hid hcap
  clear hcc hlt hx hnN hr hr' hcap
  have c0 := (HCe.out n e HX.out).1
  by_cases hb : e.k = 1
  · obtain rfl : V = false := HV.out.symm.trans (bar_stops HX.out hb (Nat.le_refl _))
    have q : (e.k == 1) = true := by simp [hb]
    clear HV
    go_enter Tryd.func36, Tryd.ntmps36
    go_wp2_with fail
    refine (HH.out _).mono ?_; rintro r w1 ⟨rfl, rfl⟩
    go_wp2_with fail
    go_ret
    exact ⟨rfl, Kp.refl _⟩
  have q : (e.k == 1) = false := by simp [hb]
  have HBar := Lib.hid hb
  clear hb
  go_enter Tryd.func36, Tryd.ntmps36
  go_wp2_with fail
  refine (HH.out _).mono ?_; rintro r w1 ⟨rfl, rfl⟩
  go_wp2_with fail
  clear c0
  go_loopw [23] (fun i wr => ∃ i' : Nat, i' ≤ n ∧ i = .int .i64 i' ∧ (∀ j a, j < i' → L[j]? = some a → a.k ≠ 1 ∧ tchB a e = false) ∧ Kp w1 wr) (fun i _ => n - (intOf i).toNat)
  case atStart => exact ⟨0, by omega, rfl, fun j a hj => by omega, Kp.refl _⟩
  case round =>
    obtain ⟨i, hin, rfl, hf, hk⟩ := hrel
    obtain ⟨w3, rfl⟩ : ∃ w3, w3 = wr := ⟨_, rfl⟩
    have HFr := Lib.hid hf
    have HKr := Lib.hid hk
    clear hf hk
    by_cases hi : i = n
    · subst hi
      have e2 : V = true := HV.out.symm.trans (mayAt_of HK.out HX.out HBar.out HFr.out)
      subst e2
      clear hin HV
      go_wp2
      go_ret
      exact ⟨rfl, HKr.out⟩
    have hil : i < n := by omega
    have i0 : (0 : Int) ≤ (i : Int) := by omega
    have i1 : (i : Int) < (n : Int) := by omega
    have i2 : (i : Int) < (N : Int) := by omega
    have hy : L[i]? = some (L[i]'(by have := HE.out; have := HNn.out; omega)) := List.getElem?_eq_getElem _
    generalize L[i]'(by have := HE.out; have := HNn.out; omega) = a at hy
    have HYi := Lib.hid hy
    have HIl := Lib.hid hil
    have hu := five_kp (HCe.out i a hy) HKr.out
    obtain ⟨u0, u1, u2, u3, u4⟩ := hu
    have HS : Hid ((w3.alloc (.cells (Ent.arr a) 26)).drew.cell? ⟨w3.heap.size, 0, none⟩ = some (.int .i8 a.k) ∧ (w3.alloc (.cells (Ent.arr a) 26)).drew.cell? ⟨w3.heap.size, 1, none⟩ = some (.int .u64 a.w) ∧ (w3.alloc (.cells (Ent.arr a) 26)).drew.cell? ⟨w3.heap.size, 2, none⟩ = some (.int .u64 a.x) ∧ (w3.alloc (.cells (Ent.arr a) 26)).drew.cell? ⟨w3.heap.size, 3, none⟩ = some (.int .i64 a.fr) ∧ (w3.alloc (.cells (Ent.arr a) 26)).drew.cell? ⟨w3.heap.size, 4, none⟩ = some (.int .i64 a.fm) ∧ (w3.alloc (.cells (Ent.arr a) 26)).drew.cell? ⟨c, 0, none⟩ = some (.slice (some ⟨b, off, none⟩) N cap) ∧ (w3.alloc (.cells (Ent.arr a) 26)).drew.cell? ⟨b, off + n * 5, none⟩ = some (.int .i8 e.k) ∧ (w3.alloc (.cells (Ent.arr a) 26)).drew.cell? ⟨b, off + n * 5 + 1, none⟩ = some (.int .u64 e.w) ∧ (w3.alloc (.cells (Ent.arr a) 26)).drew.cell? ⟨b, off + n * 5 + 2, none⟩ = some (.int .u64 e.x) ∧ (w3.alloc (.cells (Ent.arr a) 26)).drew.cell? ⟨b, off + n * 5 + 3, none⟩ = some (.int .i64 e.fr) ∧ (w3.alloc (.cells (Ent.arr a) 26)).drew.cell? ⟨b, off + n * 5 + 4, none⟩ = some (.int .i64 e.fm)) := Lib.hid (by
      have g := kpA w3 (Ent.arr a) 26
      have B5 := Ent.five (Blk.new w3 (Ent.arr a) 26)
      have v5 := five_kp (HCe.out n e HX.out) (HKr.out.trans g)
      have c5 := ((HCc.out.kp HKr.out).kp g).cell 0
      exact ⟨B5.1, B5.2.1, B5.2.2.1, B5.2.2.2.1, B5.2.2.2.2, c5, v5⟩)
    have HKd : Hid (Kp w1 (w3.alloc (.cells (Ent.arr a) 26)).drew) := Lib.hid (HKr.out.alloc _ _).drew
    have HTc := Lib.hid (fun w2 (g : Kp (w3.alloc (.cells (Ent.arr a) 26)) w2) => ptch_in a e w2 (HT.out.kp ((HKr.out.alloc _ _).trans g)) ((okB_parts HK.out).2.1 a (List.mem_of_getElem? hy)) ((okB_parts HK.out).2.1 e (List.mem_of_getElem? HX.out)))
    clear hin hi hil hy
    unfold Ent.arr at HTc HKd HS
    by_cases ha : a.k = 1
    · have qa : (a.k == 1) = true := by simp [ha]
      obtain rfl : V = false := HV.out.symm.trans (bar_stops HYi.out ha (by have := HIl.out; omega))
      clear HV HTc
      rw [ha] at HS HKd
      go_wp2_with fail
      refine wp_region_held_drew (S := fun w' => w'.cell? ⟨w3.heap.size, 0, none⟩ = some (.int .i8 1) ∧ w'.cell? ⟨w3.heap.size, 1, none⟩ = some (.int .u64 a.w) ∧ w'.cell? ⟨w3.heap.size, 2, none⟩ = some (.int .u64 a.x) ∧ w'.cell? ⟨w3.heap.size, 3, none⟩ = some (.int .i64 a.fr) ∧ w'.cell? ⟨w3.heap.size, 4, none⟩ = some (.int .i64 a.fm) ∧ w'.cell? ⟨c, 0, none⟩ = some (.slice (some ⟨b, off, none⟩) N cap) ∧ w'.cell? ⟨b, off + n * 5, none⟩ = some (.int .i8 e.k) ∧ w'.cell? ⟨b, off + n * 5 + 1, none⟩ = some (.int .u64 e.w) ∧ w'.cell? ⟨b, off + n * 5 + 2, none⟩ = some (.int .u64 e.x) ∧ w'.cell? ⟨b, off + n * 5 + 3, none⟩ = some (.int .i64 e.fr) ∧ w'.cell? ⟨b, off + n * 5 + 4, none⟩ = some (.int .i64 e.fm)) (by kernel_rfl) HS.out (fun hHeld => ?_)
      clear HS
      refine wpAnyH_take (i := 0) (oi := ?p0y1) (v := ?v0y1) ?o0y1 (by kernel_rfl) (by kernel_rfl) (by kernel_rfl) ?q0y1 ?y0y1 (by assumption) ?r0y1
      case o0y1 => (simp only [List.getElem?_toArray, List.getElem?_cons_zero]; rfl)
      case q0y1 => (exact fun _ _ _ h => h)
      case y0y1 => (refine Or.inl ⟨by rfl, ?_⟩; intro w hSw; (try dsimp only at hSw); go_simp; (try with_reducible rfl))
      simp only [Act.put, List.setIfInBounds_toArray, List.set_cons_zero, List.set_cons_succ]
      refine wpAnyH_take (i := 1) (oi := ?p1y2) (v := ?v1y2) ?o1y2 (by kernel_rfl) (by kernel_rfl) (by kernel_rfl) ?q1y2 ?y1y2 (by assumption) ?r1y2
      case o1y2 => (simp only [List.getElem?_toArray, List.getElem?_cons_succ, List.getElem?_cons_zero]; rfl)
      case q1y2 => (exact fun _ _ _ h => h)
      case y1y2 => (refine Or.inl ⟨by rfl, ?_⟩; intro w hSw; (try dsimp only at hSw); go_simp; (try with_reducible rfl))
      simp only [Act.put, List.setIfInBounds_toArray, List.set_cons_zero, List.set_cons_succ]
      refine wpAnyH_take (i := 2) (oi := ?p2y3) (v := ?v2y3) ?o2y3 (by kernel_rfl) (by kernel_rfl) (by kernel_rfl) ?q2y3 ?y2y3 (by assumption) ?r2y3
      case o2y3 => (simp only [List.getElem?_toArray, List.getElem?_cons_succ, List.getElem?_cons_zero]; rfl)
      case q2y3 => (exact fun _ _ _ h => h)
      case y2y3 => (refine Or.inl ⟨by rfl, ?_⟩; intro w hSw; (try dsimp only at hSw); go_simp; (try with_reducible rfl))
      simp only [Act.put, List.setIfInBounds_toArray, List.set_cons_zero, List.set_cons_succ]
      refine wpAnyH_take (i := 3) (oi := ?p3y4) (v := ?v3y4) ?o3y4 (by kernel_rfl) (by kernel_rfl) (by kernel_rfl) ?q3y4 ?y3y4 (by assumption) ?r3y4
      case o3y4 => (simp only [List.getElem?_toArray, List.getElem?_cons_succ, List.getElem?_cons_zero]; rfl)
      case q3y4 => (exact fun _ _ _ h => h)
      case y3y4 => (refine Or.inl ⟨by rfl, ?_⟩; intro w hSw; (try dsimp only at hSw); go_simp; (try with_reducible rfl))
      simp only [Act.put, List.setIfInBounds_toArray, List.set_cons_zero, List.set_cons_succ]
      refine wpAnyH_take (i := 4) (oi := ?p4y5) (v := undef) ?o4y5 (by kernel_rfl) (by kernel_rfl) (by kernel_rfl) ?q4y5 ?y4y5 (by assumption) ?r4y5
      case o4y5 => (simp only [List.getElem?_toArray, List.getElem?_cons_succ, List.getElem?_cons_zero]; rfl)
      case q4y5 => (exact fun _ _ _ h => h)
      case y4y5 => (exact Or.inr ⟨by rfl, rfl⟩)
      simp only [Act.put, List.setIfInBounds_toArray, List.set_cons_zero, List.set_cons_succ]
      refine wpAnyH_take (i := 5) (oi := ?p5y6) (v := undef) ?o5y6 (by kernel_rfl) (by kernel_rfl) (by kernel_rfl) ?q5y6 ?y5y6 (by assumption) ?r5y6
      case o5y6 => (simp only [List.getElem?_toArray, List.getElem?_cons_succ, List.getElem?_cons_zero]; rfl)
      case q5y6 => (exact fun _ _ _ h => h)
      case y5y6 => (exact Or.inr ⟨by rfl, rfl⟩)
      simp only [Act.put, List.setIfInBounds_toArray, List.set_cons_zero, List.set_cons_succ]
      refine wpAnyH_take (i := 6) (oi := ?p6y7) (v := undef) ?o6y7 (by kernel_rfl) (by kernel_rfl) (by kernel_rfl) ?q6y7 ?y6y7 (by assumption) ?r6y7
      case o6y7 => (simp only [List.getElem?_toArray, List.getElem?_cons_succ, List.getElem?_cons_zero]; rfl)
      case q6y7 => (exact fun _ _ _ h => h)
      case y6y7 => (exact Or.inr ⟨by rfl, rfl⟩)
      simp only [Act.put, List.setIfInBounds_toArray, List.set_cons_zero, List.set_cons_succ]
      refine wpAnyH_take (i := 7) (oi := ?p7y8) (v := undef) ?o7y8 (by kernel_rfl) (by kernel_rfl) (by kernel_rfl) ?q7y8 ?y7y8 (by assumption) ?r7y8
      case o7y8 => (simp only [List.getElem?_toArray, List.getElem?_cons_succ, List.getElem?_cons_zero]; rfl)
      case q7y8 => (exact fun _ _ _ h => h)
      case y7y8 => (exact Or.inr ⟨by rfl, rfl⟩)
      simp only [Act.put, List.setIfInBounds_toArray, List.set_cons_zero, List.set_cons_succ]
      refine wpAnyH_take (i := 8) (oi := ?p8y9) (v := undef) ?o8y9 (by kernel_rfl) (by kernel_rfl) (by kernel_rfl) ?q8y9 ?y8y9 (by assumption) ?r8y9
      case o8y9 => (simp only [List.getElem?_toArray, List.getElem?_cons_succ, List.getElem?_cons_zero]; rfl)
      case q8y9 => (exact fun _ _ _ h => h)
      case y8y9 => (exact Or.inr ⟨by rfl, rfl⟩)
      simp only [Act.put, List.setIfInBounds_toArray, List.set_cons_zero, List.set_cons_succ]
      refine wpAnyH_take (i := 9) (oi := ?p9y10) (v := undef) ?o9y10 (by kernel_rfl) (by kernel_rfl) (by kernel_rfl) ?q9y10 ?y9y10 (by assumption) ?r9y10
      case o9y10 => (simp only [List.getElem?_toArray, List.getElem?_cons_succ, List.getElem?_cons_zero]; rfl)
      case q9y10 => (exact fun _ _ _ h => h)
      case y9y10 => (exact Or.inr ⟨by rfl, rfl⟩)
      simp only [Act.put, List.setIfInBounds_toArray, List.set_cons_zero, List.set_cons_succ]
      refine wpAnyH_take (i := 10) (oi := ?p10y11) (v := ?v10y11) ?o10y11 (by kernel_rfl) (by kernel_rfl) (by kernel_rfl) ?q10y11 ?y10y11 (by assumption) ?r10y11
      case o10y11 => (simp only [List.getElem?_toArray, List.getElem?_cons_succ, List.getElem?_cons_zero]; rfl)
      case q10y11 => (exact fun _ _ _ h => h)
      case y10y11 => (refine Or.inl ⟨by rfl, ?_⟩; intro w hSw; (try dsimp only at hSw); go_simp; (try with_reducible rfl))
      simp only [Act.put, List.setIfInBounds_toArray, List.set_cons_zero, List.set_cons_succ]
      refine wpAnyH_done (by kernel_rfl) ?_ _
      clear hHeld
      go_wp2_with fail
      go_ret
      exact ⟨rfl, HKd.out⟩
    · have qa : (a.k == 1) = false := by simp [ha]
      cases ht : tchB a e with
      | true =>
        obtain rfl : V = false := HV.out.symm.trans (may_touched HIl.out HYi.out HX.out ht)
        clear HV
        rw [ht] at HTc
        go_wp2_with fail
        refine wp_region_held_drew (S := fun w' => w'.cell? ⟨w3.heap.size, 0, none⟩ = some (.int .i8 a.k) ∧ w'.cell? ⟨w3.heap.size, 1, none⟩ = some (.int .u64 a.w) ∧ w'.cell? ⟨w3.heap.size, 2, none⟩ = some (.int .u64 a.x) ∧ w'.cell? ⟨w3.heap.size, 3, none⟩ = some (.int .i64 a.fr) ∧ w'.cell? ⟨w3.heap.size, 4, none⟩ = some (.int .i64 a.fm) ∧ w'.cell? ⟨c, 0, none⟩ = some (.slice (some ⟨b, off, none⟩) N cap) ∧ w'.cell? ⟨b, off + n * 5, none⟩ = some (.int .i8 e.k) ∧ w'.cell? ⟨b, off + n * 5 + 1, none⟩ = some (.int .u64 e.w) ∧ w'.cell? ⟨b, off + n * 5 + 2, none⟩ = some (.int .u64 e.x) ∧ w'.cell? ⟨b, off + n * 5 + 3, none⟩ = some (.int .i64 e.fr) ∧ w'.cell? ⟨b, off + n * 5 + 4, none⟩ = some (.int .i64 e.fm)) (by kernel_rfl) HS.out (fun hHeld => ?_)
        clear HS
        refine wpAnyH_take (i := 0) (oi := ?p0y12) (v := ?v0y12) ?o0y12 (by kernel_rfl) (by kernel_rfl) (by kernel_rfl) ?q0y12 ?y0y12 (by assumption) ?r0y12
        case o0y12 => (simp only [List.getElem?_toArray, List.getElem?_cons_zero]; rfl)
        case q0y12 => (exact fun _ _ _ h => h)
        case y0y12 => (refine Or.inl ⟨by rfl, ?_⟩; intro w hSw; (try dsimp only at hSw); go_simp; (try with_reducible rfl))
        simp only [Act.put, List.setIfInBounds_toArray, List.set_cons_zero, List.set_cons_succ]
        refine wpAnyH_take (i := 1) (oi := ?p1y13) (v := ?v1y13) ?o1y13 (by kernel_rfl) (by kernel_rfl) (by kernel_rfl) ?q1y13 ?y1y13 (by assumption) ?r1y13
        case o1y13 => (simp only [List.getElem?_toArray, List.getElem?_cons_succ, List.getElem?_cons_zero]; rfl)
        case q1y13 => (exact fun _ _ _ h => h)
        case y1y13 => (refine Or.inl ⟨by rfl, ?_⟩; intro w hSw; (try dsimp only at hSw); go_simp; (try with_reducible rfl))
        simp only [Act.put, List.setIfInBounds_toArray, List.set_cons_zero, List.set_cons_succ]
        refine wpAnyH_take (i := 2) (oi := ?p2y14) (v := ?v2y14) ?o2y14 (by kernel_rfl) (by kernel_rfl) (by kernel_rfl) ?q2y14 ?y2y14 (by assumption) ?r2y14
        case o2y14 => (simp only [List.getElem?_toArray, List.getElem?_cons_succ, List.getElem?_cons_zero]; rfl)
        case q2y14 => (exact fun _ _ _ h => h)
        case y2y14 => (refine Or.inl ⟨by rfl, ?_⟩; intro w hSw; (try dsimp only at hSw); go_simp; (try with_reducible rfl))
        simp only [Act.put, List.setIfInBounds_toArray, List.set_cons_zero, List.set_cons_succ]
        refine wpAnyH_take (i := 3) (oi := ?p3y15) (v := ?v3y15) ?o3y15 (by kernel_rfl) (by kernel_rfl) (by kernel_rfl) ?q3y15 ?y3y15 (by assumption) ?r3y15
        case o3y15 => (simp only [List.getElem?_toArray, List.getElem?_cons_succ, List.getElem?_cons_zero]; rfl)
        case q3y15 => (exact fun _ _ _ h => h)
        case y3y15 => (refine Or.inl ⟨by rfl, ?_⟩; intro w hSw; (try dsimp only at hSw); go_simp; (try with_reducible rfl))
        simp only [Act.put, List.setIfInBounds_toArray, List.set_cons_zero, List.set_cons_succ]
        refine wpAnyH_take (i := 4) (oi := ?p4y16) (v := ?v4y16) ?o4y16 (by kernel_rfl) (by kernel_rfl) (by kernel_rfl) ?q4y16 ?y4y16 (by assumption) ?r4y16
        case o4y16 => (simp only [List.getElem?_toArray, List.getElem?_cons_succ, List.getElem?_cons_zero]; rfl)
        case q4y16 => (exact fun _ _ _ h => h)
        case y4y16 => (refine Or.inl ⟨by rfl, ?_⟩; intro w hSw; (try dsimp only at hSw); go_simp; (try with_reducible rfl))
        simp only [Act.put, List.setIfInBounds_toArray, List.set_cons_zero, List.set_cons_succ]
        refine wpAnyH_take (i := 5) (oi := ?p5y17) (v := ?v5y17) ?o5y17 (by kernel_rfl) (by kernel_rfl) (by kernel_rfl) ?q5y17 ?y5y17 (by assumption) ?r5y17
        case o5y17 => (simp only [List.getElem?_toArray, List.getElem?_cons_succ, List.getElem?_cons_zero]; rfl)
        case q5y17 => (exact fun _ _ _ h => h)
        case y5y17 => (refine Or.inl ⟨by rfl, ?_⟩; intro w hSw; (try dsimp only at hSw); go_simp; (try with_reducible rfl))
        simp only [Act.put, List.setIfInBounds_toArray, List.set_cons_zero, List.set_cons_succ]
        refine wpAnyH_take (i := 6) (oi := ?p6y18) (v := ?v6y18) ?o6y18 (by kernel_rfl) (by kernel_rfl) (by kernel_rfl) ?q6y18 ?y6y18 (by assumption) ?r6y18
        case o6y18 => (simp only [List.getElem?_toArray, List.getElem?_cons_succ, List.getElem?_cons_zero]; rfl)
        case q6y18 => (exact fun _ _ _ h => h)
        case y6y18 => (refine Or.inl ⟨by rfl, ?_⟩; intro w hSw; (try dsimp only at hSw); go_simp; (try with_reducible rfl))
        simp only [Act.put, List.setIfInBounds_toArray, List.set_cons_zero, List.set_cons_succ]
        refine wpAnyH_take (i := 7) (oi := ?p7y19) (v := ?v7y19) ?o7y19 (by kernel_rfl) (by kernel_rfl) (by kernel_rfl) ?q7y19 ?y7y19 (by assumption) ?r7y19
        case o7y19 => (simp only [List.getElem?_toArray, List.getElem?_cons_succ, List.getElem?_cons_zero]; rfl)
        case q7y19 => (exact fun _ _ _ h => h)
        case y7y19 => (refine Or.inl ⟨by rfl, ?_⟩; intro w hSw; (try dsimp only at hSw); go_simp; (try with_reducible rfl))
        simp only [Act.put, List.setIfInBounds_toArray, List.set_cons_zero, List.set_cons_succ]
        refine wpAnyH_take (i := 8) (oi := ?p8y20) (v := ?v8y20) ?o8y20 (by kernel_rfl) (by kernel_rfl) (by kernel_rfl) ?q8y20 ?y8y20 (by assumption) ?r8y20
        case o8y20 => (simp only [List.getElem?_toArray, List.getElem?_cons_succ, List.getElem?_cons_zero]; rfl)
        case q8y20 => (exact fun _ _ _ h => h)
        case y8y20 => (refine Or.inl ⟨by rfl, ?_⟩; intro w hSw; (try dsimp only at hSw); go_simp; (try with_reducible rfl))
        simp only [Act.put, List.setIfInBounds_toArray, List.set_cons_zero, List.set_cons_succ]
        refine wpAnyH_ready (rs := [9]) (by kernel_rfl) (by simp) ?_
        refine AllReadyH.cons (o := ?pc21) ?oc21 (fun K hK => ?wc21) AllReadyH.nil
        case oc21 => (simp only [List.getElem?_toArray, List.getElem?_cons_succ, List.getElem?_cons_zero]; rfl)
        rw [if_pos (by rfl)]
        go_simp
        refine (HTc.out _ (Kp.refl _).drew).mono ?_; rintro r w4 ⟨rfl, hg⟩
        (try go_wp2_with fail)
        have hH' := gs_kp hHeld hg
        have K4 := Lib.hid (HKd.out.trans hg)
        refine hK.out _ _ hH' (fun hHeld2 => ?_)
        clear hK K hg hH' hHeld
        have hHeld := hHeld2
        clear hHeld2
        refine wpAnyH_take (i := 10) (oi := ?p10y22) (v := ?v10y22) ?o10y22 (by kernel_rfl) (by kernel_rfl) (by kernel_rfl) ?q10y22 ?y10y22 (by assumption) ?r10y22
        case o10y22 => (simp only [List.getElem?_toArray, List.getElem?_cons_succ, List.getElem?_cons_zero]; rfl)
        case q10y22 => (exact fun _ _ _ h => h)
        case y10y22 => (refine Or.inl ⟨by rfl, ?_⟩; intro w hSw; (try dsimp only at hSw); go_simp; (try with_reducible rfl))
        simp only [Act.put, List.setIfInBounds_toArray, List.set_cons_zero, List.set_cons_succ]
        refine wpAnyH_done (by kernel_rfl) ?_ _
        clear hHeld
        go_wp2_with fail
        go_ret
        exact ⟨rfl, K4.out⟩
      | false =>
        have hts := Lib.hid (And.intro ha ht)
        rw [ht] at HTc
        go_wp2_with fail
        refine wp_region_held_drew (S := fun w' => w'.cell? ⟨w3.heap.size, 0, none⟩ = some (.int .i8 a.k) ∧ w'.cell? ⟨w3.heap.size, 1, none⟩ = some (.int .u64 a.w) ∧ w'.cell? ⟨w3.heap.size, 2, none⟩ = some (.int .u64 a.x) ∧ w'.cell? ⟨w3.heap.size, 3, none⟩ = some (.int .i64 a.fr) ∧ w'.cell? ⟨w3.heap.size, 4, none⟩ = some (.int .i64 a.fm) ∧ w'.cell? ⟨c, 0, none⟩ = some (.slice (some ⟨b, off, none⟩) N cap) ∧ w'.cell? ⟨b, off + n * 5, none⟩ = some (.int .i8 e.k) ∧ w'.cell? ⟨b, off + n * 5 + 1, none⟩ = some (.int .u64 e.w) ∧ w'.cell? ⟨b, off + n * 5 + 2, none⟩ = some (.int .u64 e.x) ∧ w'.cell? ⟨b, off + n * 5 + 3, none⟩ = some (.int .i64 e.fr) ∧ w'.cell? ⟨b, off + n * 5 + 4, none⟩ = some (.int .i64 e.fm)) (by kernel_rfl) HS.out (fun hHeld => ?_)
        clear HS
        refine wpAnyH_take (i := 0) (oi := ?p0y23) (v := ?v0y23) ?o0y23 (by kernel_rfl) (by kernel_rfl) (by kernel_rfl) ?q0y23 ?y0y23 (by assumption) ?r0y23
        case o0y23 => (simp only [List.getElem?_toArray, List.getElem?_cons_zero]; rfl)
        case q0y23 => (exact fun _ _ _ h => h)
        case y0y23 => (refine Or.inl ⟨by rfl, ?_⟩; intro w hSw; (try dsimp only at hSw); go_simp; (try with_reducible rfl))
        simp only [Act.put, List.setIfInBounds_toArray, List.set_cons_zero, List.set_cons_succ]
        refine wpAnyH_take (i := 1) (oi := ?p1y24) (v := ?v1y24) ?o1y24 (by kernel_rfl) (by kernel_rfl) (by kernel_rfl) ?q1y24 ?y1y24 (by assumption) ?r1y24
        case o1y24 => (simp only [List.getElem?_toArray, List.getElem?_cons_succ, List.getElem?_cons_zero]; rfl)
        case q1y24 => (exact fun _ _ _ h => h)
        case y1y24 => (refine Or.inl ⟨by rfl, ?_⟩; intro w hSw; (try dsimp only at hSw); go_simp; (try with_reducible rfl))
        simp only [Act.put, List.setIfInBounds_toArray, List.set_cons_zero, List.set_cons_succ]
        refine wpAnyH_take (i := 2) (oi := ?p2y25) (v := ?v2y25) ?o2y25 (by kernel_rfl) (by kernel_rfl) (by kernel_rfl) ?q2y25 ?y2y25 (by assumption) ?r2y25
        case o2y25 => (simp only [List.getElem?_toArray, List.getElem?_cons_succ, List.getElem?_cons_zero]; rfl)
        case q2y25 => (exact fun _ _ _ h => h)
        case y2y25 => (refine Or.inl ⟨by rfl, ?_⟩; intro w hSw; (try dsimp only at hSw); go_simp; (try with_reducible rfl))
        simp only [Act.put, List.setIfInBounds_toArray, List.set_cons_zero, List.set_cons_succ]
        refine wpAnyH_take (i := 3) (oi := ?p3y26) (v := ?v3y26) ?o3y26 (by kernel_rfl) (by kernel_rfl) (by kernel_rfl) ?q3y26 ?y3y26 (by assumption) ?r3y26
        case o3y26 => (simp only [List.getElem?_toArray, List.getElem?_cons_succ, List.getElem?_cons_zero]; rfl)
        case q3y26 => (exact fun _ _ _ h => h)
        case y3y26 => (refine Or.inl ⟨by rfl, ?_⟩; intro w hSw; (try dsimp only at hSw); go_simp; (try with_reducible rfl))
        simp only [Act.put, List.setIfInBounds_toArray, List.set_cons_zero, List.set_cons_succ]
        refine wpAnyH_take (i := 4) (oi := ?p4y27) (v := ?v4y27) ?o4y27 (by kernel_rfl) (by kernel_rfl) (by kernel_rfl) ?q4y27 ?y4y27 (by assumption) ?r4y27
        case o4y27 => (simp only [List.getElem?_toArray, List.getElem?_cons_succ, List.getElem?_cons_zero]; rfl)
        case q4y27 => (exact fun _ _ _ h => h)
        case y4y27 => (refine Or.inl ⟨by rfl, ?_⟩; intro w hSw; (try dsimp only at hSw); go_simp; (try with_reducible rfl))
        simp only [Act.put, List.setIfInBounds_toArray, List.set_cons_zero, List.set_cons_succ]
        refine wpAnyH_take (i := 5) (oi := ?p5y28) (v := ?v5y28) ?o5y28 (by kernel_rfl) (by kernel_rfl) (by kernel_rfl) ?q5y28 ?y5y28 (by assumption) ?r5y28
        case o5y28 => (simp only [List.getElem?_toArray, List.getElem?_cons_succ, List.getElem?_cons_zero]; rfl)
        case q5y28 => (exact fun _ _ _ h => h)
        case y5y28 => (refine Or.inl ⟨by rfl, ?_⟩; intro w hSw; (try dsimp only at hSw); go_simp; (try with_reducible rfl))
        simp only [Act.put, List.setIfInBounds_toArray, List.set_cons_zero, List.set_cons_succ]
        refine wpAnyH_take (i := 6) (oi := ?p6y29) (v := ?v6y29) ?o6y29 (by kernel_rfl) (by kernel_rfl) (by kernel_rfl) ?q6y29 ?y6y29 (by assumption) ?r6y29
        case o6y29 => (simp only [List.getElem?_toArray, List.getElem?_cons_succ, List.getElem?_cons_zero]; rfl)
        case q6y29 => (exact fun _ _ _ h => h)
        case y6y29 => (refine Or.inl ⟨by rfl, ?_⟩; intro w hSw; (try dsimp only at hSw); go_simp; (try with_reducible rfl))
        simp only [Act.put, List.setIfInBounds_toArray, List.set_cons_zero, List.set_cons_succ]
        refine wpAnyH_take (i := 7) (oi := ?p7y30) (v := ?v7y30) ?o7y30 (by kernel_rfl) (by kernel_rfl) (by kernel_rfl) ?q7y30 ?y7y30 (by assumption) ?r7y30
        case o7y30 => (simp only [List.getElem?_toArray, List.getElem?_cons_succ, List.getElem?_cons_zero]; rfl)
        case q7y30 => (exact fun _ _ _ h => h)
        case y7y30 => (refine Or.inl ⟨by rfl, ?_⟩; intro w hSw; (try dsimp only at hSw); go_simp; (try with_reducible rfl))
        simp only [Act.put, List.setIfInBounds_toArray, List.set_cons_zero, List.set_cons_succ]
        refine wpAnyH_take (i := 8) (oi := ?p8y31) (v := ?v8y31) ?o8y31 (by kernel_rfl) (by kernel_rfl) (by kernel_rfl) ?q8y31 ?y8y31 (by assumption) ?r8y31
        case o8y31 => (simp only [List.getElem?_toArray, List.getElem?_cons_succ, List.getElem?_cons_zero]; rfl)
        case q8y31 => (exact fun _ _ _ h => h)
        case y8y31 => (refine Or.inl ⟨by rfl, ?_⟩; intro w hSw; (try dsimp only at hSw); go_simp; (try with_reducible rfl))
        simp only [Act.put, List.setIfInBounds_toArray, List.set_cons_zero, List.set_cons_succ]
        refine wpAnyH_ready (rs := [9]) (by kernel_rfl) (by simp) ?_
        refine AllReadyH.cons (o := ?pc32) ?oc32 (fun K hK => ?wc32) AllReadyH.nil
        case oc32 => (simp only [List.getElem?_toArray, List.getElem?_cons_succ, List.getElem?_cons_zero]; rfl)
        rw [if_pos (by rfl)]
        go_simp
        refine (HTc.out _ (Kp.refl _).drew).mono ?_; rintro r w4 ⟨rfl, hg⟩
        (try go_wp2_with fail)
        have hH' := gs_kp hHeld hg
        have K4 := Lib.hid (HKd.out.trans hg)
        refine hK.out _ _ hH' (fun hHeld2 => ?_)
        clear hK K hg hH' hHeld
        have hHeld := hHeld2
        clear hHeld2
        refine wpAnyH_take (i := 10) (oi := ?p10y33) (v := ?v10y33) ?o10y33 (by kernel_rfl) (by kernel_rfl) (by kernel_rfl) ?q10y33 ?y10y33 (by assumption) ?r10y33
        case o10y33 => (simp only [List.getElem?_toArray, List.getElem?_cons_succ, List.getElem?_cons_zero]; rfl)
        case q10y33 => (exact fun _ _ _ h => h)
        case y10y33 => (refine Or.inl ⟨by rfl, ?_⟩; intro w hSw; (try dsimp only at hSw); go_simp; (try with_reducible rfl))
        simp only [Act.put, List.setIfInBounds_toArray, List.set_cons_zero, List.set_cons_succ]
        refine wpAnyH_done (by kernel_rfl) ?_ _
        clear hHeld
        go_wp2_with fail
        go_roundw
        case rel => exact ⟨i + 1, by have := HIl.out; omega, by go_num, fun j x hj hxx => by
          by_cases c : j < i
          · exact HFr.out j x c hxx
          · obtain rfl : j = i := by omega
            have := HYi.out
            rw [this] at hxx
            cases hxx
            exact hts.out, K4.out⟩
        case measure => have := HIl.out; simp [intOf]; omega
theorem goer_any (a0 : Option Addr) (cap N : Nat) (w : World) : Calls Tryd.prog 28 #[.slice a0 N cap] w fun r w' => r = .returned (.func (.func 36) #[] #[.pointer (some ⟨w.heap.size, 0, none⟩)]) ∧ w' = w.alloc (.cells #[.slice a0 N cap] 22) := by
  go_enter Tryd.func28, Tryd.ntmps28
  go_wp2_with fail
  go_ret
  exact ⟨rfl, rfl⟩
theorem pmayat_any (a0 : Option Addr) (cap N : Nat) (L : List Ent) (k : Int) (w : World) (hT : TabsOk w) (hN : N = L.length) (h : RowE w a0 cap L) (hw : ∀ e ∈ L, e.wf) :
    Calls Tryd.prog 17 #[.slice a0 N cap, .int .i64 k] w fun r w' => r = .returned (.bool (mayAt L k)) ∧ Kp w w' := by
  have HC := Lib.hid (pcheck_any a0 cap N L w hT hN h hw)
  have HG := Lib.hid (fun (ho : okB L = true) w1 (g : Kp w w1) => goer_in w1.heap.size a0 cap N L k (w1.alloc (.cells #[.slice a0 N cap] 22)) (hT.kp (g.alloc _ _)) hN (h.kp (g.alloc _ _)) ho (Blk.new w1 _ _))
  obtain ⟨V, hV⟩ : ∃ V, mayAt L k = V := ⟨_, rfl⟩
  rw [hV] at HG ⊢
  have HV := Lib.hid hV
  clear hV hN h hw hT
  cases hok : okB L with
  | false =>
    obtain rfl : V = false := HV.out.symm.trans (by unfold mayAt; rw [hok]; rfl)
    rw [hok, if_neg (by decide)] at HC
    clear HV HG
    go_enter Tryd.func17, Tryd.ntmps17
    go_wp2_with fail
    refine HC.out.mono ?_; rintro r w1 ⟨rfl, hg⟩; have K1 := Lib.hid hg; clear hg
    go_wp2_with fail
    go_ret
    exact ⟨rfl, K1.out⟩
  | true =>
    rw [hok, if_pos rfl] at HC
    have HG' := Lib.hid (HG.out hok)
    clear HG hok
    go_enter Tryd.func17, Tryd.ntmps17
    go_wp2_with fail
    refine HC.out.mono ?_; rintro r w1 ⟨rfl, hg⟩; have K1 := Lib.hid hg; clear hg
    go_wp2_with fail
    refine (goer_any _ _ _ _).mono ?_; rintro r w2 ⟨rfl, rfl⟩
    go_wp2_with fail
    refine (HG'.out w1 K1.out).mono ?_; rintro r w3 ⟨rfl, hg⟩; have K3 := Lib.hid ((K1.out.alloc _ _).trans hg); clear hg
    go_wp2_with fail
    go_ret
    exact ⟨rfl, K3.out⟩
set_option maxHeartbeats 2000000 in
theorem ppush_any (a0 : Option Addr) (cap N : Nat) (L : List Ent) (e : Ent) (w : World) (hT : TabsOk w) (hN : N = L.length) (h : RowE w a0 cap L) (hw : ∀ e ∈ L, e.wf) (he : e.wf) :
    Calls Tryd.prog 8 #[.slice a0 N cap, .agg (Ent.arr e)] w fun r w' => ∃ a1, r = .returned (.tuple #[.slice a1 (pushB L e).1.length (pushB L e).1.length, .int .i64 (pushB L e).2]) ∧ RowE w' a1 (pushB L e).1.length (pushB L e).1 ∧ Kp w w' := by
  have HC := Lib.hid (fun w1 (g : Kp w w1) => pcheck_any a0 cap N L w1 (hT.kp g) hN (h.kp g) hw)
  have HY := Lib.hid (fun w1 (g : Kp w w1) => pmay_any e w1 (hT.kp g) he.1)
  have HB := Lib.hid (Blk.new w (Ent.arr e) 26)
  have HK := Lib.hid ((Kp.refl w).alloc (Ent.arr e) 26)
  have H := Lib.hid h
  have HE := Lib.hid hN
  clear h hN hT hw he
  unfold Ent.arr at HB HK HY ⊢
  cases hok : okB L with
  | false =>
    have e1 : (pushB L e).2 = 2 := by unfold pushB; rw [hok]; rfl
    have e2 : (pushB L e).1 = [] := by unfold pushB; rw [hok]; rfl
    rw [e1, e2]
    rw [hok, if_neg (by decide)] at HC
    go_enter Tryd.func8, Tryd.ntmps8
    go_wp2_with fail
    refine (HC.out _ HK.out).mono ?_; rintro r w1 ⟨rfl, hg⟩; have K1 := Lib.hid hg; clear hg
    go_wp2_with fail
    go_ret2
    exact ⟨_, rfl, RowE.nil _ _ _, HK.out.trans K1.out⟩
  | true =>
  rw [hok, if_pos rfl] at HC
  cases hme : mayB e with
  | false =>
    have e1 : (pushB L e).2 = 2 := by unfold pushB; rw [hok, hme]; rfl
    have e2 : (pushB L e).1 = [] := by unfold pushB; rw [hok, hme]; rfl
    rw [e1, e2]
    rw [hme] at HY
    go_enter Tryd.func8, Tryd.ntmps8
    go_wp2_with fail
    refine (HC.out _ HK.out).mono ?_; rintro r w1 ⟨rfl, hg⟩; have K1 := Lib.hid hg; clear hg
    have q0 := (HB.out.kp K1.out).cell 0; have q1 := (HB.out.kp K1.out).cell 1; have q2 := (HB.out.kp K1.out).cell 2; have q3 := (HB.out.kp K1.out).cell 3; have q4 := (HB.out.kp K1.out).cell 4; simp at q0 q1 q2 q3 q4
    go_wp2_with fail
    refine (HY.out _ (HK.out.trans K1.out)).mono ?_; rintro r w2 ⟨rfl, hg⟩; have K2 := Lib.hid hg; clear hg
    go_wp2_with fail
    go_ret2
    exact ⟨_, rfl, RowE.nil _ _ _, (HK.out.trans K1.out).trans K2.out⟩
  | true =>
  rw [hme] at HY
  by_cases h8 : N = 8
  · have f1 : ((N : Int) == 8) = true := by simp; omega
    have e1 : (pushB L e).2 = 20 := by unfold pushB; rw [hok, hme, Bool.and_self, if_pos rfl, if_neg (by have := HE.out; omega)]
    have e2 : (pushB L e).1 = [] := by unfold pushB; rw [hok, hme, Bool.and_self, if_pos rfl, if_neg (by have := HE.out; omega)]
    rw [e1, e2]
    subst h8
    clear e1 e2
    go_enter Tryd.func8, Tryd.ntmps8
    go_wp2_with fail
    refine (HC.out _ HK.out).mono ?_; rintro r w1 ⟨rfl, hg⟩; have K1 := Lib.hid hg; clear hg
    have q0 := (HB.out.kp K1.out).cell 0; have q1 := (HB.out.kp K1.out).cell 1; have q2 := (HB.out.kp K1.out).cell 2; have q3 := (HB.out.kp K1.out).cell 3; have q4 := (HB.out.kp K1.out).cell 4; simp at q0 q1 q2 q3 q4
    go_wp2_with fail
    refine (HY.out _ (HK.out.trans K1.out)).mono ?_; rintro r w2 ⟨rfl, hg⟩; have K2 := Lib.hid hg; clear hg
    go_wp2_with fail
    go_ret2
    exact ⟨_, rfl, RowE.nil _ _ _, (HK.out.trans K1.out).trans K2.out⟩
  · have f1 : ((N : Int) == 8) = false := by simp; omega
    have h8' : N < 8 := by have := HE.out; have := (okB_parts hok).1; omega
    have e1 : (pushB L e).2 = 0 := by unfold pushB; rw [hok, hme, Bool.and_self, if_pos rfl, if_pos (by have := HE.out; omega)]
    have e2 : (pushB L e).1 = firstL (L ++ [e]) := by unfold pushB; rw [hok, hme, Bool.and_self, if_pos rfl, if_pos (by have := HE.out; omega)]
    rw [e1, e2]
    have H8 := Lib.hid h8'
    clear h8 h8' e1 e2 hok
    go_enter Tryd.func8, Tryd.ntmps8
    go_wp2_with fail
    refine (HC.out _ HK.out).mono ?_; rintro r w1 ⟨rfl, hg⟩; have K1 := Lib.hid hg; clear hg
    have q0 := (HB.out.kp K1.out).cell 0; have q1 := (HB.out.kp K1.out).cell 1; have q2 := (HB.out.kp K1.out).cell 2; have q3 := (HB.out.kp K1.out).cell 3; have q4 := (HB.out.kp K1.out).cell 4; simp at q0 q1 q2 q3 q4
    go_wp2_with fail
    refine (HY.out _ (HK.out.trans K1.out)).mono ?_; rintro r w2 ⟨rfl, hg⟩; have K2 := Lib.hid hg; clear hg q0 q1 q2 q3 q4
    have q0 := ((HB.out.kp K1.out).kp K2.out).cell 0; have q1 := ((HB.out.kp K1.out).kp K2.out).cell 1; have q2 := ((HB.out.kp K1.out).kp K2.out).cell 2; have q3 := ((HB.out.kp K1.out).kp K2.out).cell 3; have q4 := ((HB.out.kp K1.out).kp K2.out).cell 4; simp at q0 q1 q2 q3 q4
    go_wp2_with fail
    have hb2 := Blk.new2 w2 (.cells #[.int .i8 e.k, .int .u64 e.w, .int .u64 e.x, .int .i64 e.fr, .int .i64 e.fm] 26) #[.slice a0 N cap, .slice (some ⟨w2.heap.size, 0, none⟩) 1 1] 22
    have kk : Kp w2 ((w2.alloc (.cells #[.int .i8 e.k, .int .u64 e.w, .int .u64 e.x, .int .i64 e.fr, .int .i64 e.fm] 26)).alloc (.cells #[.slice a0 N cap, .slice (some ⟨w2.heap.size, 0, none⟩) 1 1] 22)) := (kpA _ _ _).alloc _ _
    have KK := Lib.hid (((HK.out.trans K1.out).trans K2.out).trans kk)
    refine (pgather_any _ N 1 cap 1 a0 _ L [e] _ hb2 HE.out rfl (H.out.kp KK.out) (row_of ((Blk.new w2 (Ent.arr e) 26).alloc _) (by simp [Ent.arr, Ent.cells])) (by have := HE.out; have := H8.out; simp; omega)).mono ?_
    rintro r w3 ⟨v3, rfl, ho3, hg⟩
    have K3 := Lib.hid (KK.out.trans hg)
    obtain ⟨a3, c3, rfl, h3⟩ := ho3.row
    have HSt := Lib.hid (psettled_any a3 c3 _ (L ++ [e]) w3 rfl h3 (by rw [List.length_append]; have := HE.out; have := H8.out; simp; omega))
    clear hg ho3 h3 hb2 kk q0 q1 q2 q3 q4
    generalize (L ++ [e]).length = M at *
    go_wp2_with fail
    refine HSt.out.mono ?_; rintro r w4 ⟨⟨a4, rfl, h4⟩, rfl⟩
    have H4 := Lib.hid h4.1; clear h4
    go_wp2_with fail
    go_ret2
    exact ⟨_, rfl, H4.out, K3.out⟩
end Go.Proofs.YtgjjbgijdgihcaaDoor
