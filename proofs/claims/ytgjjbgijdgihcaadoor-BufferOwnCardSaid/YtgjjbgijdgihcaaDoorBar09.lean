/-
  Barriers hold; loads are told what will be: BufferBar returns true. No condition but the table.
-/
import Derived.Test.YtgjjbgijdgihcaaDoorOpen09
import Derived.Test.YtgjjbgijdgihcaaDoorWakes09
import Derived.Test.YtgjjbgijdgihcaaDoorPut09
namespace Go.Proofs.YtgjjbgijdgihcaaDoor
open Go Go.RowKit

theorem make_zero : ∃ Z : Array Value, (2048 ≤ Z.size ∧ ∀ i, i < 2048 → Z[i]? = some (.int .u64 (0 : Nat))) ∧ ∀ w : World, (Instr.makeSlice 41 (.int .i64 2048) (.int .i64 2048)).run Tryd.prog w = .ok (.slice (some ⟨w.heap.size, 0, none⟩) 2048 2048) (w.alloc (.cells Z 24)) := by
  refine ⟨madeCells #[.int .u64 0] 2048, ⟨by rw [size_madeCells]; exact Nat.le_refl _, fun i hi => ?_⟩, fun w => run_make_row' 41 24 (.int .u64 0) 8 Tryd.underlying41 u64_info rfl .i64 .i64 2048 (by decide) (by decide) w⟩
  unfold madeCells
  simp [hi, Nat.mod_one]
/-- What the first loop holds. -/
def BarI (L : List Ent) (j B : Nat) (M : Nat → Nat) : Prop := B ≤ j ∧ (0 < B → ∃ i a, i < j ∧ L[i]? = some a ∧ a.k = 1) ∧ (∀ a ∈ L.take j, a.k ≠ 3) ∧ M = putAll (fun _ => 0) (L.take j)
theorem BarI.next {L : List Ent} {j B : Nat} {M : Nat → Nat} {e : Ent} (h : BarI L j B M) (he : L[j]? = some e) (h3 : e.k ≠ 3) : BarI L (j + 1) (if e.k = 1 then B + 1 else B) (putF M e) := by
  obtain ⟨h1, h2, h4, h5⟩ := h
  have ht : L.take (j + 1) = L.take j ++ [e] := by rw [List.take_add_one, he]; rfl
  refine ⟨by split <;> omega, fun hb => ?_, fun a ha => ?_, ?_⟩
  · by_cases c : e.k = 1
    · exact ⟨j, e, by omega, he, c⟩
    · rw [if_neg c] at hb
      obtain ⟨i, a, q1, q2, q3⟩ := h2 hb
      exact ⟨i, a, by omega, q2, q3⟩
  · rw [ht, List.mem_append] at ha
    rcases ha with ha | ha
    · exact h4 a ha
    · rw [List.mem_singleton] at ha; rw [ha]; exact h3
  · rw [ht, putAll_append, ← h5]; rfl
theorem fr_small {e : Ent} (h : mayB e = true) (h3 : e.k ≠ 3) : e.fr < 4 := by
  unfold mayB at h
  rcases kinds h with ⟨a, b, _⟩ | a | ⟨a, _⟩ | ⟨a, _⟩
  · omega
  · rw [if_neg (by omega), if_pos a] at h; simp at h; omega
  · rw [if_neg (by omega), if_neg (by omega), if_pos a] at h; simp at h; omega
  · exact absurd a h3
theorem may_is (a0 : Option Addr) (cap N : Nat) (L : List Ent) (k : Int) (v : Bool) (w : World) (hT : TabsOk w) (hN : N = L.length) (h : RowE w a0 cap L) (hw : ∀ e ∈ L, e.wf) (hv : mayAt L k = v) :
    Calls Tryd.prog 17 #[.slice a0 N cap, .int .i64 k] w fun r w' => r = .returned (.bool v) ∧ Kp w w' := hv ▸ pmayat_any a0 cap N L k w hT hN h hw
theorem bar_bad (a0 : Option Addr) (cap N : Nat) (L : List Ent) (u : Nat) (w : World) (hT : TabsOk w) (hN : N = L.length) (h : RowE w a0 cap L) (hw : ∀ e ∈ L, e.wf) (hb : okB L = false ∨ 2048 ≤ u) :
    Calls Tryd.prog 5 #[.slice a0 N cap, .int .u64 u] w fun r w' => r = .returned (.bool true) ∧ Kp w w' := by
  have HC := Lib.hid (pcheck_any a0 cap N L w hT hN h hw)
  have HWk := Lib.hid (fun w1 (g : Kp w w1) => wakes_any w1 (hT.kp g))
  clear hT hN h hw
  cases ho : okB L with
  | false =>
    rw [ho, if_neg (by decide)] at HC
    clear ho hb
    go_enter Tryd.func5, Tryd.ntmps5
    go_wp2_with fail
    refine HC.out.mono ?_; rintro r w1 ⟨rfl, hg⟩; have K1 := Lib.hid hg; clear hg
    go_wp2_with fail
    refine (HWk.out _ K1.out).mono ?_; rintro r w2 ⟨rfl, hg⟩; have K2 := Lib.hid (Kp.trans K1.out hg); clear hg
    go_wp2_with fail
    go_ret
    exact ⟨rfl, K2.out⟩
  | true =>
    rw [ho, if_pos rfl] at HC
    have d0 : decide ((2048 : Int) ≤ (u : Int)) = true := decide_eq_true (by rcases hb with q | q; (rw [ho] at q; cases q); omega)
    clear ho hb
    go_enter Tryd.func5, Tryd.ntmps5
    go_wp2_with fail
    refine HC.out.mono ?_; rintro r w1 ⟨rfl, hg⟩; have K1 := Lib.hid hg; clear hg
    go_wp2_with fail
    refine (HWk.out _ K1.out).mono ?_; rintro r w2 ⟨rfl, hg⟩; have K2 := Lib.hid (Kp.trans K1.out hg); clear hg
    go_wp2_with fail
    go_ret
    exact ⟨rfl, K2.out⟩
set_option maxRecDepth 20000 in
set_option maxHeartbeats 8000000 in
theorem bar_ok (a0 : Option Addr) (cap N : Nat) (L : List Ent) (u : Nat) (w : World) (hT : TabsOk w) (hN : N = L.length) (h : RowE w a0 cap L) (hw : ∀ e ∈ L, e.wf) (ho : okB L = true) (hu : u < 2048) :
    Calls Tryd.prog 5 #[.slice a0 N cap, .int .u64 u] w fun r w' => r = .returned (.bool true) ∧ Kp w w' := by
  have HC := Lib.hid (pcheck_any a0 cap N L w hT hN h hw)
  have HWk := Lib.hid (fun w1 (g : Kp w w1) => wakes_any w1 (hT.kp g))
  have HF := Lib.hid (fun w1 (g : Kp w w1) => pfwd_any a0 cap N L u w1 (hT.kp g) hN (h.kp g) hw)
  have HMy := Lib.hid (fun w1 (g : Kp w w1) (k : Nat) (hv : mayAt L k = false) => may_is a0 cap N L k false w1 (hT.kp g) hN (h.kp g) hw hv)
  rw [ho, if_pos rfl] at HC
  have HT := Lib.hid hT
  have HE := Lib.hid hN
  have H := Lib.hid h
  have HO := Lib.hid ho
  have HU := Lib.hid hu
  have hN8 : (N : Int) ≤ 8 := by have := (okB_parts ho).1; omega
  have d0 : decide ((2048 : Int) ≤ (u : Int)) = false := decide_eq_false (by omega)
  obtain ⟨Z, hZ, hmk⟩ := make_zero
  clear hT hN h hw ho hu
  go_enter Tryd.func5, Tryd.ntmps5
  go_wp2_with fail
  refine HC.out.mono ?_; rintro r w1 ⟨rfl, hg⟩
  have hM0 : MemG (w1.alloc (.cells Z 24)) w1.heap.size (fun _ => 0) := ⟨Z, Blk.new w1 _ _, hZ⟩
  have K1 := Lib.hid hg; clear hg
  go_wp2_with fail
  clear hmk
  go_loopw [5, 6, 26] (fun s5 s6 i wr => ∃ (j B g c : Nat) (M : Nat → Nat), s5 = .int .i64 B ∧ s6 = .slice (some ⟨g, 0, none⟩) 2048 c ∧ i = .int .i64 j ∧ j ≤ N ∧ BarI L j B M ∧ MemG wr g M ∧ Kp w wr) (fun _ _ i _ => N - (intOf i).toNat)
  case atStart => exact ⟨0, 0, _, _, _, rfl, rfl, rfl, Nat.zero_le _, ⟨Nat.le_refl _, (fun q => absurd q (by decide)), (fun a ha => by simp at ha), rfl⟩, hM0, K1.out.alloc _ _⟩
  case round =>
    obtain ⟨j, B, g, c, M, rfl, rfl, rfl, hjN, hI, hG, hk⟩ := hrel
    obtain ⟨w3, rfl⟩ : ∃ w3, w3 = wr := ⟨_, rfl⟩
    have HK := Lib.hid hk
    have HI := Lib.hid hI
    have HG := Lib.hid hG
    clear hk hI hG hM0
    by_cases hjl : j = N
    · subst hjl
      clear hjN
      have ht : L.take j = L := by rw [HE.out]; exact List.take_length
      have hall : ∀ a ∈ L, a.k ≠ 3 := by have := HI.out.2.2.1; rwa [ht] at this
      have hMm : M = putAll (fun _ => 0) L := by have := HI.out.2.2.2; rwa [ht] at this
      obtain ⟨X, hf, hX⟩ := fwd_tells (fun _ => 0) u HO.out (by have := HU.out; omega) hall
      rw [← hMm] at hX
      obtain ⟨A, hA⟩ : ∃ A, L.any (namesW · u) = A := ⟨_, rfl⟩
      rw [hA] at hf hX
      rw [hf] at HF
      simp only [] at HF
      have HX := Lib.hid hX
      have HA := Lib.hid hA
      clear ht hall hMm hX hf hA
      go_wp2_with fail
      refine (HF.out _ HK.out).mono ?_; rintro r w4 ⟨rfl, hg⟩
      have K4 := Lib.hid (Kp.trans HK.out hg); have G4 := Lib.hid (HG.out.kp hg); clear hg
      go_wp2_with fail
      go_loopw [12, 60] (fun s12 i wr => ∃ q : Nat, s12 = .bool ((L.take q).any (namesW · u)) ∧ i = .int .i64 q ∧ q ≤ j ∧ Kp w4 wr) (fun _ i _ => j - (intOf i).toNat)
      case atStart => exact ⟨0, by simp, rfl, Nat.zero_le _, Kp.refl _⟩
      case round =>
        obtain ⟨q, rfl, rfl, hqN, hk⟩ := hrel
        obtain ⟨w5, rfl⟩ : ∃ w5, w5 = wr := ⟨_, rfl⟩
        have K5 := Lib.hid hk
        clear hk
        by_cases hql : q = j
        · subst hql
          clear hqN
          have ht : (L.take q).any (namesW · u) = A := by rw [HE.out, List.take_length]; exact HA.out
          rw [ht]
          have HUc := Lib.hid ((G4.out.kp K5.out).cell u HU.out).1
          clear ht
          cases A with
          | false =>
            go_wp2_with fail
            refine (HWk.out _ (Kp.trans K4.out K5.out)).mono ?_; rintro r w6 ⟨rfl, hg⟩
            have K6 := Lib.hid (Kp.trans (Kp.trans K4.out K5.out) hg); clear hg
            go_wp2_with fail
            go_ret
            exact ⟨rfl, K6.out⟩
          | true =>
            have hXM := HX.out rfl
            subst hXM
            have hc := HUc.out
            have u0 : (0 : Int) ≤ (u : Int) := by omega
            have u1 : (u : Int) < 2048 := by have := HU.out; omega
            go_wp2_with fail
            refine (HWk.out _ (Kp.trans K4.out K5.out)).mono ?_; rintro r w6 ⟨rfl, hg⟩
            have K6 := Lib.hid (Kp.trans (Kp.trans K4.out K5.out) hg); clear hg
            go_wp2_with fail
            go_ret
            exact ⟨rfl, K6.out⟩
        have hqN' : q < j := by omega
        have j2 : (0 : Int) ≤ (q : Int) := by omega
        have j3 : (q : Int) < (j : Int) := by omega
        have hx : L[q]? = some (L[q]'(by have := HE.out; omega)) := List.getElem?_eq_getElem _
        generalize L[q]'(by have := HE.out; omega) = e at hx
        have ht : (L.take (q + 1)).any (namesW · u) = ((L.take q).any (namesW · u) || namesW e u) := by rw [List.take_add_one, hx]; simp
        have HTk := Lib.hid ht
        obtain ⟨b, off, rfl, hlt, hcc⟩ := (H.out.kp (Kp.trans K4.out K5.out)).at hx
        obtain ⟨c0, c1, c2, c3, c4⟩ := hcc q e hx
        have HJ := Lib.hid hqN'
        have u0 : (0 : Int) ≤ (u : Int) := by omega
        have u1 : (u : Int) < 2048 := by have := HU.out; omega
        have KE5 := Lib.hid (fun k : Int => Kp.trans K5.out (kpA w5 #[.int .i8 k, .int .u64 e.w, .int .u64 e.x, .int .i64 e.fr, .int .i64 e.fm] 26))
        clear hcc hlt hx hqN hql hqN' ht
        cases hAq : (L.take q).any (namesW · u) with
        | true =>
          have HTr : Hid ((L.take (q + 1)).any (namesW · u) = true) := Lib.hid (by rw [HTk.out, hAq]; rfl)
          clear hAq
          go_wp2_with fail
          go_roundw
          case rel => exact ⟨q + 1, by rw [HTr.out], by go_num, HJ.out, KE5.out _⟩
          case measure => have := HJ.out; simp [intOf]; omega
        | false =>
          have HAq := Lib.hid hAq
          clear hAq
          by_cases h0 : e.k = 0
          · have H0 := Lib.hid h0
            rw [h0] at c0
            clear h0
            cases hw : ((e.w : Int) == (u : Int)) with
            | true =>
              have HTr : Hid ((L.take (q + 1)).any (namesW · u) = true) := Lib.hid (by
                rw [HTk.out, HAq.out]
                unfold namesW
                have : e.w = u := by have := eq_of_beq hw; omega
                simp [H0.out, this])
              go_wp2_with fail
              go_roundw
              case rel => exact ⟨q + 1, by rw [HTr.out], by go_num, HJ.out, KE5.out _⟩
              case measure => have := HJ.out; simp [intOf]; omega
            | false =>
              have HTr : Hid ((L.take (q + 1)).any (namesW · u) = false) := Lib.hid (by
                rw [HTk.out, HAq.out]
                unfold namesW
                have : ¬ e.w = u := by have := ne_of_beq_false hw; omega
                simp [H0.out, this])
              go_wp2_with fail
              go_roundw
              case rel => exact ⟨q + 1, by rw [HTr.out], by go_num, HJ.out, KE5.out _⟩
              case measure => have := HJ.out; simp [intOf]; omega
          · have q0 : (e.k == 0) = false := by simp [h0]
            have H0 := Lib.hid h0
            clear h0
            by_cases h2 : e.k = 2
            · have H2 := Lib.hid h2
              rw [h2] at c0
              clear h2 q0
              cases hw : (e.fm == (u : Int) / 512) with
              | true =>
                have HTr : Hid ((L.take (q + 1)).any (namesW · u) = true) := Lib.hid (by
                  rw [HTk.out, HAq.out]
                  unfold namesW
                  have := eq_of_beq hw
                  simp [H2.out, this])
                go_wp2_with fail
                go_roundw
                case rel => exact ⟨q + 1, by rw [HTr.out], by go_num, HJ.out, KE5.out _⟩
                case measure => have := HJ.out; simp [intOf]; omega
              | false =>
                have HTr : Hid ((L.take (q + 1)).any (namesW · u) = false) := Lib.hid (by
                  rw [HTk.out, HAq.out]
                  unfold namesW
                  have := ne_of_beq_false hw
                  simp [H2.out, this])
                go_wp2_with fail
                go_roundw
                case rel => exact ⟨q + 1, by rw [HTr.out], by go_num, HJ.out, KE5.out _⟩
                case measure => have := HJ.out; simp [intOf]; omega
            · have q2 : (e.k == 2) = false := by simp [h2]
              have HTr : Hid ((L.take (q + 1)).any (namesW · u) = false) := Lib.hid (by
                rw [HTk.out, HAq.out]
                unfold namesW
                simp [H0.out, h2])
              clear h2
              go_wp2_with fail
              go_roundw
              case rel => exact ⟨q + 1, by rw [HTr.out], by go_num, HJ.out, KE5.out _⟩
              case measure => have := HJ.out; simp [intOf]; omega
    have hjN' : j < N := by omega
    have j0 : (0 : Int) ≤ (j : Int) := by omega
    have j1 : (j : Int) < (N : Int) := by omega
    have hB8 : (B : Int) ≤ 8 := by have := HI.out.1; omega
    have hx : L[j]? = some (L[j]'(by have := HE.out; omega)) := List.getElem?_eq_getElem _
    generalize L[j]'(by have := HE.out; omega) = e at hx
    obtain ⟨b, off, rfl, hlt, hcc⟩ := (H.out.kp HK.out).at hx
    obtain ⟨c0, c1, c2, c3, c4⟩ := hcc j e hx
    have HX := Lib.hid hx
    have HJ := Lib.hid hjN'
    have hmay : mayB e = true := (okB_parts HO.out).2.1 e (List.mem_of_getElem? hx)
    have HMe := Lib.hid hmay
    clear hcc hlt hx hjN hjl hjN' hmay
    have HPut : Hid (∀ w4, MemG w4 g M → e.fr < 4 → Calls Tryd.prog 21 #[.slice (some ⟨g, 0, none⟩) 2048 c, .agg #[.int .i8 e.k, .int .u64 e.w, .int .u64 e.x, .int .i64 e.fr, .int .i64 e.fm]] w4 fun r w' => ∃ g' cap', r = .returned (.slice (some ⟨g', 0, none⟩) 2048 cap') ∧ MemG w' g' (putF M e) ∧ Kp w4 w') := Lib.hid (fun w4 hg hf => put_any M g c e w4 hg HMe.out hf)
    have hB0 : (0 : Int) ≤ (B : Int) := by omega
    by_cases h1 : e.k = 1
    · have h1x := Lib.hid h1
      have H3 : Hid (e.k ≠ 3) := Lib.hid (by omega)
      rw [h1] at c0 HPut
      clear h1
      have kb := kpA w3 #[.int .i8 1, .int .u64 e.w, .int .u64 e.x, .int .i64 e.fr, .int .i64 e.fm] 26
      have BX := Lib.hid (Blk.new w3 #[.int .i8 1, .int .u64 e.w, .int .u64 e.x, .int .i64 e.fr, .int .i64 e.fm] 26)
      have KB := Lib.hid (Kp.trans HK.out kb); have GB := Lib.hid (HG.out.kp kb); clear kb
      go_wp2_with fail
      refine (HMy.out _ KB.out j (by exact bar_stops HX.out h1x.out (Nat.le_refl _))).mono ?_; rintro r w4 ⟨rfl, hg⟩
      have K4 := Lib.hid (Kp.trans KB.out hg); have G4 := Lib.hid (GB.out.kp hg)
      obtain ⟨y0, y1, y2, y3, y4⟩ : w4.cell? ⟨w3.heap.size, 0, none⟩ = some (.int .i8 1) ∧ w4.cell? ⟨w3.heap.size, 1, none⟩ = some (.int .u64 e.w) ∧ w4.cell? ⟨w3.heap.size, 2, none⟩ = some (.int .u64 e.x) ∧ w4.cell? ⟨w3.heap.size, 3, none⟩ = some (.int .i64 e.fr) ∧ w4.cell? ⟨w3.heap.size, 4, none⟩ = some (.int .i64 e.fm) := ⟨(BX.out.kp hg).cell 0, (BX.out.kp hg).cell 1, (BX.out.kp hg).cell 2, (BX.out.kp hg).cell 3, (BX.out.kp hg).cell 4⟩
      clear hg
      go_wp2_with fail
      refine (HPut.out _ G4.out (fr_small HMe.out H3.out)).mono ?_; rintro r w5 ⟨g5, c5, rfl, hG5, hg⟩
      have K5 := Lib.hid (Kp.trans K4.out hg); have G5 := Lib.hid hG5; clear hg hG5
      go_wp2_with fail
      go_roundw
      case rel => exact ⟨j + 1, B + 1, g5, c5, _, by first | rfl | go_num, rfl, by go_num, HJ.out, by have q := HI.out.next HX.out H3.out; simpa [h1x.out] using q, G5.out, K5.out⟩
      case measure => have := HJ.out; simp [intOf]; omega
    · have H1 := Lib.hid h1
      have q1 : (e.k == 1) = false := by simp [h1]
      by_cases hB : 0 < B
      · have HBp := Lib.hid hB
        have hBi : (0 : Int) < (B : Int) := by omega
        by_cases h3 : e.k = 3
        · rw [h3] at c0
          clear h3 h1 q1
          have kb := kpA w3 #[.int .i8 3, .int .u64 e.w, .int .u64 e.x, .int .i64 e.fr, .int .i64 e.fm] 26
          have BX := Lib.hid (Blk.new w3 #[.int .i8 3, .int .u64 e.w, .int .u64 e.x, .int .i64 e.fr, .int .i64 e.fm] 26)
          have KB := Lib.hid (Kp.trans HK.out kb); have GB := Lib.hid (HG.out.kp kb); clear kb
          go_wp2_with fail
          refine (HMy.out _ KB.out j (by obtain ⟨i, a, q1, q2, q3⟩ := HI.out.2.1 HBp.out; exact bar_stops q2 q3 (by omega))).mono ?_; rintro r w4 ⟨rfl, hg⟩
          have K4 := Lib.hid (Kp.trans KB.out hg); have G4 := Lib.hid (GB.out.kp hg)
          obtain ⟨y0, y1, y2, y3, y4⟩ : w4.cell? ⟨w3.heap.size, 0, none⟩ = some (.int .i8 3) ∧ w4.cell? ⟨w3.heap.size, 1, none⟩ = some (.int .u64 e.w) ∧ w4.cell? ⟨w3.heap.size, 2, none⟩ = some (.int .u64 e.x) ∧ w4.cell? ⟨w3.heap.size, 3, none⟩ = some (.int .i64 e.fr) ∧ w4.cell? ⟨w3.heap.size, 4, none⟩ = some (.int .i64 e.fm) := ⟨(BX.out.kp hg).cell 0, (BX.out.kp hg).cell 1, (BX.out.kp hg).cell 2, (BX.out.kp hg).cell 3, (BX.out.kp hg).cell 4⟩
          clear hg
          go_wp2_with fail
          refine (HWk.out _ K4.out).mono ?_; rintro r w5 ⟨rfl, hg⟩
          have K5 := Lib.hid (Kp.trans K4.out hg); clear hg
          go_wp2_with fail
          go_ret
          exact ⟨rfl, K5.out⟩
        · have H3 := Lib.hid h3
          have q3 : (e.k == 3) = false := by simp [h3]
          clear h3 h1
          have kb := kpA w3 #[.int .i8 e.k, .int .u64 e.w, .int .u64 e.x, .int .i64 e.fr, .int .i64 e.fm] 26
          have BX := Lib.hid (Blk.new w3 #[.int .i8 e.k, .int .u64 e.w, .int .u64 e.x, .int .i64 e.fr, .int .i64 e.fm] 26)
          have KB := Lib.hid (Kp.trans HK.out kb); have GB := Lib.hid (HG.out.kp kb); clear kb
          go_wp2_with fail
          refine (HMy.out _ KB.out j (by obtain ⟨i, a, q1, q2, q3⟩ := HI.out.2.1 HBp.out; exact bar_stops q2 q3 (by omega))).mono ?_; rintro r w4 ⟨rfl, hg⟩
          have K4 := Lib.hid (Kp.trans KB.out hg); have G4 := Lib.hid (GB.out.kp hg)
          obtain ⟨y0, y1, y2, y3, y4⟩ : w4.cell? ⟨w3.heap.size, 0, none⟩ = some (.int .i8 e.k) ∧ w4.cell? ⟨w3.heap.size, 1, none⟩ = some (.int .u64 e.w) ∧ w4.cell? ⟨w3.heap.size, 2, none⟩ = some (.int .u64 e.x) ∧ w4.cell? ⟨w3.heap.size, 3, none⟩ = some (.int .i64 e.fr) ∧ w4.cell? ⟨w3.heap.size, 4, none⟩ = some (.int .i64 e.fm) := ⟨(BX.out.kp hg).cell 0, (BX.out.kp hg).cell 1, (BX.out.kp hg).cell 2, (BX.out.kp hg).cell 3, (BX.out.kp hg).cell 4⟩
          clear hg
          go_wp2_with fail
          refine (HPut.out _ G4.out (fr_small HMe.out H3.out)).mono ?_; rintro r w5 ⟨g5, c5, rfl, hG5, hg⟩
          have K5 := Lib.hid (Kp.trans K4.out hg); have G5 := Lib.hid hG5; clear hg hG5
          go_wp2_with fail
          go_roundw
          case rel => exact ⟨j + 1, B, g5, c5, _, by first | rfl | go_num, rfl, by go_num, HJ.out, by have q := HI.out.next HX.out H3.out; simpa [H1.out] using q, G5.out, K5.out⟩
          case measure => have := HJ.out; simp [intOf]; omega
      · obtain rfl : B = 0 := by omega
        by_cases h3 : e.k = 3
        · rw [h3] at c0
          clear h3 h1 q1
          have kb := kpA w3 #[.int .i8 3, .int .u64 e.w, .int .u64 e.x, .int .i64 e.fr, .int .i64 e.fm] 26
          have BX := Lib.hid (Blk.new w3 #[.int .i8 3, .int .u64 e.w, .int .u64 e.x, .int .i64 e.fr, .int .i64 e.fm] 26)
          have KB := Lib.hid (Kp.trans HK.out kb); have GB := Lib.hid (HG.out.kp kb); clear kb
          go_wp2_with fail
          have K4 := Lib.hid KB.out; have G4 := Lib.hid GB.out
          refine (HWk.out _ K4.out).mono ?_; rintro r w5 ⟨rfl, hg⟩
          have K5 := Lib.hid (Kp.trans K4.out hg); clear hg
          go_wp2_with fail
          go_ret
          exact ⟨rfl, K5.out⟩
        · have H3 := Lib.hid h3
          have q3 : (e.k == 3) = false := by simp [h3]
          clear h3 h1
          have kb := kpA w3 #[.int .i8 e.k, .int .u64 e.w, .int .u64 e.x, .int .i64 e.fr, .int .i64 e.fm] 26
          have BX := Lib.hid (Blk.new w3 #[.int .i8 e.k, .int .u64 e.w, .int .u64 e.x, .int .i64 e.fr, .int .i64 e.fm] 26)
          have KB := Lib.hid (Kp.trans HK.out kb); have GB := Lib.hid (HG.out.kp kb); clear kb
          go_wp2_with fail
          have K4 := Lib.hid KB.out; have G4 := Lib.hid GB.out
          refine (HPut.out _ G4.out (fr_small HMe.out H3.out)).mono ?_; rintro r w5 ⟨g5, c5, rfl, hG5, hg⟩
          have K5 := Lib.hid (Kp.trans K4.out hg); have G5 := Lib.hid hG5; clear hg hG5
          go_wp2_with fail
          go_roundw
          case rel => exact ⟨j + 1, 0, g5, c5, _, by first | rfl | go_num, rfl, by go_num, HJ.out, by have q := HI.out.next HX.out H3.out; simpa [H1.out] using q, G5.out, K5.out⟩
          case measure => have := HJ.out; simp [intOf]; omega
theorem bar_any (a0 : Option Addr) (cap N : Nat) (L : List Ent) (u : Nat) (w : World) (hT : TabsOk w) (hN : N = L.length) (h : RowE w a0 cap L) (hw : ∀ e ∈ L, e.wf) :
    Calls Tryd.prog 5 #[.slice a0 N cap, .int .u64 u] w fun r w' => r = .returned (.bool true) ∧ Kp w w' := by
  by_cases hb : okB L = false ∨ 2048 ≤ u
  · exact bar_bad a0 cap N L u w hT hN h hw hb
  · have h1 : okB L = true := by cases q : okB L with | true => rfl | false => exact absurd (.inl q) hb
    exact bar_ok a0 cap N L u w hT hN h hw h1 (by omega)
end Go.Proofs.YtgjjbgijdgihcaaDoor
