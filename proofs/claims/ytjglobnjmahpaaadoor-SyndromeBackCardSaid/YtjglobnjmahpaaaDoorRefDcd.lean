/-
  The contract of the document's Decode, for any words. No condition.
-/
import Derived.Test.YtjglobnjmahpaaaDoorDecMath
import Derived.Test.YtjglobnjmahpaaaDoorRefEnc
import Derived.Deep.AppendLies
namespace Go.Proofs.YtjglobnjmahpaaaDoor
open Go Go.RowKit

theorem row_at (k : Nat) (hk : k < 16) (va : Int) : ∃ q, allQ[k]? = some q ∧ q ∈ allQ ∧ ∀ j v, (rowV q va)[j]? = some v → (cellsV 16 va)[k * 5 + j]? = some v := by
  have h : ∀ k, k < 16 → ∃ q, allQ[k]? = some q ∧ q ∈ allQ ∧ cellsV 16 va = cellsV k va ++ (rowV q va ++ (cellsV 16 va).drop (5 * k + 5)) ∧ (cellsV k va).length = k * 5 := by
    intro k hk
    obtain rfl | rfl | rfl | rfl | rfl | rfl | rfl | rfl | rfl | rfl | rfl | rfl | rfl | rfl | rfl | rfl : k = 0 ∨ k = 1 ∨ k = 2 ∨ k = 3 ∨ k = 4 ∨ k = 5 ∨ k = 6 ∨ k = 7 ∨ k = 8 ∨ k = 9 ∨ k = 10 ∨ k = 11 ∨ k = 12 ∨ k = 13 ∨ k = 14 ∨ k = 15 := by omega
    all_goals exact ⟨_, rfl, by decide, rfl, rfl⟩
  obtain ⟨q, h1, h2, h3, h4⟩ := h k hk
  refine ⟨q, h1, h2, fun j v hj => ?_⟩
  rw [h3, List.getElem?_append_right (by omega), h4, Nat.add_sub_cancel_left]
  have : j < (rowV q va).length := (List.getElem?_eq_some_iff.1 hj).1
  rw [List.getElem?_append_left this]
  exact hj
theorem Blk.put5 {w : World} {b : Nat} {t : TypeId} {v0 v1 v2 v3 v4 : Value} (h : Blk w b #[v0, v1, v2, v3, v4] t) (u0 u1 u2 u3 u4 : Value) :
    Blk (((((w.setCell ⟨b, 0, none⟩ u0).setCell ⟨b, 1, none⟩ u1).setCell ⟨b, 2, none⟩ u2).setCell ⟨b, 3, none⟩ u3).setCell ⟨b, 4, none⟩ u4) b #[u0, u1, u2, u3, u4] t :=
  ((((h.set 0 u0).set 1 u1).set 2 u2).set 3 u3).set 4 u4
theorem Kp.put5 {w w' : World} (h : Kp w w') {b : Nat} (hb : w.heap.size ≤ b) (u0 u1 u2 u3 u4 : Value) :
    Kp w (((((w'.setCell ⟨b, 0, none⟩ u0).setCell ⟨b, 1, none⟩ u1).setCell ⟨b, 2, none⟩ u2).setCell ⟨b, 3, none⟩ u3).setCell ⟨b, 4, none⟩ u4) :=
  ((((h.setCell hb u0).setCell hb u1).setCell hb u2).setCell hb u3).setCell hb u4
theorem no_more {k : Nat} {q : Q4} {x far : Nat} (hn : ∀ p ∈ allQ.take k, ¬ Hit p x far) (hq : allQ[k]? = some q) (h : ¬ Hit q x far) : ∀ p ∈ allQ.take (k + 1), ¬ Hit p x far := by
  intro p hp
  rw [List.take_add_one, hq] at hp
  simp only [Option.toList_some, List.mem_append, List.mem_singleton] at hp
  rcases hp with hp | rfl
  · exact hn p hp
  · exact h
theorem ret_dcd {c f l a e : Int} {s : Bool} {c' f' l' a' e' : Int} {s' : Bool} (h : c' = c ∧ s' = s ∧ f' = f ∧ l' = l ∧ a' = a ∧ e' = e) :
    Ending.returned (.tuple #[.agg #[.int .i8 c, .bool s, .int .i8 f, .int .i8 l, .int .u64 a], .int .i64 e]) = .returned (.tuple #[.agg #[.int .i8 c', .bool s', .int .i8 f', .int .i8 l', .int .u64 a'], .int .i64 e']) := by
  obtain ⟨rfl, rfl, rfl, rfl, rfl, rfl⟩ := h; rfl
set_option maxHeartbeats 2000000 in
theorem rdecode_any (x far : Nat) (w : World) :
    Calls Tryd.prog 14 #[.int .u64 x, .int .u64 far] w fun e w' => e = .returned (.tuple #[.agg #[.int .i8 (dC x far), .bool (dS x far), .int .i8 (dF x far), .int .i8 (dL x far), .int .u64 (dA x far)], .int .i64 (dE x far)]) ∧ Kp w w' := by
  go_enter Tryd.func14, Tryd.ntmps14
  go_wp2_with fail
  refine (all_any far _).mono ?_; rintro e w1 ⟨v, rfl, hown, hk⟩
  obtain ⟨g, cap, rfl, hg, hlt⟩ := hown.form (by decide)
  have hB : Blk w1 w.heap.size #[.int .i8 0, .bool false, .int .i8 0, .int .i8 0, .int .u64 0] 25 := (Blk.new _ _ _).kp hk
  have hK : Kp w w1 := (kpA w _ _).trans hk
  have hne : w.heap.size ≠ g := by simp at hg; omega
  have HB := Lib.hid hB
  have HK := Lib.hid hK
  have HO := Lib.hid hown
  have HG := Lib.hid hne
  clear hk hown hB hK hne
  go_wp2_with fail
  go_loopw [7] (fun i wr => ∃ k : Nat, k ≤ 16 ∧ i = .int .i64 k ∧ Kp w1 wr ∧ Hid (∀ q ∈ allQ.take k, ¬ Hit q x far)) (fun i _ => 16 - (intOf i).toNat)
  case atStart => exact ⟨0, by omega, rfl, Kp.refl _, Lib.hid (by simp)⟩
  case round =>
    obtain ⟨k, hk, rfl, hr, hn⟩ := hrel
    have HR := Lib.hid hr
    by_cases h16 : k = 16
    · subst h16
      have HD := Lib.hid (dec_none (dec_no (x := x) (far := far) hn.out))
      have hB := HB.out.kp hr
      have c0 := hB.cell 0
      have c1 := hB.cell 1
      have c2 := hB.cell 2
      have c3 := hB.cell 3
      have c4 := hB.cell 4
      simp at c0 c1 c2 c3 c4
      have f0 := hB.frozen 0
      have f1 := hB.frozen 1
      have f2 := hB.frozen 2
      have f3 := hB.frozen 3
      have f4 := hB.frozen 4
      have HB' := Lib.hid hB
      clear hB hr hk
      go_wp2_with fail
      refine bodyPost_ret (results_cell_tmp rfl _ _ _ _ _ _ rfl (HB'.out.put5 _ _ _ _ _) Tryd.underlying25 rfl (by kernel_rfl)) rfl ?_
      exact ⟨ret_dcd HD.out, (HK.out.trans HR.out).put5 (Nat.le_refl _) _ _ _ _ _⟩
    · have hk' : k < 16 := by omega
      obtain ⟨q, hq, hm, hrow⟩ := row_at k hk' far
      obtain ⟨qc, qs, qf, ql⟩ := q
      have hcell : ∀ j v, (rowV (qc, qs, qf, ql) far)[j]? = some v → wr.cell? ⟨g, k * 5 + j, none⟩ = some v := fun j v hv =>
        (hr.cell hlt).trans ((HO.out.cellAt (k * 5 + j) (by
          have := (List.getElem?_eq_some_iff.1 hv).1
          have h5 : (rowV (qc, qs, qf, ql) (far : Int)).length = 5 := rfl
          omega)).trans (hrow j v hv))
      have z0 : wr.cell? ⟨g, k * 5, none⟩ = _ := hcell 0 _ rfl
      have z1 := hcell 1 _ rfl
      have z2 := hcell 2 _ rfl
      have z3 := hcell 3 _ rfl
      have z4 := hcell 4 _ rfl
      have HQ := Lib.hid hq
      have HM := Lib.hid hm
      have i0 : (0 : Int) ≤ (k : Int) := by omega
      have i1 : (k : Int) < 16 := by omega
      have HI := Lib.hid hk'
      clear hcell hrow hr hk h16 hq hm hk'
      have HE := Lib.hid (enc_yes (ok_of HM.out far))
      have HC := Lib.hid (chk_yes (ok_of HM.out far))
      go_wp2_with fail
      refine (rencode_any qc qs qf ql (qVa (qc, qs, qf, ql) far) _).mono ?_; rintro e w2 ⟨rfl, hg2⟩
      rw [HE.out.1, HE.out.2, HC.out]
      have H2 := Lib.hid (HR.out.trans hg2)
      have y0 := (hg2.cell (lt_of_cell z0)).trans z0
      have y1 := (hg2.cell (lt_of_cell z0)).trans z1
      have y2 := (hg2.cell (lt_of_cell z0)).trans z2
      have y3 := (hg2.cell (lt_of_cell z0)).trans z3
      have y4 := (hg2.cell (lt_of_cell z0)).trans z4
      clear z0 z1 z2 z3 z4 hg2
      have fE : esrN qc.toNat qs qf ql = qEsr (qc, qs, qf, ql) := rfl
      rw [fE]
      clear fE
      by_cases hx : qEsr (qc, qs, qf, ql) = x
      · by_cases hv : qVa (qc, qs, qf, ql) far = far
        · have HD := Lib.hid (dec_some (dec_hit HM.out ⟨hx, hv⟩))
          have hB := HB.out.kp H2.out
          have c0 := hB.cell 0
          have c1 := hB.cell 1
          have c2 := hB.cell 2
          have c3 := hB.cell 3
          have c4 := hB.cell 4
          simp at c0 c1 c2 c3 c4
          have f0 := hB.frozen 0
          have f1 := hB.frozen 1
          have f2 := hB.frozen 2
          have f3 := hB.frozen 3
          have f4 := hB.frozen 4
          have HB' := Lib.hid hB
          rw [hx, hv]
          rw [hv] at y4
          have gne := HG.out
          have gne' := Ne.symm HG.out
          clear hB hx hv
          go_wp2_with fail
          refine bodyPost_ret (results_cell_tmp rfl _ _ _ _ _ _ rfl (HB'.out.put5 _ _ _ _ _) Tryd.underlying25 rfl (by kernel_rfl)) rfl ?_
          exact ⟨ret_dcd HD.out, (HK.out.trans H2.out).put5 (Nat.le_refl _) _ _ _ _ _⟩
        · have HN : Hid (∀ p ∈ allQ.take (k + 1), ¬ Hit p x far) := Lib.hid (no_more hn.out HQ.out (fun h => hv h.2))
          have hv' : (qVa (qc, qs, qf, ql) far == far) = false := by simpa using hv
          generalize qVa (qc, qs, qf, ql) far = V at hv' y4 ⊢
          rw [hx]
          clear hx hv y0 y1 y2 y3 y4
          go_wp2_with fail
          go_roundw
          case rel => exact ⟨k + 1, by have := HI.out; omega, by go_num, H2.out, HN⟩
          case measure => have := HI.out; simp [intOf]; omega
      · have HN : Hid (∀ p ∈ allQ.take (k + 1), ¬ Hit p x far) := Lib.hid (no_more hn.out HQ.out (fun h => hx h.1))
        have hx' : ((qEsr (qc, qs, qf, ql) : Int) == (x : Int)) = false := by simp; omega
        clear hx y0 y1 y2 y3 y4
        go_wp2_with fail
        go_roundw
        case rel => exact ⟨k + 1, by have := HI.out; omega, by go_num, H2.out, HN⟩
        case measure => have := HI.out; simp [intOf]; omega
end Go.Proofs.YtjglobnjmahpaaaDoor
