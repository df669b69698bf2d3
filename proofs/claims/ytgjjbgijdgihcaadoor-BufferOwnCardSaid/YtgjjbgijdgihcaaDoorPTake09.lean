/-
  Package buffer: Take, at the landed code. No condition but the table.
-/
import Derived.Test.YtgjjbgijdgihcaaDoorPRow09
import Derived.Deep.WholeRow
namespace Go.Proofs.YtgjjbgijdgihcaaDoor
open Go Go.RowKit

theorem goer_is (c : Nat) (a0 : Option Addr) (cap N : Nat) (L : List Ent) (k : Int) (q : Bool) (hq : mayAt L k = q) (w : World) (hT : TabsOk w) (hN : N = L.length) (h : RowE w a0 cap L) (hok : okB L = true) (hc : Blk w c #[.slice a0 N cap] 22) :
    Calls Tryd.prog 36 #[.int .i64 k, .pointer (some ⟨c, 0, none⟩)] w fun r w' => r = .returned (.bool q) ∧ Kp w w' := hq ▸ goer_in c a0 cap N L k w hT hN h hok hc
set_option maxHeartbeats 4000000 in
theorem ptake_any (a0 : Option Addr) (cap N : Nat) (L : List Ent) (k : Int) (w : World) (hT : TabsOk w) (hN : N = L.length) (h : RowE w a0 cap L) (hw : ∀ e ∈ L, e.wf) :
    Calls Tryd.prog 10 #[.slice a0 N cap, .int .i64 k] w fun r w' => ∃ a1, r = .returned (.tuple #[.slice a1 (takeB L k).1.length (takeB L k).1.length, .agg (Ent.arr (takeB L k).2.1), .int .i64 (takeB L k).2.2]) ∧ RowE w' a1 (takeB L k).1.length (takeB L k).1 ∧ Kp w w' := by
  have HK0 := Lib.hid ((Kp.refl w).alloc (Ent.arr zeroE) 26)
  have HZ0 := Lib.hid (Blk.new w (Ent.arr zeroE) 26)
  have HC := Lib.hid (pcheck_any a0 cap N L _ (hT.kp HK0.out) hN (h.kp HK0.out) hw)
  have HGr := Lib.hid (fun (ho : okB L = true) (q : Bool) (hq : mayAt L k = q) w1 (g : Kp w w1) => goer_is w1.heap.size a0 cap N L k q hq (w1.alloc (.cells #[.slice a0 N cap] 22)) (hT.kp (g.alloc _ _)) hN (h.kp (g.alloc _ _)) ho (Blk.new w1 _ _))
  have HE := Lib.hid hN
  have H := Lib.hid h
  clear hN h hw hT
  cases hok : okB L with
  | false =>
    have e2 : takeB L k = ([], zeroE, 2) := by unfold takeB; rw [hok]; rfl
    rw [e2]
    rw [hok, if_neg (by decide)] at HC
    unfold Ent.arr zeroE at HC HK0 HZ0
    go_enter Tryd.func10, Tryd.ntmps10
    go_wp2_with fail
    refine HC.out.mono ?_; rintro r w1 ⟨rfl, hg⟩; have K1 := Lib.hid hg; clear hg
    go_wp2_with (refine wpList_store_row rfl 26 (.tmp 5) (.tmp 11) rfl w.heap.size (Ent.arr zeroE) rfl rfl _ _ (HZ0.out.kp K1.out) (by kernel_rfl) rfl (by simp [Ent.arr, Value.oneCell']) ?_)
    refine bodyPost_ret (results_tct rfl _ _ _ _ _ _ _ rfl ((HZ0.out.kp K1.out).setRow (Ent.arr zeroE)) Tryd.underlying26 rfl (by kernel_rfl)) rfl ?_
    exact ⟨_, rfl, RowE.nil _ _ _, (HK0.out.trans K1.out).setRow (Nat.le_refl _) _⟩
  | true =>
  rw [hok, if_pos rfl] at HC
  by_cases hk : ¬ (0 ≤ k ∧ k < L.length)
  · have e2 : takeB L k = ([], zeroE, 4) := by unfold takeB; rw [hok, if_pos rfl, if_neg hk]
    rw [e2]
    rw [← HE.out] at hk
    have HH := Lib.hid (fun w1 => has_is a0 cap N k false (decide_eq_false hk) w1)
    unfold Ent.arr zeroE at HC HK0 HZ0
    clear hk
    go_enter Tryd.func10, Tryd.ntmps10
    go_wp2_with fail
    refine HC.out.mono ?_; rintro r w1 ⟨rfl, hg⟩; have K1 := Lib.hid hg; clear hg
    go_wp2_with fail
    refine (HH.out _).mono ?_; rintro r w2 ⟨rfl, rfl⟩
    go_wp2_with (refine wpList_store_row rfl 26 (.tmp 5) (.tmp 17) rfl w.heap.size (Ent.arr zeroE) rfl rfl _ _ (HZ0.out.kp K1.out) (by kernel_rfl) rfl (by simp [Ent.arr, Value.oneCell']) ?_)
    refine bodyPost_ret (results_tct rfl _ _ _ _ _ _ _ rfl ((HZ0.out.kp K1.out).setRow (Ent.arr zeroE)) Tryd.underlying26 rfl (by kernel_rfl)) rfl ?_
    exact ⟨_, rfl, RowE.nil _ _ _, (HK0.out.trans K1.out).setRow (Nat.le_refl _) _⟩
  have hk' : 0 ≤ k ∧ k < L.length := Decidable.not_not.1 hk
  have HH := Lib.hid (fun w1 => has_is a0 cap N k true (decide_eq_true (by rw [HE.out]; exact hk')) w1)
  clear hk
  obtain ⟨n, rfl⟩ : ∃ n : Nat, k = n := ⟨k.toNat, by omega⟩
  have hnN : n < N := by have := HE.out; omega
  cases hm : mayAt L n with
  | false =>
    have e2 : takeB L n = ([], zeroE, 21) := by unfold takeB; rw [hok, if_pos rfl, if_pos hk', hm]; rfl
    rw [e2]
    have HMy := Lib.hid (HGr.out hok false hm)
    clear hk' hnN HGr
    unfold Ent.arr zeroE at HC HK0 HZ0
    go_enter Tryd.func10, Tryd.ntmps10
    go_wp2_with fail
    refine HC.out.mono ?_; rintro r w1 ⟨rfl, hg⟩; have K1 := Lib.hid hg; clear hg
    go_wp2_with fail
    refine (HH.out _).mono ?_; rintro r w2 ⟨rfl, rfl⟩
    go_wp2_with fail
    refine (goer_any _ _ _ _).mono ?_; rintro r w2 ⟨rfl, rfl⟩
    go_wp2_with fail
    refine (HMy.out _ (HK0.out.trans K1.out)).mono ?_; rintro r w3 ⟨rfl, hg⟩; have K3 := Lib.hid ((K1.out.alloc _ _).trans hg); clear hg
    go_wp2_with (refine wpList_store_row rfl 26 (.tmp 5) (.tmp 24) rfl w.heap.size (Ent.arr zeroE) rfl rfl _ _ (HZ0.out.kp K3.out) (by kernel_rfl) rfl (by simp [Ent.arr, Value.oneCell']) ?_)
    refine bodyPost_ret (results_tct rfl _ _ _ _ _ _ _ rfl ((HZ0.out.kp K3.out).setRow (Ent.arr zeroE)) Tryd.underlying26 rfl (by kernel_rfl)) rfl ?_
    exact ⟨_, rfl, RowE.nil _ _ _, (HK0.out.trans K3.out).setRow (Nat.le_refl _) _⟩
  | true =>
    have HMy := Lib.hid (HGr.out hok true hm)
    clear HGr
    have hx : L[n]? = some (L[n]'(by have := HE.out; omega)) := List.getElem?_eq_getElem _
    generalize L[n]'(by have := HE.out; omega) = e at hx
    have e2 : takeB L n = (firstL (L.eraseIdx n), e, 0) := by unfold takeB; rw [hok, if_pos rfl, if_pos hk', hm, if_pos rfl, Int.toNat_natCast, List.getD_eq_getElem?_getD, hx]; rfl
    rw [e2]
    have h8 := (okB_parts hok).1
    have hcap : N ≤ cap := by obtain ⟨_, _, _, _, q⟩ := H.out; have := HE.out; omega
    obtain ⟨b, off, rfl, hlt, hcc⟩ := H.out.at hx
    have HCe := Lib.hid (hcc n e hx)
    have HB := Lib.hid hlt
    have H8 := Lib.hid h8
    have i0 : (0 : Int) ≤ (n : Int) := by omega
    have i1 : (n : Int) < (N : Int) := by omega
    have i2 : (N : Int) ≤ 8 := by have := HE.out; omega
    have i3 : (N : Int) ≤ (cap : Int) := by omega
    have i4 : (n : Int) ≤ (cap : Int) := by omega
    have i5 : (n : Int) + 1 ≤ (N : Int) := by omega
    obtain ⟨m, hm1⟩ : ∃ m, m = n + 1 := ⟨_, rfl⟩
    have ew : IntKind.i64.wrap ((n : Int) + 1) = (m : Int) := by rw [show IntKind.i64.wrap ((n : Int) + 1) = ((n : Int) + 1 + 9223372036854775808) % 18446744073709551616 - 9223372036854775808 from IntKind.wrap_i64 _]; omega
    have m0 : (0 : Int) ≤ (m : Int) := by omega
    have m1 : (m : Int) ≤ (N : Int) := by omega
    have HM := Lib.hid hm1
    clear i5 hm1
    have HX := Lib.hid hx
    clear e2 hcc hlt h8 hok hk' hm hx
    unfold Ent.arr zeroE at HC HK0 HZ0
    go_enter Tryd.func10, Tryd.ntmps10
    go_wp2_with fail
    refine HC.out.mono ?_; rintro r w1 ⟨rfl, hg⟩; have K1 := Lib.hid hg; clear hg
    go_wp2_with fail
    refine (HH.out _).mono ?_; rintro r w2 ⟨rfl, rfl⟩
    go_wp2_with fail
    refine (goer_any _ _ _ _).mono ?_; rintro r w2 ⟨rfl, rfl⟩
    go_wp2_with fail
    refine (HMy.out _ (HK0.out.trans K1.out)).mono ?_; rintro r w3 ⟨rfl, hg⟩; have K3 := Lib.hid ((K1.out.alloc _ _).trans hg); clear hg
    go_wp2_with fail
    have HS5 : Hid (w3.drew.cell? ⟨b, off + n * 5, none⟩ = some (.int .i8 e.k) ∧ w3.drew.cell? ⟨b, off + n * 5 + 1, none⟩ = some (.int .u64 e.w) ∧ w3.drew.cell? ⟨b, off + n * 5 + 2, none⟩ = some (.int .u64 e.x) ∧ w3.drew.cell? ⟨b, off + n * 5 + 3, none⟩ = some (.int .i64 e.fr) ∧ w3.drew.cell? ⟨b, off + n * 5 + 4, none⟩ = some (.int .i64 e.fm)) := Lib.hid (five_kp HCe.out (HK0.out.trans K3.out).drew)
    have HKd : Hid (Kp w w3.drew) := Lib.hid (HK0.out.trans K3.out).drew
    have HZd : Hid (Blk w3.drew w.heap.size #[.int .i8 0, .int .u64 0, .int .u64 0, .int .i64 0, .int .i64 0] 26) := Lib.hid (HZ0.out.kp K3.out.drew)
    refine wp_region_held_drew (S := fun w' => w'.cell? ⟨b, off + n * 5, none⟩ = some (.int .i8 e.k) ∧ w'.cell? ⟨b, off + n * 5 + 1, none⟩ = some (.int .u64 e.w) ∧ w'.cell? ⟨b, off + n * 5 + 2, none⟩ = some (.int .u64 e.x) ∧ w'.cell? ⟨b, off + n * 5 + 3, none⟩ = some (.int .i64 e.fr) ∧ w'.cell? ⟨b, off + n * 5 + 4, none⟩ = some (.int .i64 e.fm)) (by kernel_rfl) HS5.out (fun hHeld => ?_)
    clear HS5
    generalize World.drew _ = wz at hHeld HKd HZd ⊢
    by_cases hl : m = N
    · subst hl
      refine wpAnyH_take (i := 0) (oi := ?p0y1) (v := ?v0y1) ?o0y1 (by kernel_rfl) (by kernel_rfl) (by kernel_rfl) ?q0y1 ?y0y1 (by assumption) ?r0y1
      case o0y1 => (simp only [List.getElem?_toArray, List.getElem?_cons_zero]; rfl)
      case q0y1 => (exact fun _ _ _ h => h)
      case y0y1 => (refine Or.inl ⟨by rfl, ?_⟩; intro w hSw; (try dsimp only at hSw); go_simp; (try with_reducible rfl))
      simp only [Act.put, List.setIfInBounds_toArray, List.set_cons_zero, List.set_cons_succ]
      refine wpAnyH_take (i := 1) (oi := ?p1y2) (v := ?v1y2) ?o1y2 (by kernel_rfl) (by kernel_rfl) (by kernel_rfl) ?q1y2 ?y1y2 (by assumption) ?r1y2
      case o1y2 => (simp only [List.getElem?_toArray, List.getElem?_cons_succ, List.getElem?_cons_zero]; rfl)
      case q1y2 => (exact fun _ _ _ h => h)
      case y1y2 => (refine Or.inl ⟨by rfl, ?_⟩; intro w hSw; (try dsimp only at hSw); go_simp; (try with_reducible rfl))
      simp only [Act.put, List.setIfInBounds_toArray, List.set_cons_zero, List.set_cons_succ]
      refine wpAnyH_take (i := 2) (oi := ?p2y3) (v := ?v2y3) ?o2y3 (by kernel_rfl) (by kernel_rfl) (by kernel_rfl) ?q2y3 ?y2y3 (by assumption) ?r2y3
      case o2y3 => (simp only [List.getElem?_toArray, List.getElem?_cons_succ, List.getElem?_cons_zero]; rfl)
      case q2y3 => (exact fun _ _ _ h => h)
      case y2y3 => (refine Or.inl ⟨by rfl, ?_⟩; intro w hSw; (try dsimp only at hSw); go_simp; (try with_reducible rfl))
      simp only [Act.put, List.setIfInBounds_toArray, List.set_cons_zero, List.set_cons_succ]
      refine wpAnyH_take (i := 3) (oi := ?p3y4) (v := ?v3y4) ?o3y4 (by kernel_rfl) (by kernel_rfl) (by kernel_rfl) ?q3y4 ?y3y4 (by assumption) ?r3y4
      case o3y4 => (simp only [List.getElem?_toArray, List.getElem?_cons_succ, List.getElem?_cons_zero]; rfl)
      case q3y4 => (exact fun _ _ _ h => h)
      case y3y4 => (refine Or.inl ⟨by rfl, ?_⟩; intro w hSw; (try dsimp only at hSw); go_simp; (try with_reducible rfl))
      simp only [Act.put, List.setIfInBounds_toArray, List.set_cons_zero, List.set_cons_succ]
      refine wpAnyH_take (i := 4) (oi := ?p4y5) (v := ?v4y5) ?o4y5 (by kernel_rfl) (by kernel_rfl) (by kernel_rfl) ?q4y5 ?y4y5 (by assumption) ?r4y5
      case o4y5 => (simp only [List.getElem?_toArray, List.getElem?_cons_succ, List.getElem?_cons_zero]; rfl)
      case q4y5 => (exact fun _ _ _ h => h)
      case y4y5 => (refine Or.inl ⟨by rfl, ?_⟩; intro w hSw; (try dsimp only at hSw); go_simp; (try with_reducible rfl))
      simp only [Act.put, List.setIfInBounds_toArray, List.set_cons_zero, List.set_cons_succ]
      refine wpAnyH_take (i := 5) (oi := ?p5y6) (v := ?v5y6) ?o5y6 (by kernel_rfl) (by kernel_rfl) (by kernel_rfl) ?q5y6 ?y5y6 (by assumption) ?r5y6
      case o5y6 => (simp only [List.getElem?_toArray, List.getElem?_cons_succ, List.getElem?_cons_zero]; rfl)
      case q5y6 => (exact fun _ _ _ h => h)
      case y5y6 => (refine Or.inl ⟨by rfl, ?_⟩; intro w hSw; (try dsimp only at hSw); go_simp; (try with_reducible rfl))
      simp only [Act.put, List.setIfInBounds_toArray, List.set_cons_zero, List.set_cons_succ]
      refine wpAnyH_take (i := 6) (oi := ?p6y7) (v := ?v6y7) ?o6y7 (by kernel_rfl) (by kernel_rfl) (by kernel_rfl) ?q6y7 ?y6y7 (by assumption) ?r6y7
      case o6y7 => (simp only [List.getElem?_toArray, List.getElem?_cons_succ, List.getElem?_cons_zero]; rfl)
      case q6y7 => (exact fun _ _ _ h => h)
      case y6y7 => (refine Or.inl ⟨by rfl, ?_⟩; intro w hSw; (try dsimp only at hSw); go_simp; (try with_reducible rfl))
      simp only [Act.put, List.setIfInBounds_toArray, List.set_cons_zero, List.set_cons_succ]
      refine wpAnyH_take (i := 7) (oi := ?p7y8) (v := ?v7y8) ?o7y8 (by kernel_rfl) (by kernel_rfl) (by kernel_rfl) ?q7y8 ?y7y8 (by assumption) ?r7y8
      case o7y8 => (simp only [List.getElem?_toArray, List.getElem?_cons_succ, List.getElem?_cons_zero]; rfl)
      case q7y8 => (exact fun _ _ _ h => h)
      case y7y8 => (refine Or.inl ⟨by rfl, ?_⟩; intro w hSw; (try dsimp only at hSw); go_simp; (try with_reducible rfl))
      simp only [Act.put, List.setIfInBounds_toArray, List.set_cons_zero, List.set_cons_succ]
      refine wpAnyH_take (i := 8) (oi := ?p8y9) (v := ?v8y9) ?o8y9 (by kernel_rfl) (by kernel_rfl) (by kernel_rfl) ?q8y9 ?y8y9 (by assumption) ?r8y9
      case o8y9 => (simp only [List.getElem?_toArray, List.getElem?_cons_succ, List.getElem?_cons_zero]; rfl)
      case q8y9 => (exact fun _ _ _ h => h)
      case y8y9 => (refine Or.inl ⟨by rfl, ?_⟩; intro w hSw; (try dsimp only at hSw); go_simp; (try with_reducible rfl))
      simp only [Act.put, List.setIfInBounds_toArray, List.set_cons_zero, List.set_cons_succ]
      refine wpAnyH_take (i := 9) (oi := ?p9y10) (v := ?v9y10) ?o9y10 (by kernel_rfl) (by kernel_rfl) (by kernel_rfl) ?q9y10 ?y9y10 (by assumption) ?r9y10
      case o9y10 => (simp only [List.getElem?_toArray, List.getElem?_cons_succ, List.getElem?_cons_zero]; rfl)
      case q9y10 => (exact fun _ _ _ h => h)
      case y9y10 => (refine Or.inl ⟨by rfl, ?_⟩; intro w hSw; (try dsimp only at hSw); go_simp; (try with_reducible rfl))
      simp only [Act.put, List.setIfInBounds_toArray, List.set_cons_zero, List.set_cons_succ]
      refine wpAnyH_take (i := 10) (oi := ?p10y11) (v := ?v10y11) ?o10y11 (by kernel_rfl) (by kernel_rfl) (by kernel_rfl) ?q10y11 ?y10y11 (by assumption) ?r10y11
      case o10y11 => (simp only [List.getElem?_toArray, List.getElem?_cons_succ, List.getElem?_cons_zero]; rfl)
      case q10y11 => (exact fun _ _ _ h => h)
      case y10y11 => (refine Or.inl ⟨by rfl, ?_⟩; intro w hSw; (try dsimp only at hSw); go_simp; (try with_reducible rfl))
      simp only [Act.put, List.setIfInBounds_toArray, List.set_cons_zero, List.set_cons_succ]
      refine wpAnyH_take (i := 11) (oi := ?p11y12) (v := ?v11y12) ?o11y12 (by kernel_rfl) (by kernel_rfl) (by kernel_rfl) ?q11y12 ?y11y12 (by assumption) ?r11y12
      case o11y12 => (simp only [List.getElem?_toArray, List.getElem?_cons_succ, List.getElem?_cons_zero]; rfl)
      case q11y12 => (exact fun _ _ _ h => h)
      case y11y12 => (refine Or.inl ⟨by rfl, ?_⟩; intro w hSw; (try dsimp only at hSw); go_simp; (try with_reducible rfl))
      simp only [Act.put, List.setIfInBounds_toArray, List.set_cons_zero, List.set_cons_succ]
      refine wpAnyH_take (i := 15) (oi := ?p15y13) (v := ?v15y13) ?o15y13 (by kernel_rfl) (by kernel_rfl) (by kernel_rfl) ?q15y13 ?y15y13 (by assumption) ?r15y13
      case o15y13 => (simp only [List.getElem?_toArray, List.getElem?_cons_succ, List.getElem?_cons_zero]; rfl)
      case q15y13 => (exact fun _ _ _ h => h)
      case y15y13 => (refine Or.inl ⟨by rfl, ?_⟩; intro w hSw; (try dsimp only at hSw); go_simp; (try with_reducible rfl))
      simp only [Act.put, List.setIfInBounds_toArray, List.set_cons_zero, List.set_cons_succ]
      refine wpAnyH_take (i := 16) (oi := ?p16y14) (v := ?v16y14) ?o16y14 (by kernel_rfl) (by kernel_rfl) (by kernel_rfl) ?q16y14 ?y16y14 (by assumption) ?r16y14
      case o16y14 => (simp only [List.getElem?_toArray, List.getElem?_cons_succ, List.getElem?_cons_zero]; rfl)
      case q16y14 => (exact fun _ _ _ h => h)
      case y16y14 => (refine Or.inl ⟨by rfl, ?_⟩; intro w hSw; (try dsimp only at hSw); go_simp; (try with_reducible rfl))
      simp only [Act.put, List.setIfInBounds_toArray, List.set_cons_zero, List.set_cons_succ]
      refine wpAnyH_take (i := 17) (oi := ?p17y15) (v := ?v17y15) ?o17y15 (by kernel_rfl) (by kernel_rfl) (by kernel_rfl) ?q17y15 ?y17y15 (by assumption) ?r17y15
      case o17y15 => (simp only [List.getElem?_toArray, List.getElem?_cons_succ, List.getElem?_cons_zero]; rfl)
      case q17y15 => (exact fun _ _ _ h => h)
      case y17y15 => (refine Or.inl ⟨by rfl, ?_⟩; intro w hSw; (try dsimp only at hSw); go_simp; (try with_reducible rfl))
      simp only [Act.put, List.setIfInBounds_toArray, List.set_cons_zero, List.set_cons_succ]
      refine wpAnyH_take (i := 18) (oi := ?p18y16) (v := ?v18y16) ?o18y16 (by kernel_rfl) (by kernel_rfl) (by kernel_rfl) ?q18y16 ?y18y16 (by assumption) ?r18y16
      case o18y16 => (simp only [List.getElem?_toArray, List.getElem?_cons_succ, List.getElem?_cons_zero]; rfl)
      case q18y16 => (exact fun _ _ _ h => h)
      case y18y16 => (refine Or.inl ⟨by rfl, ?_⟩; intro w hSw; (try dsimp only at hSw); go_simp; (try with_reducible rfl))
      simp only [Act.put, List.setIfInBounds_toArray, List.set_cons_zero, List.set_cons_succ]
      refine wpAnyH_ready (rs := [12]) (by kernel_rfl) (by simp) ?_
      refine AllReadyH.cons (o := ?pc17) ?oc17 (fun K hK => ?wc17) AllReadyH.nil
      case oc17 => (simp only [List.getElem?_toArray, List.getElem?_cons_succ, List.getElem?_cons_zero]; rfl)
      rw [if_pos (by rfl)]
      go_simp
      have hg := kpA wz #[.slice (some ⟨b, off, none⟩) n n, .slice (some ⟨b, off, none⟩) 0 0] 22
      have HBg := Lib.hid (Blk.new wz #[.slice (some ⟨b, off, none⟩) n n, .slice (some ⟨b, off, none⟩) 0 0] 22)
      have K4 := Lib.hid (HKd.out.trans hg)
      have HZ4 := Lib.hid (HZd.out.kp hg)
      have K4s : Hid (wz.heap.size ≤ (wz.alloc (.cells #[.slice (some ⟨b, off, none⟩) n n, .slice (some ⟨b, off, none⟩) 0 0] 22)).heap.size) := Lib.hid hg.size
      have HZl : Hid (w.heap.size < wz.heap.size) := Lib.hid HZd.out.lt
      refine hK.out _ _ (five_kp hHeld hg) (fun hHeld2 => ?_)
      clear hK K hg hHeld
      generalize wz.alloc (.cells #[.slice (some ⟨b, off, none⟩) n n, .slice (some ⟨b, off, none⟩) 0 0] 22) = w4 at hHeld2 HBg K4 HZ4 K4s ⊢
      refine wpAnyH_ready (rs := [13]) (by kernel_rfl) (by simp) ?_
      refine AllReadyH.cons (o := ?pc18) ?oc18 (fun K hK => ?wc18) AllReadyH.nil
      case oc18 => (simp only [List.getElem?_toArray, List.getElem?_cons_succ, List.getElem?_cons_zero]; rfl)
      rw [if_pos (by rfl)]
      go_simp
      refine (pgather_any _ n 0 n 0 _ _ (L.take n) (L.drop m) w4 HBg.out (by rw [List.length_take]; have := HE.out; omega) (by rw [List.length_drop]; have := HE.out; omega) ((H.out.kp K4.out).take' (k := n) (by have := HE.out; omega)) (by rw [List.drop_eq_nil_of_le (by have := HE.out; omega)]; exact RowE.nil _ _ _) (by rw [List.length_take, List.length_drop]; have := H8.out; omega)).mono ?_
      rintro r w5 ⟨v5, rfl, ho5, hg5⟩
      (try go_wp2_with fail)
      obtain ⟨a5, c5, rfl, h5, hb5⟩ := ho5.rowB
      have hle : L.take n ++ L.drop m = L.eraseIdx n := by rw [HM.out]; exact (List.eraseIdx_eq_take_drop_succ L n).symm
      rw [hle] at h5 ⊢
      have HSt := Lib.hid (psettled_any a5 c5 _ (L.eraseIdx n) w5 rfl h5 (by have := List.length_eraseIdx_le L n; have := H8.out; omega))
      have HB5 := Lib.hid hb5
      have HKd4 := Lib.hid K4s.out
      have K5 := Lib.hid (K4.out.trans hg5)
      have HZ5 := Lib.hid (HZ4.out.kp hg5)
      refine hK.out _ _ (five_kp hHeld2 hg5) (fun hHeld3 => ?_)
      clear hK K hg5 ho5 h5 hle hb5 hHeld2
      refine wpAnyH_ready (rs := [14]) (by kernel_rfl) (by simp) ?_
      refine AllReadyH.cons (o := ?pc19) ?oc19 (fun K hK => ?wc19) AllReadyH.nil
      case oc19 => (simp only [List.getElem?_toArray, List.getElem?_cons_succ, List.getElem?_cons_zero]; rfl)
      rw [if_pos (by rfl)]
      go_simp
      refine HSt.out.mono ?_; rintro r w6 ⟨⟨a6, rfl, h6, hb6⟩, rfl⟩
      have HB6 : Hid (∀ b o, a6 = some ⟨b, o, none⟩ → b ≠ w.heap.size) := Lib.hid (fun b o q => by obtain ⟨o', q'⟩ := hb6 b o q; have := HB5.out b o' q'; have := HZl.out; have := HKd4.out; omega)
      (try go_wp2_with fail)
      have H6 := Lib.hid h6
      refine hK.out _ _ hHeld3 (fun hHeld4 => ?_)
      clear hK K h6 hb6 hHeld3
      refine wpAnyH_take (i := 19) (oi := ?p19y20) (v := ?v19y20) ?o19y20 (by kernel_rfl) (by kernel_rfl) (by kernel_rfl) ?q19y20 ?y19y20 (by assumption) ?r19y20
      case o19y20 => (simp only [List.getElem?_toArray, List.getElem?_cons_succ, List.getElem?_cons_zero]; rfl)
      case q19y20 => (exact fun _ _ _ h => h)
      case y19y20 => (refine Or.inl ⟨by rfl, ?_⟩; intro w hSw; (try dsimp only at hSw); go_simp; (try with_reducible rfl))
      simp only [Act.put, List.setIfInBounds_toArray, List.set_cons_zero, List.set_cons_succ]
      refine wpAnyH_ready (rs := [20]) (by kernel_rfl) (by simp) ?_
      refine AllReadyH.cons (o := ?pc21) ?oc21 (fun K hK => ?wc21) AllReadyH.nil
      case oc21 => (simp only [List.getElem?_toArray, List.getElem?_cons_succ, List.getElem?_cons_zero]; rfl)
      rw [if_pos (by rfl)]
      refine wp_store_row 26 (.tmp 5) (.tmp 43) rfl w.heap.size (Ent.arr e) rfl rfl _ _ HZ5.out (by kernel_rfl) rfl (by simp [Ent.arr, Value.oneCell']) ?_
      refine hK.out _ _ (five_set hHeld4 HB.out (Ent.arr e)) (fun hHeld5 => ?_)
      clear hK K hHeld4
      refine wpAnyH_take (i := 21) (oi := ?p21y22) (v := ?v21y22) ?o21y22 (by kernel_rfl) (by kernel_rfl) (by kernel_rfl) ?q21y22 ?y21y22 (by assumption) ?r21y22
      case o21y22 => (simp only [List.getElem?_toArray, List.getElem?_cons_succ, List.getElem?_cons_zero]; rfl)
      case q21y22 => (exact fun _ _ _ h => h)
      case y21y22 => (refine Or.inl ⟨by rfl, ?_⟩; intro w hSw; (try dsimp only at hSw); go_simp; (try with_reducible rfl))
      simp only [Act.put, List.setIfInBounds_toArray, List.set_cons_zero, List.set_cons_succ]
      refine wpAnyH_done (by kernel_rfl) ?_ _
      go_wp2_with fail
      refine bodyPost_ret (results_tct rfl _ _ _ _ _ _ _ rfl (HZ5.out.setRow (Ent.arr e)) Tryd.underlying26 rfl (by kernel_rfl)) rfl ?_
      exact ⟨_, rfl, H6.out.setRow' HB6.out _, K5.out.setRow (Nat.le_refl _) _⟩
    · have hl' : ¬ N = m := fun q => hl q.symm
      refine wpAnyH_take (i := 0) (oi := ?p0y23) (v := ?v0y23) ?o0y23 (by kernel_rfl) (by kernel_rfl) (by kernel_rfl) ?q0y23 ?y0y23 (by assumption) ?r0y23
      case o0y23 => (simp only [List.getElem?_toArray, List.getElem?_cons_zero]; rfl)
      case q0y23 => (exact fun _ _ _ h => h)
      case y0y23 => (refine Or.inl ⟨by rfl, ?_⟩; intro w hSw; (try dsimp only at hSw); go_simp; (try with_reducible rfl))
      simp only [Act.put, List.setIfInBounds_toArray, List.set_cons_zero, List.set_cons_succ]
      refine wpAnyH_take (i := 1) (oi := ?p1y24) (v := ?v1y24) ?o1y24 (by kernel_rfl) (by kernel_rfl) (by kernel_rfl) ?q1y24 ?y1y24 (by assumption) ?r1y24
      case o1y24 => (simp only [List.getElem?_toArray, List.getElem?_cons_succ, List.getElem?_cons_zero]; rfl)
      case q1y24 => (exact fun _ _ _ h => h)
      case y1y24 => (refine Or.inl ⟨by rfl, ?_⟩; intro w hSw; (try dsimp only at hSw); go_simp; (try with_reducible rfl))
      simp only [Act.put, List.setIfInBounds_toArray, List.set_cons_zero, List.set_cons_succ]
      refine wpAnyH_take (i := 2) (oi := ?p2y25) (v := ?v2y25) ?o2y25 (by kernel_rfl) (by kernel_rfl) (by kernel_rfl) ?q2y25 ?y2y25 (by assumption) ?r2y25
      case o2y25 => (simp only [List.getElem?_toArray, List.getElem?_cons_succ, List.getElem?_cons_zero]; rfl)
      case q2y25 => (exact fun _ _ _ h => h)
      case y2y25 => (refine Or.inl ⟨by rfl, ?_⟩; intro w hSw; (try dsimp only at hSw); go_simp; (try with_reducible rfl))
      simp only [Act.put, List.setIfInBounds_toArray, List.set_cons_zero, List.set_cons_succ]
      refine wpAnyH_take (i := 3) (oi := ?p3y26) (v := ?v3y26) ?o3y26 (by kernel_rfl) (by kernel_rfl) (by kernel_rfl) ?q3y26 ?y3y26 (by assumption) ?r3y26
      case o3y26 => (simp only [List.getElem?_toArray, List.getElem?_cons_succ, List.getElem?_cons_zero]; rfl)
      case q3y26 => (exact fun _ _ _ h => h)
      case y3y26 => (refine Or.inl ⟨by rfl, ?_⟩; intro w hSw; (try dsimp only at hSw); go_simp; (try with_reducible rfl))
      simp only [Act.put, List.setIfInBounds_toArray, List.set_cons_zero, List.set_cons_succ]
      refine wpAnyH_take (i := 4) (oi := ?p4y27) (v := ?v4y27) ?o4y27 (by kernel_rfl) (by kernel_rfl) (by kernel_rfl) ?q4y27 ?y4y27 (by assumption) ?r4y27
      case o4y27 => (simp only [List.getElem?_toArray, List.getElem?_cons_succ, List.getElem?_cons_zero]; rfl)
      case q4y27 => (exact fun _ _ _ h => h)
      case y4y27 => (refine Or.inl ⟨by rfl, ?_⟩; intro w hSw; (try dsimp only at hSw); go_simp; (try with_reducible rfl))
      simp only [Act.put, List.setIfInBounds_toArray, List.set_cons_zero, List.set_cons_succ]
      refine wpAnyH_take (i := 5) (oi := ?p5y28) (v := ?v5y28) ?o5y28 (by kernel_rfl) (by kernel_rfl) (by kernel_rfl) ?q5y28 ?y5y28 (by assumption) ?r5y28
      case o5y28 => (simp only [List.getElem?_toArray, List.getElem?_cons_succ, List.getElem?_cons_zero]; rfl)
      case q5y28 => (exact fun _ _ _ h => h)
      case y5y28 => (refine Or.inl ⟨by rfl, ?_⟩; intro w hSw; (try dsimp only at hSw); go_simp; (try with_reducible rfl))
      simp only [Act.put, List.setIfInBounds_toArray, List.set_cons_zero, List.set_cons_succ]
      refine wpAnyH_take (i := 6) (oi := ?p6y29) (v := ?v6y29) ?o6y29 (by kernel_rfl) (by kernel_rfl) (by kernel_rfl) ?q6y29 ?y6y29 (by assumption) ?r6y29
      case o6y29 => (simp only [List.getElem?_toArray, List.getElem?_cons_succ, List.getElem?_cons_zero]; rfl)
      case q6y29 => (exact fun _ _ _ h => h)
      case y6y29 => (refine Or.inl ⟨by rfl, ?_⟩; intro w hSw; (try dsimp only at hSw); go_simp; (try with_reducible rfl))
      simp only [Act.put, List.setIfInBounds_toArray, List.set_cons_zero, List.set_cons_succ]
      refine wpAnyH_take (i := 7) (oi := ?p7y30) (v := ?v7y30) ?o7y30 (by kernel_rfl) (by kernel_rfl) (by kernel_rfl) ?q7y30 ?y7y30 (by assumption) ?r7y30
      case o7y30 => (simp only [List.getElem?_toArray, List.getElem?_cons_succ, List.getElem?_cons_zero]; rfl)
      case q7y30 => (exact fun _ _ _ h => h)
      case y7y30 => (refine Or.inl ⟨by rfl, ?_⟩; intro w hSw; (try dsimp only at hSw); go_simp; (try with_reducible rfl))
      simp only [Act.put, List.setIfInBounds_toArray, List.set_cons_zero, List.set_cons_succ]
      refine wpAnyH_take (i := 8) (oi := ?p8y31) (v := ?v8y31) ?o8y31 (by kernel_rfl) (by kernel_rfl) (by kernel_rfl) ?q8y31 ?y8y31 (by assumption) ?r8y31
      case o8y31 => (simp only [List.getElem?_toArray, List.getElem?_cons_succ, List.getElem?_cons_zero]; rfl)
      case q8y31 => (exact fun _ _ _ h => h)
      case y8y31 => (refine Or.inl ⟨by rfl, ?_⟩; intro w hSw; (try dsimp only at hSw); go_simp; (try with_reducible rfl))
      simp only [Act.put, List.setIfInBounds_toArray, List.set_cons_zero, List.set_cons_succ]
      refine wpAnyH_take (i := 9) (oi := ?p9y32) (v := ?v9y32) ?o9y32 (by kernel_rfl) (by kernel_rfl) (by kernel_rfl) ?q9y32 ?y9y32 (by assumption) ?r9y32
      case o9y32 => (simp only [List.getElem?_toArray, List.getElem?_cons_succ, List.getElem?_cons_zero]; rfl)
      case q9y32 => (exact fun _ _ _ h => h)
      case y9y32 => (refine Or.inl ⟨by rfl, ?_⟩; intro w hSw; (try dsimp only at hSw); go_simp; (try with_reducible rfl))
      simp only [Act.put, List.setIfInBounds_toArray, List.set_cons_zero, List.set_cons_succ]
      refine wpAnyH_take (i := 10) (oi := ?p10y33) (v := ?v10y33) ?o10y33 (by kernel_rfl) (by kernel_rfl) (by kernel_rfl) ?q10y33 ?y10y33 (by assumption) ?r10y33
      case o10y33 => (simp only [List.getElem?_toArray, List.getElem?_cons_succ, List.getElem?_cons_zero]; rfl)
      case q10y33 => (exact fun _ _ _ h => h)
      case y10y33 => (refine Or.inl ⟨by rfl, ?_⟩; intro w hSw; (try dsimp only at hSw); go_simp; (try with_reducible rfl))
      simp only [Act.put, List.setIfInBounds_toArray, List.set_cons_zero, List.set_cons_succ]
      refine wpAnyH_take (i := 11) (oi := ?p11y34) (v := ?v11y34) ?o11y34 (by kernel_rfl) (by kernel_rfl) (by kernel_rfl) ?q11y34 ?y11y34 (by assumption) ?r11y34
      case o11y34 => (simp only [List.getElem?_toArray, List.getElem?_cons_succ, List.getElem?_cons_zero]; rfl)
      case q11y34 => (exact fun _ _ _ h => h)
      case y11y34 => (refine Or.inl ⟨by rfl, ?_⟩; intro w hSw; (try dsimp only at hSw); go_simp; (try with_reducible rfl))
      simp only [Act.put, List.setIfInBounds_toArray, List.set_cons_zero, List.set_cons_succ]
      refine wpAnyH_take (i := 15) (oi := ?p15y35) (v := ?v15y35) ?o15y35 (by kernel_rfl) (by kernel_rfl) (by kernel_rfl) ?q15y35 ?y15y35 (by assumption) ?r15y35
      case o15y35 => (simp only [List.getElem?_toArray, List.getElem?_cons_succ, List.getElem?_cons_zero]; rfl)
      case q15y35 => (exact fun _ _ _ h => h)
      case y15y35 => (refine Or.inl ⟨by rfl, ?_⟩; intro w hSw; (try dsimp only at hSw); go_simp; (try with_reducible rfl))
      simp only [Act.put, List.setIfInBounds_toArray, List.set_cons_zero, List.set_cons_succ]
      refine wpAnyH_take (i := 16) (oi := ?p16y36) (v := ?v16y36) ?o16y36 (by kernel_rfl) (by kernel_rfl) (by kernel_rfl) ?q16y36 ?y16y36 (by assumption) ?r16y36
      case o16y36 => (simp only [List.getElem?_toArray, List.getElem?_cons_succ, List.getElem?_cons_zero]; rfl)
      case q16y36 => (exact fun _ _ _ h => h)
      case y16y36 => (refine Or.inl ⟨by rfl, ?_⟩; intro w hSw; (try dsimp only at hSw); go_simp; (try with_reducible rfl))
      simp only [Act.put, List.setIfInBounds_toArray, List.set_cons_zero, List.set_cons_succ]
      refine wpAnyH_take (i := 17) (oi := ?p17y37) (v := ?v17y37) ?o17y37 (by kernel_rfl) (by kernel_rfl) (by kernel_rfl) ?q17y37 ?y17y37 (by assumption) ?r17y37
      case o17y37 => (simp only [List.getElem?_toArray, List.getElem?_cons_succ, List.getElem?_cons_zero]; rfl)
      case q17y37 => (exact fun _ _ _ h => h)
      case y17y37 => (refine Or.inl ⟨by rfl, ?_⟩; intro w hSw; (try dsimp only at hSw); go_simp; (try with_reducible rfl))
      simp only [Act.put, List.setIfInBounds_toArray, List.set_cons_zero, List.set_cons_succ]
      refine wpAnyH_take (i := 18) (oi := ?p18y38) (v := ?v18y38) ?o18y38 (by kernel_rfl) (by kernel_rfl) (by kernel_rfl) ?q18y38 ?y18y38 (by assumption) ?r18y38
      case o18y38 => (simp only [List.getElem?_toArray, List.getElem?_cons_succ, List.getElem?_cons_zero]; rfl)
      case q18y38 => (exact fun _ _ _ h => h)
      case y18y38 => (refine Or.inl ⟨by rfl, ?_⟩; intro w hSw; (try dsimp only at hSw); go_simp; (try with_reducible rfl))
      simp only [Act.put, List.setIfInBounds_toArray, List.set_cons_zero, List.set_cons_succ]
      refine wpAnyH_ready (rs := [12]) (by kernel_rfl) (by simp) ?_
      refine AllReadyH.cons (o := ?pc39) ?oc39 (fun K hK => ?wc39) AllReadyH.nil
      case oc39 => (simp only [List.getElem?_toArray, List.getElem?_cons_succ, List.getElem?_cons_zero]; rfl)
      rw [if_pos (by rfl)]
      go_simp
      have hg := kpA wz #[.slice (some ⟨b, off, none⟩) n n, .slice (some ⟨b, off + m * 5, none⟩) (N - m) (N - m)] 22
      have HBg := Lib.hid (Blk.new wz #[.slice (some ⟨b, off, none⟩) n n, .slice (some ⟨b, off + m * 5, none⟩) (N - m) (N - m)] 22)
      have K4 := Lib.hid (HKd.out.trans hg)
      have HZ4 := Lib.hid (HZd.out.kp hg)
      have K4s : Hid (wz.heap.size ≤ (wz.alloc (.cells #[.slice (some ⟨b, off, none⟩) n n, .slice (some ⟨b, off + m * 5, none⟩) (N - m) (N - m)] 22)).heap.size) := Lib.hid hg.size
      have HZl : Hid (w.heap.size < wz.heap.size) := Lib.hid HZd.out.lt
      refine hK.out _ _ (five_kp hHeld hg) (fun hHeld2 => ?_)
      clear hK K hg hHeld
      generalize wz.alloc (.cells #[.slice (some ⟨b, off, none⟩) n n, .slice (some ⟨b, off + m * 5, none⟩) (N - m) (N - m)] 22) = w4 at hHeld2 HBg K4 HZ4 K4s ⊢
      refine wpAnyH_ready (rs := [13]) (by kernel_rfl) (by simp) ?_
      refine AllReadyH.cons (o := ?pc40) ?oc40 (fun K hK => ?wc40) AllReadyH.nil
      case oc40 => (simp only [List.getElem?_toArray, List.getElem?_cons_succ, List.getElem?_cons_zero]; rfl)
      rw [if_pos (by rfl)]
      go_simp
      refine (pgather_any _ n (N - m) n (N - m) _ _ (L.take n) (L.drop m) w4 HBg.out (by rw [List.length_take]; have := HE.out; omega) (by rw [List.length_drop]; have := HE.out; omega) ((H.out.kp K4.out).take' (k := n) (by have := HE.out; omega)) (by have := (H.out.kp K4.out).drop (k := m) (by have := HE.out; have := HM.out; omega); rwa [← HE.out] at this) (by rw [List.length_take, List.length_drop]; have := H8.out; omega)).mono ?_
      rintro r w5 ⟨v5, rfl, ho5, hg5⟩
      (try go_wp2_with fail)
      obtain ⟨a5, c5, rfl, h5, hb5⟩ := ho5.rowB
      have hle : L.take n ++ L.drop m = L.eraseIdx n := by rw [HM.out]; exact (List.eraseIdx_eq_take_drop_succ L n).symm
      rw [hle] at h5 ⊢
      have HSt := Lib.hid (psettled_any a5 c5 _ (L.eraseIdx n) w5 rfl h5 (by have := List.length_eraseIdx_le L n; have := H8.out; omega))
      have HB5 := Lib.hid hb5
      have HKd4 := Lib.hid K4s.out
      have K5 := Lib.hid (K4.out.trans hg5)
      have HZ5 := Lib.hid (HZ4.out.kp hg5)
      refine hK.out _ _ (five_kp hHeld2 hg5) (fun hHeld3 => ?_)
      clear hK K hg5 ho5 h5 hle hb5 hHeld2
      refine wpAnyH_ready (rs := [14]) (by kernel_rfl) (by simp) ?_
      refine AllReadyH.cons (o := ?pc41) ?oc41 (fun K hK => ?wc41) AllReadyH.nil
      case oc41 => (simp only [List.getElem?_toArray, List.getElem?_cons_succ, List.getElem?_cons_zero]; rfl)
      rw [if_pos (by rfl)]
      go_simp
      refine HSt.out.mono ?_; rintro r w6 ⟨⟨a6, rfl, h6, hb6⟩, rfl⟩
      have HB6 : Hid (∀ b o, a6 = some ⟨b, o, none⟩ → b ≠ w.heap.size) := Lib.hid (fun b o q => by obtain ⟨o', q'⟩ := hb6 b o q; have := HB5.out b o' q'; have := HZl.out; have := HKd4.out; omega)
      (try go_wp2_with fail)
      have H6 := Lib.hid h6
      refine hK.out _ _ hHeld3 (fun hHeld4 => ?_)
      clear hK K h6 hb6 hHeld3
      refine wpAnyH_take (i := 19) (oi := ?p19y42) (v := ?v19y42) ?o19y42 (by kernel_rfl) (by kernel_rfl) (by kernel_rfl) ?q19y42 ?y19y42 (by assumption) ?r19y42
      case o19y42 => (simp only [List.getElem?_toArray, List.getElem?_cons_succ, List.getElem?_cons_zero]; rfl)
      case q19y42 => (exact fun _ _ _ h => h)
      case y19y42 => (refine Or.inl ⟨by rfl, ?_⟩; intro w hSw; (try dsimp only at hSw); go_simp; (try with_reducible rfl))
      simp only [Act.put, List.setIfInBounds_toArray, List.set_cons_zero, List.set_cons_succ]
      refine wpAnyH_ready (rs := [20]) (by kernel_rfl) (by simp) ?_
      refine AllReadyH.cons (o := ?pc43) ?oc43 (fun K hK => ?wc43) AllReadyH.nil
      case oc43 => (simp only [List.getElem?_toArray, List.getElem?_cons_succ, List.getElem?_cons_zero]; rfl)
      rw [if_pos (by rfl)]
      refine wp_store_row 26 (.tmp 5) (.tmp 43) rfl w.heap.size (Ent.arr e) rfl rfl _ _ HZ5.out (by kernel_rfl) rfl (by simp [Ent.arr, Value.oneCell']) ?_
      refine hK.out _ _ (five_set hHeld4 HB.out (Ent.arr e)) (fun hHeld5 => ?_)
      clear hK K hHeld4
      refine wpAnyH_take (i := 21) (oi := ?p21y44) (v := ?v21y44) ?o21y44 (by kernel_rfl) (by kernel_rfl) (by kernel_rfl) ?q21y44 ?y21y44 (by assumption) ?r21y44
      case o21y44 => (simp only [List.getElem?_toArray, List.getElem?_cons_succ, List.getElem?_cons_zero]; rfl)
      case q21y44 => (exact fun _ _ _ h => h)
      case y21y44 => (refine Or.inl ⟨by rfl, ?_⟩; intro w hSw; (try dsimp only at hSw); go_simp; (try with_reducible rfl))
      simp only [Act.put, List.setIfInBounds_toArray, List.set_cons_zero, List.set_cons_succ]
      refine wpAnyH_done (by kernel_rfl) ?_ _
      go_wp2_with fail
      refine bodyPost_ret (results_tct rfl _ _ _ _ _ _ _ rfl (HZ5.out.setRow (Ent.arr e)) Tryd.underlying26 rfl (by kernel_rfl)) rfl ?_
      exact ⟨_, rfl, H6.out.setRow' HB6.out _, K5.out.setRow (Nat.le_refl _) _⟩
end Go.Proofs.YtgjjbgijdgihcaaDoor
