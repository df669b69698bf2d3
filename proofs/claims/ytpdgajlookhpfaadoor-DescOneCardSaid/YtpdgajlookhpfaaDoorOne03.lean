/-
  DescOne returns true. No condition but the tables of package desc.
-/
import Derived.Test.YtpdgajlookhpfaaDoorDescMath
import Derived.Deep.DeepCutAuto
import Derived.Deep.RegionHeld3
import Derived.StillTailTactics
namespace Go.Proofs.YtpdgajlookhpfaaDoor
open Go Go.RowKit

theorem held_wakes (w : World) (HT : Hid (TabsOk w)) (b : Nat) (v0 v1 : Value) (w' : World) (h : w'.cell? ⟨b, 0, none⟩ = some v0 ∧ w'.cell? ⟨b, 1, none⟩ = some v1 ∧ Kp w w') :
    Calls Tryd.prog 15 #[] w' fun e w'' => e = .returned (.bool true) ∧ w''.cell? ⟨b, 0, none⟩ = some v0 ∧ w''.cell? ⟨b, 1, none⟩ = some v1 ∧ Kp w w'' := by
  refine (wakes03_any w' (HT.out.kp h.2.2)).mono ?_
  rintro e w2 ⟨rfl, hg⟩
  exact ⟨rfl, (hg.cell (lt_of_cell h.1)).trans h.1, (hg.cell (lt_of_cell h.1)).trans h.2.1, h.2.2.trans hg⟩
theorem held_differ (w : World) (HT : Hid (TabsOk w)) (b : Nat) (v0 v1 : Value) (x y : BitVec 64) (w' : World) (h : w'.cell? ⟨b, 0, none⟩ = some v0 ∧ w'.cell? ⟨b, 1, none⟩ = some v1 ∧ Kp w w') :
    Calls Tryd.prog 13 #[.int .u64 x.toNat, .int .u64 y.toNat] w' fun e w'' => e = .returned (.bool (dif x y)) ∧ w''.cell? ⟨b, 0, none⟩ = some v0 ∧ w''.cell? ⟨b, 1, none⟩ = some v1 ∧ Kp w w'' := by
  refine (differ_any x y w' (HT.out.kp h.2.2)).mono ?_
  rintro e w2 ⟨rfl, hg⟩
  exact ⟨rfl, (hg.cell (lt_of_cell h.1)).trans h.1, (hg.cell (lt_of_cell h.1)).trans h.2.1, h.2.2.trans hg⟩
theorem still_of_quiet {P : Program} {ops : Array Oper} {Q : Act → Prop} (w : World) : ∀ (l : List Oper) (a : Act), wpQuiet P ops (fun w' => w' = w) Q l a → wpStill P ops w Q l a
  | [], _, h => h
  | o :: rest, a, h => by
    unfold wpQuiet at h
    unfold wpStill
    split at h
    · rename_i hw
      rw [if_pos hw]
      obtain ⟨v, h1, h2⟩ := h
      have h3 := h1 w rfl
      unfold Oper.quietAt at h3
      unfold Oper.still
      generalize (execOp a.eval o).run P w = r at h3
      have h4 := still_of_quiet w rest _ h2
      cases r with
      | ok n w' =>
        cases n <;> simp only [Oper.quietUpon] at h3 <;> simp only [Oper.stillUpon]
        case value u => obtain ⟨e, rfl⟩ := h3; exact ⟨e, h4⟩
        case skip => obtain ⟨e, rfl⟩ := h3; exact ⟨e, h4⟩
        case enter f args => exact ⟨h3.1, v, h3.2, h4⟩
      | halt x w' => simp only [Oper.quietUpon] at h3
    · rename_i hw
      rw [if_neg hw]
      exact still_of_quiet w rest _ h
theorem words_ne {k f f' : Int} {af ro us ng af' ro' us' ng' : Bool} (h : DOk k f af ro us ng) (h' : DOk k f' af' ro' us' ng') (hn : ¬ (f = f' ∧ af = af' ∧ ro = ro' ∧ us = us' ∧ ng = ng')) :
    (((encW k f af ro us ng).toNat : Int) == ((encW k f' af' ro' us' ng').toNat : Int)) = false :=
  pair_ne fun e => hn (one_word k f f' af ro us ng af' ro' us' ng' h h' e)
set_option maxRecDepth 20000 in
set_option maxHeartbeats 4000000 in
theorem one_a (k f k' f' n : Int) (af ro us ng af' ro' us' ng' : Bool) (w : World) (hT : TabsOk w) (hk : (Lit.int .i8 k).wf = true) (hf : (Lit.int .i64 f).wf = true) (hk' : (Lit.int .i8 k').wf = true) (hf' : (Lit.int .i64 f').wf = true) (hn : (Lit.int .i64 n).wf = true) :
    Calls Tryd.prog 6 #[.agg #[.int .i8 k, .int .i64 f, .bool af, .bool ro, .bool us, .bool ng], .agg #[.int .i8 k', .int .i64 f', .bool af', .bool ro', .bool us', .bool ng'], .int .i64 n] w fun e w' => e = .returned (.bool true) ∧ Kp w w' := by
  have HT := Lib.hid hT; clear hT
  have HK := Lib.hid hk; clear hk
  have HF := Lib.hid hf; clear hf
  have HK' := Lib.hid hk'; clear hk'
  have HF' := Lib.hid hf'; clear hf'
  have HN := Lib.hid hn; clear hn
  go_enter Tryd.func6, Tryd.ntmps6
  go_wp2_with fail
  refine (encode_any k f af ro us ng _ (HT.out.kp (((Kp.refl _).alloc _ _).alloc _ _)) HK.out HF.out).mono ?_; rintro e w1 ⟨rfl, hg⟩
  have B0 := ((Blk.new w #[.int .i8 k, .int .i64 f, .bool af, .bool ro, .bool us, .bool ng] 24).alloc (.cells #[.int .i8 k', .int .i64 f', .bool af', .bool ro', .bool us', .bool ng'] 24)).kp hg
  have B1 := (Blk.new2 w (.cells #[.int .i8 k, .int .i64 f, .bool af, .bool ro, .bool us, .bool ng] 24) #[.int .i8 k', .int .i64 f', .bool af', .bool ro', .bool us', .bool ng'] 24).kp hg
  have d0 := B1.cell 0
  have d1 := B1.cell 1
  have d2 := B1.cell 2
  have d3 := B1.cell 3
  have d4 := B1.cell 4
  have d5 := B1.cell 5
  simp at d0 d1 d2 d3 d4 d5
  have HB0 := Lib.hid B0; clear B0
  have HB1 := Lib.hid B1; clear B1
  have G1 := Lib.hid ((((Kp.refl w).alloc _ _).alloc _ _).trans hg); clear hg
  go_wp2_with fail
  refine (encode_any k' f' af' ro' us' ng' _ (HT.out.kp G1.out) HK'.out HF'.out).mono ?_; rintro e w2 ⟨rfl, hg⟩
  clear d0 d1 d2 d3 d4 d5
  have B0 := HB0.out.kp hg
  have B1 := HB1.out.kp hg
  have c0 := B0.cell 0
  have d0 := B1.cell 0
  have c1 := B0.cell 1
  have d1 := B1.cell 1
  have c2 := B0.cell 2
  have d2 := B1.cell 2
  have c3 := B0.cell 3
  have d3 := B1.cell 3
  have c4 := B0.cell 4
  have d4 := B1.cell 4
  have c5 := B0.cell 5
  have d5 := B1.cell 5
  simp at c0 c1 c2 c3 c4 c5 d0 d1 d2 d3 d4 d5
  have HB2 := Lib.hid B0; clear B0 B1
  have G2 := Lib.hid (G1.out.trans hg); clear hg
  go_upto_region 3 with fail
  go_cut [2, 3, 7, 8, 45] from 0 (fun s2 s3 s7 s8 s45 wx => s2 = .int .i64 n ∧ s3 = .pointer (some ⟨w.heap.size, 0, none⟩) ∧ s7 = .int .u64 ((encW k f af ro us ng).toNat : Int) ∧ s8 = .int .i64 (encE k f af ro us ng) ∧ s45 = .bool false ∧ wx = w2)
  case first =>
    by_cases okc : DOk k f af ro us ng
    · have HE : Hid (encE k f af ro us ng = 0) := Lib.hid (if_pos okc)
      rw [HE.out]
      by_cases okd : DOk k' f' af' ro' us' ng'
      · rw [show encE k' f' af' ro' us' ng' = 0 from if_pos okd]
        by_cases hkk : k = k'
        · subst hkk
          by_cases al : f = f' ∧ af = af' ∧ ro = ro' ∧ us = us' ∧ ng = ng'
          · obtain ⟨rfl, rfl, rfl, rfl, rfl⟩ := al
            clear okc okd
            go_wp2_with fail
            go_meet
            case rel => exact ⟨rfl, rfl, rfl, by rw [HE.out], rfl, rfl⟩
          · have hd := words_ne okc okd al
            have AL := Lib.hid al
            clear okc okd al
            obtain ⟨X, hX⟩ : ∃ X : Int, X = ((encW k f af ro us ng).toNat : Int) := ⟨_, rfl⟩
            rw [← hX] at hd ⊢
            have HX := Lib.hid hX; clear hX
            generalize ((encW k f' af' ro' us' ng').toNat : Int) = Y at hd ⊢
            go_wp2_with fail
            all_goals first | (exfalso; apply AL.out; refine ⟨?_, ?_, ?_, ?_, ?_⟩ <;> assumption) | (go_meet; case rel => exact ⟨rfl, rfl, by rw [HX.out], by rw [HE.out], rfl, rfl⟩)
        · have hb := beq_no hkk
          clear okc okd
          go_wp2_with fail
          go_meet
          case rel => exact ⟨rfl, rfl, rfl, by rw [HE.out], rfl, rfl⟩
      · rw [show encE k' f' af' ro' us' ng' = 30 from if_neg okd]
        clear okc okd
        go_wp2_with fail
        go_meet
        case rel => exact ⟨rfl, rfl, rfl, by rw [HE.out], rfl, rfl⟩
    · have HE : Hid (encE k f af ro us ng = 30) := Lib.hid (if_neg okc)
      rw [HE.out]
      clear okc
      go_wp2_with fail
      go_meet
      case rel => exact ⟨rfl, rfl, rfl, by rw [HE.out], rfl, rfl⟩
  case rest =>
    obtain ⟨rfl, rfl, rfl, rfl, rfl, rfl⟩ := hcut
    clear d0 d1 d2 d3 d4 d5
    go_wp2_with fail
    refine (encode_any k n af ro us ng _ (HT.out.kp (G2.out.alloc _ _)) HK.out HN.out).mono ?_; rintro e w3 ⟨rfl, hg⟩
    have B := (HB2.out.alloc _).kp hg
    clear c0 c1 c2 c3 c4 c5
    have c0 := B.cell 0
    have c1 := B.cell 1
    simp at c0 c1
    clear B
    have G3 := Lib.hid ((G2.out.alloc _ _).trans hg); clear hg
    by_cases okc : DOk k f af ro us ng
    · rw [show encE k f af ro us ng = 0 from if_pos okc]
      by_cases oko : DOk k n af ro us ng
      · rw [show encE k n af ro us ng = 0 from if_pos oko]
        rcases kind_cases okc with rfl | rfl | rfl
        · clear okc oko
          go_wp2_with fail
          refine wp_region_still_tail 22 (by kernel_rfl) (by kernel_rfl) ?_
          simp only [List.take_succ_cons, List.take_zero, List.drop_succ_cons, List.drop_zero]
          have e0 : w3.drew.cell? ⟨w.heap.size, 0, none⟩ = _ := c0
          have e1 : w3.drew.cell? ⟨w.heap.size, 1, none⟩ = _ := c1
          refine still_of_quiet w3.drew _ _ ?_
          generalize w3.drew = W at e0 e1 ⊢
          repeat (go_big_quiet_step (fail))
          refine wpQuiet_nil ?_
          go_wp2_with fail
          refine (wakes03_any _ (HT.out.kp G3.out.drew)).mono ?_; rintro e wz ⟨rfl, hg⟩
          have GZ := Lib.hid (G3.out.drew.trans hg); clear hg
          go_wp2_with fail
          go_ret
          exact ⟨rfl, GZ.out⟩
        · by_cases hn : f = n
          · subst hn
            clear okc oko
            go_wp2_with fail
            refine wp_region_still_tail 22 (by kernel_rfl) (by kernel_rfl) ?_
            simp only [List.take_succ_cons, List.take_zero, List.drop_succ_cons, List.drop_zero]
            have e0 : w3.drew.cell? ⟨w.heap.size, 0, none⟩ = _ := c0
            have e1 : w3.drew.cell? ⟨w.heap.size, 1, none⟩ = _ := c1
            refine still_of_quiet w3.drew _ _ ?_
            generalize w3.drew = W at e0 e1 ⊢
            repeat (go_big_quiet_step (fail))
            refine wpQuiet_nil ?_
            go_wp2_with fail
            refine (wakes03_any _ (HT.out.kp G3.out.drew)).mono ?_; rintro e wz ⟨rfl, hg⟩
            have GZ := Lib.hid (G3.out.drew.trans hg); clear hg
            go_wp2_with fail
            go_ret
            exact ⟨rfl, GZ.out⟩
          · have hd := words_ne oko okc (fun h => hn h.1.symm)
            have hb := beq_no hn
            have hb' := beq_no (Ne.symm hn)
            clear okc oko
            generalize ((encW 1 f af ro us ng).toNat : Int) = X at hd ⊢
            generalize ((encW 1 n af ro us ng).toNat : Int) = Y at hd ⊢
            go_wp2_with fail
            refine wp_region_still_tail 22 (by kernel_rfl) (by kernel_rfl) ?_
            simp only [List.take_succ_cons, List.take_zero, List.drop_succ_cons, List.drop_zero]
            have e0 : w3.drew.cell? ⟨w.heap.size, 0, none⟩ = _ := c0
            have e1 : w3.drew.cell? ⟨w.heap.size, 1, none⟩ = _ := c1
            refine still_of_quiet w3.drew _ _ ?_
            generalize w3.drew = W at e0 e1 ⊢
            repeat (go_big_quiet_step (fail))
            refine wpQuiet_nil ?_
            go_wp2_with fail
            refine (wakes03_any _ (HT.out.kp G3.out.drew)).mono ?_; rintro e wz ⟨rfl, hg⟩
            have GZ := Lib.hid (G3.out.drew.trans hg); clear hg
            go_wp2_with fail
            go_ret
            exact ⟨rfl, GZ.out⟩
        · by_cases hn : f = n
          · subst hn
            have HD := Lib.hid (dif_self (encW 2 f af ro us ng))
            clear okc oko
            generalize encW 2 f af ro us ng = X at HD ⊢
            go_wp2_with fail
            have g3 := G3.out
            go_region_held3 (fun w' => w'.cell? ⟨w.heap.size, 0, none⟩ = some (.int .i8 2) ∧ w'.cell? ⟨w.heap.size, 1, none⟩ = some (.int .i64 f) ∧ Kp w w') (first | exact ⟨c0, c1, g3⟩ | exact ⟨c0, c1, g3.drew⟩ | exact ⟨by assumption, by assumption, by assumption⟩) (first | (go_at_call 15; refine (held_wakes w HT w.heap.size _ _ _ (by first | assumption | exact ⟨by assumption, by assumption, by assumption⟩)).mono ?_; rintro e wy ⟨rfl, y0, y1, y2⟩) | (go_at_call 13; refine (held_differ w HT w.heap.size _ _ X X _ (by first | assumption | exact ⟨by assumption, by assumption, by assumption⟩)).mono ?_; rintro e wy ⟨rfl, y0, y1, y2⟩; rw [HD.out]))
            go_wp2
            go_ret
            exact ⟨rfl, by assumption⟩
          · have hd := words_ne oko okc (fun h => hn h.1.symm)
            have hb := beq_no hn
            have hb' := beq_no (Ne.symm hn)
            have hq := dif_enc f n af ro us ng af ro us ng okc oko
            rw [decide_eq_false hn] at hq
            have HD := Lib.hid hq; clear hq
            clear okc oko
            generalize encW 2 f af ro us ng = X at hd HD ⊢
            generalize encW 2 n af ro us ng = Y at hd HD ⊢
            go_wp2_with fail
            have g3 := G3.out
            go_region_held3 (fun w' => w'.cell? ⟨w.heap.size, 0, none⟩ = some (.int .i8 2) ∧ w'.cell? ⟨w.heap.size, 1, none⟩ = some (.int .i64 f) ∧ Kp w w') (first | exact ⟨c0, c1, g3⟩ | exact ⟨c0, c1, g3.drew⟩ | exact ⟨by assumption, by assumption, by assumption⟩) (first | (go_at_call 15; refine (held_wakes w HT w.heap.size _ _ _ (by first | assumption | exact ⟨by assumption, by assumption, by assumption⟩)).mono ?_; rintro e wy ⟨rfl, y0, y1, y2⟩) | (go_at_call 13; refine (held_differ w HT w.heap.size _ _ X Y _ (by first | assumption | exact ⟨by assumption, by assumption, by assumption⟩)).mono ?_; rintro e wy ⟨rfl, y0, y1, y2⟩; rw [HD.out]))
            go_wp2
            go_ret
            exact ⟨rfl, by assumption⟩
      · rw [show encE k n af ro us ng = 30 from if_neg oko]
        by_cases k2 : k = 2
        · subst k2
          clear okc oko
          go_wp2_with fail
          refine wp_region_still_tail 22 (by kernel_rfl) (by kernel_rfl) ?_
          simp only [List.take_succ_cons, List.take_zero, List.drop_succ_cons, List.drop_zero]
          have e0 : w3.drew.cell? ⟨w.heap.size, 0, none⟩ = _ := c0
          have e1 : w3.drew.cell? ⟨w.heap.size, 1, none⟩ = _ := c1
          refine still_of_quiet w3.drew _ _ ?_
          generalize w3.drew = W at e0 e1 ⊢
          repeat (go_big_quiet_step (fail))
          refine wpQuiet_nil ?_
          go_wp2_with fail
          refine (wakes03_any _ (HT.out.kp G3.out.drew)).mono ?_; rintro e wz ⟨rfl, hg⟩
          have GZ := Lib.hid (G3.out.drew.trans hg); clear hg
          go_wp2_with fail
          go_ret
          exact ⟨rfl, GZ.out⟩
        · have hb := beq_no k2
          clear okc oko
          go_wp2_with fail
          refine wp_region_still_tail 22 (by kernel_rfl) (by kernel_rfl) ?_
          simp only [List.take_succ_cons, List.take_zero, List.drop_succ_cons, List.drop_zero]
          have e0 : w3.drew.cell? ⟨w.heap.size, 0, none⟩ = _ := c0
          have e1 : w3.drew.cell? ⟨w.heap.size, 1, none⟩ = _ := c1
          refine still_of_quiet w3.drew _ _ ?_
          generalize w3.drew = W at e0 e1 ⊢
          repeat (go_big_quiet_step (fail))
          refine wpQuiet_nil ?_
          go_wp2_with fail
          refine (wakes03_any _ (HT.out.kp G3.out.drew)).mono ?_; rintro e wz ⟨rfl, hg⟩
          have GZ := Lib.hid (G3.out.drew.trans hg); clear hg
          go_wp2_with fail
          go_ret
          exact ⟨rfl, GZ.out⟩
    · rw [show encE k f af ro us ng = 30 from if_neg okc]
      clear okc
      go_wp2_with fail
      refine wp_region_still_tail 22 (by kernel_rfl) (by kernel_rfl) ?_
      simp only [List.take_succ_cons, List.take_zero, List.drop_succ_cons, List.drop_zero]
      have e0 : w3.drew.cell? ⟨w.heap.size, 0, none⟩ = _ := c0
      have e1 : w3.drew.cell? ⟨w.heap.size, 1, none⟩ = _ := c1
      refine still_of_quiet w3.drew _ _ ?_
      generalize w3.drew = W at e0 e1 ⊢
      repeat (go_big_quiet_step (fail))
      refine wpQuiet_nil ?_
      go_wp2_with fail
      refine (wakes03_any _ (HT.out.kp G3.out.drew)).mono ?_; rintro e wz ⟨rfl, hg⟩
      have GZ := Lib.hid (G3.out.drew.trans hg); clear hg
      go_wp2_with fail
      go_ret
      exact ⟨rfl, GZ.out⟩
theorem walkOne (k f k' f' n : Int) (af ro us ng af' ro' us' ng' : Bool) (w : World) (hT : TabsOk w) (hk : (Lit.int .i8 k).wf = true) (hf : (Lit.int .i64 f).wf = true) (hk' : (Lit.int .i8 k').wf = true) (hf' : (Lit.int .i64 f').wf = true) (hn : (Lit.int .i64 n).wf = true) :
    Calls Tryd.prog 6 #[.agg #[.int .i8 k, .int .i64 f, .bool af, .bool ro, .bool us, .bool ng], .agg #[.int .i8 k', .int .i64 f', .bool af', .bool ro', .bool us', .bool ng'], .int .i64 n] w fun e w' => e = .returned (.bool true) ∧ Kp w w' :=
  one_a k f k' f' n af ro us ng af' ro' us' ng' w hT hk hf hk' hf' hn
end Go.Proofs.YtpdgajlookhpfaaDoor
