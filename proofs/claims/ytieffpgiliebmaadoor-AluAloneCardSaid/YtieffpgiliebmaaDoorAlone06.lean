/-
  AluAlone returns true. No condition but the table.
-/
import Derived.Test.YtieffpgiliebmaaDoorBack06
import Derived.Test.YtieffpgiliebmaaDoorStill
namespace Go.Proofs.YtieffpgiliebmaaDoor
open Go Go.RowKit

theorem neq_regs (x y : BitVec 64) (h : x ≠ y) : ((x.toNat : Int) != (y.toNat : Int)) = true := by
  rw [bne_iff_ne]
  intro e
  apply h
  apply BitVec.eq_of_toNat_eq
  omega
theorem usedN_le (op d n m imm : Int) : (readsA op d n m imm).length ≤ 100 := readsA_le op d n m imm
def kOf (k : Int) : Int := (wrap64 (k.tmod 8 + 8)).tmod 8
theorem kOf_in (k : Int) : 0 ≤ kOf k ∧ kOf k < 8 := by
  unfold kOf
  have h1 := Int.tmod_lt_of_pos k (b := 8) (by decide)
  have h2 := Int.lt_tmod_of_pos k (b := 8) (by decide)
  have hw : wrap64 (k.tmod 8 + 8) = k.tmod 8 + 8 := by unfold wrap64; omega
  rw [hw]
  have h3 := Int.tmod_lt_of_pos (Int.tmod k 8 + 8) (b := 8) (by decide)
  have h4 := Int.tmod_nonneg 8 (a := Int.tmod k 8 + 8) (by omega)
  omega
theorem OwnsI.sl {w : World} {B : Nat} {v : Value} {zs : List Int} (h : OwnsI w B v zs) : ∃ a cap, v = .slice a zs.length cap := by
  rcases h.parts with ⟨rfl, rfl⟩ | ⟨g, cap, cur, rfl, _⟩
  · exact ⟨_, _, rfl⟩
  · exact ⟨_, _, rfl⟩
theorem OwnsI.some {w : World} {B n cap : Nat} {a : Option Addr} {zs : List Int} (h : OwnsI w B (.slice a n cap) zs) (hz : 0 < zs.length) : ∃ g, a = some ⟨g, 0, none⟩ := by
  rcases h.parts with ⟨h1, rfl⟩ | ⟨g, cap, cur, h1, _⟩
  · simp at hz
  · simp only [Value.slice.injEq] at h1
    exact ⟨g, h1.1⟩
theorem not_mem {zs : List Int} {y : Int} (h : ∀ p, p < zs.length → ¬ zs.getD p 0 = y) : ¬ y ∈ zs := by
  intro hm
  obtain ⟨p, hp, e⟩ := List.mem_iff_getElem.1 hm
  exact h p hp (by simp [hp, e])
set_option maxHeartbeats 4000000 in
set_option maxRecDepth 20000 in
theorem walkAloneIn (op d n m imm : Int) (R A : Regs) (pc x k : Int) (z : BitVec 64) (kk : Nat) (wi : Int) (wb : Bool) (w : World) (hT : TabsOk w) (hop : -128 ≤ op ∧ op < 128) (p0 : ¬ pc < -2147483648) (p1 : ¬ 2147483648 < pc) (hk : kOf k = kk) (hkk : kk < 8)
    (hA : ∀ w, TabsOk w → Calls Tryd.prog 17 #[.agg #[.int .i8 op, .int .i8 d, .int .i8 n, .int .i8 m, .int .i64 imm], .agg (regV R), .int .i64 pc] w fun y w' => y = .returned (.tuple #[.agg (regV A), .int .i64 x, .int .i64 0]) ∧ Kp w w')
    (hW : writesA op d n m imm = (wi, wb)) (hwi : 0 ≤ wi ∧ wi < 8) (hF : ∀ j, j < 8 → A j = R j ∨ (wb = true ∧ (j : Int) = wi))
    (hB : ¬ ((kk : Int) ∈ readsA op d n m imm) → ∃ B : Regs, (∀ w, TabsOk w → Calls Tryd.prog 17 #[.agg #[.int .i8 op, .int .i8 d, .int .i8 n, .int .i8 m, .int .i64 imm], .agg (regV (upd R kk z)), .int .i64 pc] w fun y w' => y = .returned (.tuple #[.agg (regV B), .int .i64 x, .int .i64 0]) ∧ Kp w w') ∧ (∀ j, j < 8 → j ≠ kk → A j = B j) ∧ (wb = true → wi = kk → A kk = B kk)) :
    Calls Tryd.prog 5 #[.agg #[.int .i8 op, .int .i8 d, .int .i8 n, .int .i8 m, .int .i64 imm], .agg (regV R), .int .i64 pc, .int .i64 k, .int .u64 z.toNat] w fun e w' => e = .returned (.bool true) ∧ Kp w w' := by
  have HT := Lib.hid hT
  have HP := Lib.hid hop
  have HK := Lib.hid hk
  have HA := Lib.hid hA
  have HW := Lib.hid hW
  have HF := Lib.hid hF
  have HB := Lib.hid hB
  have HI := Lib.hid hwi
  have HK8 := Lib.hid hkk
  clear hT hop hk hkk hA hW hF hB hwi
  go_enter Tryd.func5, Tryd.ntmps5
  go_wp2_with (refine wpList_load_row rfl 35 (.tmp 6) rfl (w.heap.size + 1) rfl _ _ _ _ (Blk.new2 w _ _ _) Tryd.underlying35 rfl (by kernel_rfl) ?_)
  refine (HA.out _ (HT.out.kp ((kpA _ _ _).alloc _ _))).mono ?_; rintro e w1 ⟨rfl, hg⟩
  have I1 := Lib.hid (((Blk.new w #[.int .i8 op, .int .i8 d, .int .i8 n, .int .i8 m, .int .i64 imm] 24).alloc (.cells (regV R) 35)).kp hg)
  have R1 := Lib.hid ((Blk.new2 w (.cells #[.int .i8 op, .int .i8 d, .int .i8 n, .int .i8 m, .int .i64 imm] 24) (regV R) 35).kp hg)
  have K1 : Hid (Kp w w1) := Lib.hid (((kpA _ _ _).alloc _ _).trans hg)
  clear hg
  go_wp2_with (first
    | (refine wpList_store_row rfl 35 (.tmp 11) (.tmp 36) rfl w1.heap.size (regV A) rfl rfl 35 _ (heap_alloc_last _ _) (by kernel_rfl) rfl (regV_one _) ?_; rw [World.setRow_alloc_new])
    | (refine wpList_load_row rfl 24 (.tmp 5) rfl w.heap.size rfl _ _ _ _ (I1.out.alloc _) Tryd.underlying24 rfl (by kernel_rfl) ?_))
  refine (writes_any op d n m imm _ (HT.out.kp (K1.out.alloc _ _)) HP.out).mono ?_; rintro e w2 ⟨rfl, hg⟩
  rw [HW.out]
  have I2 := Lib.hid ((I1.out.alloc (.cells (regV A) 35)).kp hg)
  have R2 := Lib.hid ((R1.out.alloc (.cells (regV A) 35)).kp hg)
  have A2 := Lib.hid ((Blk.new w1 (regV A) 35).kp hg)
  have K2 : Hid (Kp w w2) := Lib.hid ((K1.out.alloc _ _).trans hg)
  clear hg p0 p1
  generalize hG : w1.heap.size = G at A2 ⊢
  clear hG
  go_wp2_with fail
  go_loopw [57] (fun u wr => ∃ j : Nat, j ≤ 8 ∧ u = .int .i64 j ∧ Kp w2 wr) (fun u _ => 8 - (intOf u).toNat)
  case atStart => exact ⟨0, by omega, rfl, Kp.refl _⟩
  case round =>
    obtain ⟨j, hj, rfl, hkp⟩ := hrel
    by_cases h8 : j = 8
    · subst h8
      have I3 := Lib.hid (I2.out.kp hkp)
      have R3 := Lib.hid (R2.out.kp hkp)
      have A3 := Lib.hid (A2.out.kp hkp)
      have K3 := Lib.hid (K2.out.trans hkp)
      clear hkp hj I2 R2 A2 K2 I1 R1 K1 HF HW
      obtain ⟨w3, rfl⟩ : ∃ w3 : World, w3 = wr := ⟨_, rfl⟩
      have hkv : (wrap64 (k.tmod 8 + 8)).tmod 8 = (kk : Int) := HK.out
      go_wp2_with (refine wpList_load_row rfl 24 (.tmp 5) rfl w.heap.size rfl _ _ _ _ I3.out Tryd.underlying24 rfl (by kernel_rfl) ?_)
      refine (reads_any op d n m imm _ (HT.out.kp K3.out) HP.out).mono ?_; rintro e w4 ⟨v, rfl, ho, hg⟩
      obtain ⟨a, cap, rfl⟩ := ho.sl
      have HN := Lib.hid (usedN_le op d n m imm)
      have HNM := Lib.hid (fun h => HB.out (not_mem h))
      clear HB
      have O4 := Lib.hid ho
      have I4 := Lib.hid (I3.out.kp hg)
      have R4 := Lib.hid (R3.out.kp hg)
      have A4 := Lib.hid (A3.out.kp hg)
      have K4 := Lib.hid (K3.out.trans hg)
      clear ho hg I3 R3 A3 K3 hkv
      generalize readsA op d n m imm = L at HN HNM O4 ⊢
      go_wp2_with fail
      go_loopw [84] (fun u wr => ∃ q : Nat, q ≤ L.length ∧ u = .int .i64 q ∧ (∀ p, p < q → ¬ L.getD p 0 = (kk : Int)) ∧ Kp w4 wr) (fun u _ => L.length - (intOf u).toNat)
      case atStart => exact ⟨0, by omega, rfl, fun p hp => absurd hp (by omega), Kp.refl _⟩
      case round =>
        obtain ⟨q, hq, rfl, hno, hkp⟩ := hrel
        by_cases hqe : q = L.length
        · subst hqe
          obtain ⟨B, hBd, hBo, hBw⟩ := HNM.out hno
          have HBD := Lib.hid hBd
          have HBO := Lib.hid hBo
          have HBW := Lib.hid hBw
          have I5 := Lib.hid (I4.out.kp hkp)
          have R5 := Lib.hid (R4.out.kp hkp)
          have A5 := Lib.hid (A4.out.kp hkp)
          have K5 := Lib.hid (K4.out.trans hkp)
          clear hBd hBo hBw HNM hno hkp hq I4 R4 A4 K4 O4
          obtain ⟨w5, rfl⟩ : ∃ w5 : World, w5 = wr := ⟨_, rfl⟩
          have zK := regL_at R kk HK8.out
          have hset := regL_put R kk (z.toNat : Int) z HK8.out rfl
          have k0 : (0 : Int) ≤ (kk : Int) := by omega
          have k8 : (kk : Int) < 8 := by have := HK8.out; omega
          go_wp2_with (first
            | (refine wpList_load_row rfl 35 (.tmp 6) rfl (w.heap.size + 1) rfl _ _ _ _ R5.out Tryd.underlying35 rfl (by kernel_rfl) ?_)
            | (refine wpList_store_row rfl 35 (.tmp 19) (.tmp 93) rfl w5.heap.size (regV R) rfl rfl 35 _ (heap_alloc_last _ _) (by kernel_rfl) rfl (regV_one _) ?_; rw [World.setRow_alloc_new])
            | (refine wpList_load_row rfl 24 (.tmp 5) rfl w.heap.size rfl _ _ _ _ (I5.out.alloc _) Tryd.underlying24 rfl (by kernel_rfl) ?_))
          refine (HBD.out _ (HT.out.kp (K5.out.alloc _ _))).mono ?_; rintro e w6 ⟨rfl, hg⟩
          have A6 := Lib.hid ((A5.out.alloc _).kp hg)
          have K6 : Hid (Kp w w6) := Lib.hid ((K5.out.alloc _ _).trans hg)
          clear hg zK hset I5 R5 A5 K5
          go_wp2_with (refine wpList_store_row rfl 35 (.tmp 20) (.tmp 102) rfl w6.heap.size (regV B) rfl rfl 35 _ (heap_alloc_last _ _) (by kernel_rfl) rfl (regV_one _) ?_; rw [World.setRow_alloc_new])
          have A7 := Lib.hid (A6.out.alloc (.cells (regV B) 35))
          have B7 := Lib.hid (Blk.new w6 (regV B) 35)
          have K7 : Hid (Kp w (w6.alloc (.cells (regV B) 35))) := Lib.hid (K6.out.alloc _ _)
          generalize hG2 : w6.heap.size = G2 at B7 ⊢
          clear hG2 A6 K6
          generalize w6.alloc (.cells (regV B) 35) = w7 at A7 B7 K7 ⊢
          go_loopw [105] (fun u wr => ∃ j : Nat, j ≤ 8 ∧ u = .int .i64 j ∧ Kp w7 wr) (fun u _ => 8 - (intOf u).toNat)
          case atStart => exact ⟨0, by omega, rfl, Kp.refl _⟩
          case round =>
            obtain ⟨j, hj, rfl, hkp⟩ := hrel
            by_cases h8 : j = 8
            · subst h8
              have K8 := Lib.hid (K7.out.trans hkp)
              clear hkp hj k0 k8
              go_wp2_with fail
              refine (wakes_any _ (HT.out.kp K8.out)).mono ?_; rintro e w8 ⟨rfl, hg⟩
              have K9 := Lib.hid (K8.out.trans hg)
              clear hg
              go_wp2_with fail
              go_ret
              exact ⟨rfl, K9.out⟩
            · have hj8 : j < 8 := by omega
              have j0 : (0 : Int) ≤ (j : Int) := by omega
              have j8 : (j : Int) < 8 := by omega
              have ca : wr.drew.cell? ⟨G, j, none⟩ = some (.int .u64 (A j).toNat) := ((A7.out.kp hkp.drew).cell j).trans (regV_at A j hj8)
              have cb : wr.drew.cell? ⟨G2, j, none⟩ = some (.int .u64 (B j).toNat) := ((B7.out.kp hkp.drew).cell j).trans (regV_at B j hj8)
              have H8 := Lib.hid hj8
              have HD := Lib.hid hkp.drew
              clear hj h8 hj8 hkp
              by_cases hjk : j = kk
              · subst hjk
                rcases wb with _ | _
                · go_wp2_with fail
                  refine wp_region_still_tail 33 (by kernel_rfl) (by kernel_rfl) ?_
                  simp only [List.take_succ_cons, List.take_zero, List.drop_succ_cons, List.drop_zero]
                  refine still_of_quiet wr.drew _ _ ?_
                  generalize wr.drew = wd at ca cb ⊢
                  repeat (go_big_quiet_step (fail))
                  refine wpQuiet_nil ?_
                  go_wp2_with fail
                  go_roundw
                  case rel => exact ⟨j + 1, by have := H8.out; omega, by go_num, HD.out⟩
                  case measure => have := H8.out; simp [intOf]; omega
                · by_cases hw : wi = (j : Int)
                  · rw [HBW.out rfl hw] at ca
                    have hwb : (wi == (j : Int)) = true := by rw [beq_iff_eq]; exact hw
                    clear hw
                    go_wp2_with fail
                    refine wp_region_still_tail 33 (by kernel_rfl) (by kernel_rfl) ?_
                    simp only [List.take_succ_cons, List.take_zero, List.drop_succ_cons, List.drop_zero]
                    refine still_of_quiet wr.drew _ _ ?_
                    generalize wr.drew = wd at ca cb ⊢
                    repeat (go_big_quiet_step (fail))
                    refine wpQuiet_nil ?_
                    go_wp2_with fail
                    go_roundw
                    case rel => exact ⟨j + 1, by have := H8.out; omega, by go_num, HD.out⟩
                    case measure => have := H8.out; simp [intOf]; omega
                  · have hwb : (wi == (j : Int)) = false := by rw [beq_eq_false_iff_ne]; exact hw
                    clear hw
                    go_wp2_with fail
                    refine wp_region_still_tail 33 (by kernel_rfl) (by kernel_rfl) ?_
                    simp only [List.take_succ_cons, List.take_zero, List.drop_succ_cons, List.drop_zero]
                    refine still_of_quiet wr.drew _ _ ?_
                    generalize wr.drew = wd at ca cb ⊢
                    repeat (go_big_quiet_step (fail))
                    refine wpQuiet_nil ?_
                    go_wp2_with fail
                    go_roundw
                    case rel => exact ⟨j + 1, by have := H8.out; omega, by go_num, HD.out⟩
                    case measure => have := H8.out; simp [intOf]; omega
              · rw [HBO.out j H8.out hjk] at ca
                have hb1 : ((j : Int) == (kk : Int)) = false := by rw [beq_eq_false_iff_ne]; omega
                have hb2 : ((j : Int) != (kk : Int)) = true := by rw [bne_iff_ne]; omega
                clear hjk
                go_wp2_with fail
                refine wp_region_still_tail 33 (by kernel_rfl) (by kernel_rfl) ?_
                simp only [List.take_succ_cons, List.take_zero, List.drop_succ_cons, List.drop_zero]
                refine still_of_quiet wr.drew _ _ ?_
                generalize wr.drew = wd at ca cb ⊢
                repeat (go_big_quiet_step (fail))
                refine wpQuiet_nil ?_
                go_wp2_with fail
                go_roundw
                case rel => exact ⟨j + 1, by have := H8.out; omega, by go_num, HD.out⟩
                case measure => have := H8.out; simp [intOf]; omega
        · have hlt : q < L.length := by omega
          obtain ⟨g, rfl⟩ := O4.out.some (by omega)
          have cq := (O4.out.kp hkp).at q hlt
          have q0 : (0 : Int) ≤ (q : Int) := by omega
          have q1 : (q : Int) < (L.length : Int) := by omega
          have q2 : (q : Int) < 100 := by have := HN.out; omega
          have HNO := Lib.hid hno
          have HKP := Lib.hid hkp
          have HLT := Lib.hid hlt
          clear hq hqe hlt hno hkp
          obtain ⟨y, hyv⟩ : ∃ y, L.getD q 0 = y := ⟨_, rfl⟩
          rw [hyv] at cq
          have HYV := Lib.hid hyv; clear hyv
          by_cases hy : y = (kk : Int)
          · subst hy
            go_wp2_with fail
            refine (wakes_any _ (HT.out.kp (K4.out.trans HKP.out))).mono ?_; rintro e w8 ⟨rfl, hg⟩
            have K9 := Lib.hid ((K4.out.trans HKP.out).trans hg)
            clear hg
            go_wp2_with fail
            go_ret
            exact ⟨rfl, K9.out⟩
          · have HY := Lib.hid hy
            go_wp2_with fail
            go_roundw
            case rel => exact ⟨q + 1, HLT.out, by go_num, fun p hp => if h : p = q then h ▸ (HYV.out ▸ HY.out) else HNO.out p (by omega), HKP.out⟩
            case measure => have := HLT.out; simp [intOf]; omega
    · have hj8 : j < 8 := by omega
      have j0 : (0 : Int) ≤ (j : Int) := by omega
      have j8 : (j : Int) < 8 := by omega
      have HK1 := Lib.hid hkp
      have ca : wr.drew.cell? ⟨G, j, none⟩ = some (.int .u64 (A j).toNat) := ((A2.out.kp hkp.drew).cell j).trans (regV_at A j hj8)
      have cr : wr.drew.cell? ⟨w.heap.size + 1, j, none⟩ = some (.int .u64 (R j).toNat) := ((R2.out.kp hkp.drew).cell j).trans (regV_at R j hj8)
      have H8 := Lib.hid hj8
      have HD := Lib.hid hkp.drew
      clear hj h8 hj8 hkp
      by_cases he : A j = R j
      · rw [he] at ca
        clear he
        go_wp2_with fail
        refine wp_region_still_tail 15 (by kernel_rfl) (by kernel_rfl) ?_
        simp only [List.take_succ_cons, List.take_zero, List.drop_succ_cons, List.drop_zero]
        refine still_of_quiet wr.drew _ _ ?_
        generalize wr.drew = wd at ca cr ⊢
        repeat (go_big_quiet_step (fail))
        refine wpQuiet_nil ?_
        go_wp2_with fail
        go_roundw
        case rel => exact ⟨j + 1, by have := H8.out; omega, by go_num, HD.out⟩
        case measure => have := H8.out; simp [intOf]; omega
      · have hne := neq_regs _ _ he
        obtain ⟨rfl, hwj⟩ := (HF.out j H8.out).resolve_left he
        subst hwj
        clear he
        go_wp2_with fail
        refine wp_region_still_tail 15 (by kernel_rfl) (by kernel_rfl) ?_
        simp only [List.take_succ_cons, List.take_zero, List.drop_succ_cons, List.drop_zero]
        refine still_of_quiet wr.drew _ _ ?_
        generalize wr.drew = wd at ca cr ⊢
        repeat (go_big_quiet_step (fail))
        refine wpQuiet_nil ?_
        go_wp2_with fail
        go_roundw
        case rel => exact ⟨j + 1, by have := H8.out; omega, by go_num, HD.out⟩
        case measure => have := H8.out; simp [intOf]; omega
end Go.Proofs.YtieffpgiliebmaaDoor
