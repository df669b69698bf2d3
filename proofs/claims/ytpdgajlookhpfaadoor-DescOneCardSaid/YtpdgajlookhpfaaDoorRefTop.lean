/-
  The document's own Touch and Differ, and what the document says of three words ('wakes'). No condition but the tables of package desc.
-/
import Derived.Test.YtpdgajlookhpfaaDoorRefDec
namespace Go.Proofs.YtpdgajlookhpfaaDoor
open Go Go.RowKit

theorem flg_bit (x : BitVec 64) (j : Nat) : flg x j = x.getLsbD j := by
  show _ = x.toNat.testBit j
  rw [Nat.testBit_eq_decide_div_mod_eq]
  rfl
theorem k1024_bit (i : Nat) : (1024#64).getLsbD i = decide (i = 10) := by
  show (1024 % 2 ^ 64 : Nat).testBit i = decide (i = 10)
  rw [show (1024 % 2 ^ 64 : Nat) = 2 ^ 10 by decide, Nat.testBit_two_pow]
  simp [eq_comm]
theorem touch_num (x : BitVec 64) (h : flg x 10 = false) : IntKind.u64.wrap ((x.toNat : Int) + 1024) = ((x ||| 1024#64).toNat : Int) := by
  have hz : x &&& 1024#64 = 0#64 := by
    apply BitVec.eq_of_getLsbD_eq
    intro i hi
    rw [BitVec.getLsbD_and, k1024_bit]
    by_cases c : i = 10
    · subst c; rw [← flg_bit, h]; rfl
    · simp [c]
  rw [← BitVec.add_eq_or_of_and_eq_zero _ _ hz, BitVec.toNat_add, IntKind.wrap_u64]
  simp
theorem rtouch_any (x : BitVec 64) (w : World) :
    Calls Tryd.prog 12 #[.int .u64 x.toNat] w fun e w' => e = .returned (.tuple #[.int .u64 (tW x).toNat, .bool (tB x)]) ∧ Kp w w' := by
  cases hp : pg x with
  | false =>
    have hb : tB x = false := by simp [tB, hp]
    rw [tops_no x hb, hb]
    clear hb
    have HP := Lib.hid (pg_no x hp); clear hp
    go_enter Tryd.func12, Tryd.ntmps12
    go_wp2_with fail
    refine (rdecode_any x 3 _).mono ?_; rintro e w1 ⟨rfl, hg⟩
    have H1 := Lib.hid hg; clear hg
    rw [HP.out.1]
    rcases HP.out.2 with he | he
    all_goals
      rw [he]
      clear he
      go_wp2_with fail
      go_ret2
      exact ⟨rfl, H1.out.alloc _ _⟩
  | true =>
    cases hf : flg x 10 with
    | true =>
      have hb : tB x = false := by simp [tB, hf]
      rw [tops_no x hb, hb]
      clear hb
      have HP := Lib.hid (pg_yes x hp); clear hp
      have HF := Lib.hid hf; clear hf
      go_enter Tryd.func12, Tryd.ntmps12
      go_wp2_with fail
      refine (rdecode_any x 3 _).mono ?_; rintro e w2 ⟨rfl, hg⟩
      have H2 := Lib.hid hg; clear hg
      rw [HP.out.1, HP.out.2, HF.out]
      go_wp2_with fail
      go_ret2
      exact ⟨rfl, H2.out.alloc _ _⟩
    | false =>
      have hb : tB x = true := by simp [tB, hp, hf]
      rw [tops_yes x hb, hb]
      clear hb
      have HP := Lib.hid (pg_yes x hp); clear hp
      have HN := Lib.hid (touch_num x hf)
      have HF := Lib.hid hf; clear hf
      go_enter Tryd.func12, Tryd.ntmps12
      go_wp2_with fail
      refine (rdecode_any x 3 _).mono ?_; rintro e w3 ⟨rfl, hg⟩
      have H3 := Lib.hid hg; clear hg
      rw [HP.out.1, HP.out.2, HF.out]
      go_wp2_with fail
      go_ret2
      exact ⟨ret_ib HN.out, H3.out.alloc _ _⟩
theorem rdiffer_any (a b : BitVec 64) (w : World) :
    Calls Tryd.prog 14 #[.int .u64 a.toNat, .int .u64 b.toNat] w fun e w' => e = .returned (.bool (dif a b)) ∧ Kp w w' := by
  cases hp : pg a with
  | false =>
    have hb : dif a b = false := by simp [dif, hp]
    rw [hb]
    clear hb
    have HP := Lib.hid (pg_no a hp); clear hp
    cases hq : pg b with
    | false =>
      have HQ := Lib.hid (pg_no b hq); clear hq
      go_enter Tryd.func14, Tryd.ntmps14
      go_wp2_with fail
      refine (rdecode_any a 3 _).mono ?_; rintro e w1 ⟨rfl, hg⟩
      have H1 := Lib.hid hg; clear hg
      rw [HP.out.1]
      go_wp2_with fail
      refine (rdecode_any b 3 _).mono ?_; rintro e w2 ⟨rfl, hg⟩
      have H2 := Lib.hid hg; clear hg
      rw [HQ.out.1]
      have c1 := ((Blk.new w1 #[.int .i8 0, .int .i64 0, .bool false, .bool false, .bool false, .bool false] 24).kp H2.out).cell 0
      simp at c1
      have z : w1.heap.size < w2.heap.size := Nat.lt_of_lt_of_le (by simp) H2.out.size
      rcases HP.out.2 with he | he
      all_goals
        rw [he]
        clear he
        rcases HQ.out.2 with he | he
        all_goals
          rw [he]
          clear he
          go_wp2_with fail
          go_ret
          exact ⟨rfl, (by (repeat (first | apply Kp.drew | apply Kp.alloc)); refine Kp.trans ?_ H2.out; (repeat (first | apply Kp.drew | apply Kp.alloc)); refine Kp.trans ?_ H1.out; (repeat (first | apply Kp.drew | apply Kp.alloc)); exact Kp.refl _)⟩
    | true =>
      have HQ := Lib.hid (pg_yes b hq); clear hq
      go_enter Tryd.func14, Tryd.ntmps14
      go_wp2_with fail
      refine (rdecode_any a 3 _).mono ?_; rintro e w3 ⟨rfl, hg⟩
      have H3 := Lib.hid hg; clear hg
      rw [HP.out.1]
      go_wp2_with fail
      refine (rdecode_any b 3 _).mono ?_; rintro e w4 ⟨rfl, hg⟩
      have H4 := Lib.hid hg; clear hg
      rw [HQ.out.1, HQ.out.2]
      have c1 := ((Blk.new w3 #[.int .i8 0, .int .i64 0, .bool false, .bool false, .bool false, .bool false] 24).kp H4.out).cell 0
      simp at c1
      have z : w3.heap.size < w4.heap.size := Nat.lt_of_lt_of_le (by simp) H4.out.size
      rcases HP.out.2 with he | he
      all_goals
        rw [he]
        clear he
        go_wp2_with fail
        go_ret
        exact ⟨rfl, (by (repeat (first | apply Kp.drew | apply Kp.alloc)); refine Kp.trans ?_ H4.out; (repeat (first | apply Kp.drew | apply Kp.alloc)); refine Kp.trans ?_ H3.out; (repeat (first | apply Kp.drew | apply Kp.alloc)); exact Kp.refl _)⟩
  | true =>
    cases hq : pg b with
    | false =>
      have hb : dif a b = false := by simp [dif, hq]
      rw [hb]
      clear hb
      have HP := Lib.hid (pg_yes a hp); clear hp
      have HQ := Lib.hid (pg_no b hq); clear hq
      go_enter Tryd.func14, Tryd.ntmps14
      go_wp2_with fail
      refine (rdecode_any a 3 _).mono ?_; rintro e w5 ⟨rfl, hg⟩
      have H5 := Lib.hid hg; clear hg
      rw [HP.out.1, HP.out.2]
      go_wp2_with fail
      refine (rdecode_any b 3 _).mono ?_; rintro e w6 ⟨rfl, hg⟩
      have H6 := Lib.hid hg; clear hg
      rw [HQ.out.1]
      have c1 := ((Blk.new w5 #[.int .i8 2, .int .i64 (frN a), .bool (flg a 10), .bool (flg a 7), .bool (flg a 6), .bool (flg a 11)] 24).kp H6.out).cell 0
      simp at c1
      have z : w5.heap.size < w6.heap.size := Nat.lt_of_lt_of_le (by simp) H6.out.size
      rcases HQ.out.2 with he | he
      all_goals
        rw [he]
        clear he
        go_wp2_with fail
        go_ret
        exact ⟨rfl, (by (repeat (first | apply Kp.drew | apply Kp.alloc)); refine Kp.trans ?_ H6.out; (repeat (first | apply Kp.drew | apply Kp.alloc)); refine Kp.trans ?_ H5.out; (repeat (first | apply Kp.drew | apply Kp.alloc)); exact Kp.refl _)⟩
    | true =>
      have hb : dif a b = !decide ((frN a : Int) = (frN b : Int)) := by simp [dif, hp, hq]; omega
      rw [hb]
      clear hb
      have HP := Lib.hid (pg_yes a hp); clear hp
      have HQ := Lib.hid (pg_yes b hq); clear hq
      go_enter Tryd.func14, Tryd.ntmps14
      go_wp2_with fail
      refine (rdecode_any a 3 _).mono ?_; rintro e w7 ⟨rfl, hg⟩
      have H7 := Lib.hid hg; clear hg
      rw [HP.out.1, HP.out.2]
      go_wp2_with fail
      refine (rdecode_any b 3 _).mono ?_; rintro e w8 ⟨rfl, hg⟩
      have H8 := Lib.hid hg; clear hg
      rw [HQ.out.1, HQ.out.2]
      have B := (Blk.new w7 #[.int .i8 2, .int .i64 (frN a), .bool (flg a 10), .bool (flg a 7), .bool (flg a 6), .bool (flg a 11)] 24).kp H8.out
      have c0 := B.cell 0
      have c1 := B.cell 1
      simp at c0 c1
      have z : w7.heap.size < w8.heap.size := Nat.lt_of_lt_of_le (by simp) H8.out.size
      clear B
      go_wp2_with fail
      go_ret
      exact ⟨rfl, (by (repeat (first | apply Kp.drew | apply Kp.alloc)); refine Kp.trans ?_ H8.out; (repeat (first | apply Kp.drew | apply Kp.alloc)); refine Kp.trans ?_ H7.out; (repeat (first | apply Kp.drew | apply Kp.alloc)); exact Kp.refl _)⟩
theorem at5 : dV 20483#64 1 = .agg #[.int .i8 1, .int .i64 5, .bool false, .bool false, .bool false, .bool false] ∧ dE 20483#64 1 = 0 := by
  have h : DecOk 20483#64 1 := by decide +kernel
  have d := dec_good 20483#64 1 h.1 h.2.1 h.2.2
  refine ⟨?_, d.2⟩
  rw [d.1]
  rfl
theorem at54 : dV 21699#64 3 = .agg #[.int .i8 2, .int .i64 5, .bool true, .bool true, .bool true, .bool false] ∧ dE 21699#64 3 = 0 := by
  have h : DecOk 21699#64 3 := by decide +kernel
  have d := dec_good 21699#64 3 h.1 h.2.1 h.2.2
  refine ⟨?_, d.2⟩
  rw [d.1]
  rfl
theorem at51 : dV 20481#64 3 = .agg #[.int .i8 0, .int .i64 0, .bool false, .bool false, .bool false, .bool false] ∧ dE 20481#64 3 = 30 := by
  have h : ¬ WOk 20481#64 3 := by decide +kernel
  have d := dec_bad 20481#64 3 ⟨by decide, by decide⟩ (by decide) h
  exact d
theorem wakes03_any (w : World) (hT : TabsOk w) : Calls Tryd.prog 15 #[] w fun e w' => e = .returned (.bool true) ∧ Kp w w' := by
  have HT := Lib.hid hT; clear hT
  go_enter Tryd.func15, Tryd.ntmps15
  go_wp2_with fail
  refine (decode_any 20483#64 1 _ HT.out).mono ?_; rintro e w1 ⟨rfl, hg⟩
  have H1 := Lib.hid hg; clear hg
  rw [at5.1, at5.2]
  go_wp2_with fail
  refine (decode_any 21699#64 3 _ ((HT.out.kp H1.out).kp ((Kp.refl _).alloc _ _))).mono ?_; rintro e w2 ⟨rfl, hg⟩
  have H2 := Lib.hid hg; clear hg
  rw [at54.1, at54.2]
  go_wp2_with fail
  refine (decode_any 20481#64 3 _ ((((HT.out.kp H1.out).kp ((Kp.refl _).alloc _ _)).kp H2.out).kp ((Kp.refl _).alloc _ _))).mono ?_; rintro e w3 ⟨rfl, hg⟩
  have H3 := Lib.hid hg; clear hg
  rw [at51.1, at51.2]
  have A := (((Blk.new w1 #[.int .i8 1, .int .i64 5, .bool false, .bool false, .bool false, .bool false] 24).kp H2.out).alloc (.cells #[.int .i8 2, .int .i64 5, .bool true, .bool true, .bool true, .bool false] 24)).kp H3.out
  have B := (Blk.new w2 #[.int .i8 2, .int .i64 5, .bool true, .bool true, .bool true, .bool false] 24).kp H3.out
  have a0 := A.cell 0
  have b0 := B.cell 0
  have a1 := A.cell 1
  have b1 := B.cell 1
  have a2 := A.cell 2
  have b2 := B.cell 2
  have a3 := A.cell 3
  have b3 := B.cell 3
  have a4 := A.cell 4
  have b4 := B.cell 4
  have a5 := A.cell 5
  have b5 := B.cell 5
  simp at a0 a1 a2 a3 a4 a5 b0 b1 b2 b3 b4 b5
  have z1 : w1.heap.size < w3.heap.size := A.lt
  have z2 : w2.heap.size < w3.heap.size := B.lt
  clear A B
  go_wp2_with fail
  go_ret
  exact ⟨rfl, (by (repeat (first | apply Kp.drew | apply Kp.alloc)); refine Kp.trans ?_ H3.out; (repeat (first | apply Kp.drew | apply Kp.alloc)); refine Kp.trans ?_ H2.out; (repeat (first | apply Kp.drew | apply Kp.alloc)); refine Kp.trans ?_ H1.out; (repeat (first | apply Kp.drew | apply Kp.alloc)); exact Kp.refl _)⟩
end Go.Proofs.YtpdgajlookhpfaaDoor
