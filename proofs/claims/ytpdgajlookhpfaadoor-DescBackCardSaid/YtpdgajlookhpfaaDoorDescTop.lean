/-
  The contracts of package desc's page, Touch and Differ, for every word, where the tables hold what the program's text lays. No condition.
-/
import Derived.Test.YtpdgajlookhpfaaDoorDescDec
namespace Go.Proofs.YtpdgajlookhpfaaDoor
open Go Go.RowKit

def pg (x : BitVec 64) : Bool := decide (DecOk x 3)
def tB (x : BitVec 64) : Bool := pg x && !flg x 10
def tW (x : BitVec 64) : BitVec 64 := if tB x then x ||| 1024#64 else x
def dif (a b : BitVec 64) : Bool := pg a && pg b && !decide (frN a = frN b)
theorem pg_yes (x : BitVec 64) (h : pg x = true) : dV x 3 = .agg #[.int .i8 2, .int .i64 (frN x), .bool (flg x 10), .bool (flg x 7), .bool (flg x 6), .bool (flg x 11)] ∧ dE x 3 = 0 := by
  have g : DecOk x 3 := of_decide_eq_true h
  exact dec_good x 3 g.1 g.2.1 g.2.2
theorem pg_no (x : BitVec 64) (h : pg x = false) : dV x 3 = .agg #[.int .i8 0, .int .i64 0, .bool false, .bool false, .bool false, .bool false] ∧ (dE x 3 = 0 ∨ dE x 3 = 30) := by
  have g : ¬ DecOk x 3 := of_decide_eq_false h
  by_cases hx : x.toNat % 2 = 0
  · have := dec_none x 3 ⟨by decide, by decide⟩ hx
    exact ⟨this.1, .inl this.2⟩
  · have := dec_bad x 3 ⟨by decide, by decide⟩ (by omega) (fun hw => g ⟨⟨by decide, by decide⟩, by omega, hw⟩)
    exact ⟨this.1, .inr this.2⟩
theorem page_yes (x : BitVec 64) (w : World) (hT : TabsOk w) (h : pg x = true) :
    Calls Tryd.prog 20 #[.int .u64 x.toNat] w fun e w' => e = .returned (.tuple #[.agg #[.int .i8 2, .int .i64 (frN x), .bool (flg x 10), .bool (flg x 7), .bool (flg x 6), .bool (flg x 11)], .bool true]) ∧ Kp w w' := by
  have HP := Lib.hid (pg_yes x h); clear h
  have HT := Lib.hid hT; clear hT
  go_enter Tryd.func20, Tryd.ntmps20
  go_wp2_with fail
  refine (decode_any x 3 _ (HT.out.kp ((Kp.refl _).alloc _ _))).mono ?_; rintro e w1 ⟨rfl, hg1⟩
  rw [HP.out.1, HP.out.2]
  have B0 := (Blk.new _ _ _).kp hg1
  have G1 := Lib.hid (Kp.trans ((Kp.refl w).alloc _ _) hg1); clear hg1
  have HB0 := Lib.hid B0; clear B0
  go_wp2
  have hlt : w.heap.size < w1.heap.size := HB0.out.lt
  have hne : ¬ w.heap.size = w1.heap.size := Nat.ne_of_lt hlt
  have hne' : ¬ w1.heap.size = w.heap.size := Nat.ne_of_gt hlt
  have C0 := HB0.out.alloc (.cells #[.int .i8 2, .int .i64 (frN x), .bool (flg x 10), .bool (flg x 7), .bool (flg x 6), .bool (flg x 11)] 24)
  have C1 := Blk.new w1 #[.int .i8 2, .int .i64 (frN x), .bool (flg x 10), .bool (flg x 7), .bool (flg x 6), .bool (flg x 11)] 24
  have G3 := G1.out.alloc #[.int .i8 2, .int .i64 (frN x), .bool (flg x 10), .bool (flg x 7), .bool (flg x 6), .bool (flg x 11)] 24
  generalize w1.alloc (.cells #[.int .i8 2, .int .i64 (frN x), .bool (flg x 10), .bool (flg x 7), .bool (flg x 6), .bool (flg x 11)] 24) = w2 at C0 C1 G3 ⊢
  have p0 := C0.cell 0
  have q0 := C0.frozen 0
  have r0 := C1.cell 0
  have p1 := C0.cell 1
  have q1 := C0.frozen 1
  have r1 := C1.cell 1
  have p2 := C0.cell 2
  have q2 := C0.frozen 2
  have r2 := C1.cell 2
  have p3 := C0.cell 3
  have q3 := C0.frozen 3
  have r3 := C1.cell 3
  have p4 := C0.cell 4
  have q4 := C0.frozen 4
  have r4 := C1.cell 4
  have p5 := C0.cell 5
  have q5 := C0.frozen 5
  have r5 := C1.cell 5
  simp at p0 p1 p2 p3 p4 p5 r0 r1 r2 r3 r4 r5
  have HC := Lib.hid C0; clear C0 C1
  have HG := Lib.hid G3; clear G3
  go_region
  go_wp2
  have B3 := ((((((HC.out.set 0 (.int .i8 2)).set 1 (.int .i64 (frN x))).set 2 (.bool (flg x 10))).set 3 (.bool (flg x 7))).set 4 (.bool (flg x 6))).set 5 (.bool (flg x 11))).drew
  have B3 : Blk _ _ #[.int .i8 2, .int .i64 (frN x), .bool (flg x 10), .bool (flg x 7), .bool (flg x 6), .bool (flg x 11)] _ := B3
  refine bodyPost_ret (results_cell_tmp rfl _ _ _ _ _ _ rfl B3 Tryd.underlying24 rfl (by kernel_rfl)) rfl ?_
  exact ⟨rfl, (((((((HG.out.setCell (Nat.le_refl _) _).setCell (Nat.le_refl _) _).setCell (Nat.le_refl _) _).setCell (Nat.le_refl _) _).setCell (Nat.le_refl _) _).setCell (Nat.le_refl _) _)).drew⟩
theorem page_no (x : BitVec 64) (w : World) (hT : TabsOk w) (h : pg x = false) :
    Calls Tryd.prog 20 #[.int .u64 x.toNat] w fun e w' => e = .returned (.tuple #[.agg #[.int .i8 0, .int .i64 0, .bool false, .bool false, .bool false, .bool false], .bool false]) ∧ Kp w w' := by
  have HP := Lib.hid (pg_no x h); clear h
  have HT := Lib.hid hT; clear hT
  go_enter Tryd.func20, Tryd.ntmps20
  go_wp2_with fail
  refine (decode_any x 3 _ (HT.out.kp ((Kp.refl _).alloc _ _))).mono ?_; rintro e w1 ⟨rfl, hg1⟩
  rw [HP.out.1]
  have B0 := (Blk.new _ _ _).kp hg1
  have G1 := Lib.hid (Kp.trans ((Kp.refl w).alloc _ _) hg1); clear hg1
  have HB0 := Lib.hid B0; clear B0
  rcases HP.out.2 with he | he
  all_goals
    rw [he]
    clear he
    go_wp2
    have hlt : w.heap.size < w1.heap.size := HB0.out.lt
    have hne : ¬ w.heap.size = w1.heap.size := Nat.ne_of_lt hlt
    have hne' : ¬ w1.heap.size = w.heap.size := Nat.ne_of_gt hlt
    have C0 := HB0.out.alloc (.cells #[.int .i8 0, .int .i64 0, .bool false, .bool false, .bool false, .bool false] 24)
    have C1 := Blk.new w1 #[.int .i8 0, .int .i64 0, .bool false, .bool false, .bool false, .bool false] 24
    have G3 := G1.out.alloc #[.int .i8 0, .int .i64 0, .bool false, .bool false, .bool false, .bool false] 24
    generalize w1.alloc (.cells #[.int .i8 0, .int .i64 0, .bool false, .bool false, .bool false, .bool false] 24) = w2 at C0 C1 G3 ⊢
    have p0 := C0.cell 0
    have q0 := C0.frozen 0
    have r0 := C1.cell 0
    have p1 := C0.cell 1
    have q1 := C0.frozen 1
    have r1 := C1.cell 1
    have p2 := C0.cell 2
    have q2 := C0.frozen 2
    have r2 := C1.cell 2
    have p3 := C0.cell 3
    have q3 := C0.frozen 3
    have r3 := C1.cell 3
    have p4 := C0.cell 4
    have q4 := C0.frozen 4
    have r4 := C1.cell 4
    have p5 := C0.cell 5
    have q5 := C0.frozen 5
    have r5 := C1.cell 5
    simp at p0 p1 p2 p3 p4 p5 r0 r1 r2 r3 r4 r5
    have HC := Lib.hid C0; clear C0 C1
    have HG := Lib.hid G3; clear G3
    go_region
    go_wp2
    have B3 := ((((((HC.out.set 0 (.int .i8 0)).set 1 (.int .i64 0)).set 2 (.bool false)).set 3 (.bool false)).set 4 (.bool false)).set 5 (.bool false)).drew
    have B3 : Blk _ _ #[.int .i8 0, .int .i64 0, .bool false, .bool false, .bool false, .bool false] _ := B3
    refine bodyPost_ret (results_cell_tmp rfl _ _ _ _ _ _ rfl B3 Tryd.underlying24 rfl (by kernel_rfl)) rfl ?_
    exact ⟨rfl, (((((((HG.out.setCell (Nat.le_refl _) _).setCell (Nat.le_refl _) _).setCell (Nat.le_refl _) _).setCell (Nat.le_refl _) _).setCell (Nat.le_refl _) _).setCell (Nat.le_refl _) _)).drew⟩
theorem ret_ib {k : IntKind} {a b : Int} {c : Bool} (h : a = b) : Ending.returned (.tuple #[.int k a, .bool c]) = .returned (.tuple #[.int k b, .bool c]) := by rw [h]
theorem tops_no (x : BitVec 64) (h : tB x = false) : tW x = x := if_neg (by rw [h]; decide)
theorem tops_yes (x : BitVec 64) (h : tB x = true) : tW x = x ||| 1024#64 := if_pos h
theorem touch_any (x : BitVec 64) (w : World) (hT : TabsOk w) :
    Calls Tryd.prog 11 #[.int .u64 x.toNat] w fun e w' => e = .returned (.tuple #[.int .u64 (tW x).toNat, .bool (tB x)]) ∧ Kp w w' := by
  have HT := Lib.hid hT; clear hT
  cases hp : pg x with
  | false =>
    have hb : tB x = false := by simp [tB, hp]
    rw [tops_no x hb, hb]
    clear hb
    have HP := Lib.hid hp; clear hp
    go_enter Tryd.func11, Tryd.ntmps11
    go_wp2_with fail
    refine (page_no x _ HT.out HP.out).mono ?_; rintro e w1 ⟨rfl, hg⟩
    have H1 := Lib.hid hg; clear hg
    go_wp2_with fail
    go_ret2
    exact ⟨rfl, H1.out.alloc _ _⟩
  | true =>
    cases hf : flg x 10 with
    | true =>
      have hb : tB x = false := by simp [tB, hf]
      rw [tops_no x hb, hb]
      clear hb
      have HP := Lib.hid hp; clear hp
      have HF := Lib.hid hf; clear hf
      go_enter Tryd.func11, Tryd.ntmps11
      go_wp2_with fail
      refine (page_yes x _ HT.out HP.out).mono ?_; rintro e w2 ⟨rfl, hg⟩
      have H2 := Lib.hid hg; clear hg
      rw [HF.out]
      go_wp2_with fail
      go_ret2
      exact ⟨rfl, H2.out.alloc _ _⟩
    | false =>
      have hb : tB x = true := by simp [tB, hp, hf]
      rw [tops_yes x hb, hb]
      clear hb
      have HP := Lib.hid hp; clear hp
      have HF := Lib.hid hf; clear hf
      have HN : Hid (bits BinOp.or IntKind.u64 (x.toNat : Int) 1024 = ((x ||| 1024#64).toNat : Int)) := Lib.hid (bv_or x 1024#64)
      go_enter Tryd.func11, Tryd.ntmps11
      go_wp2_with fail
      refine (page_yes x _ HT.out HP.out).mono ?_; rintro e w3 ⟨rfl, hg⟩
      have H3 := Lib.hid hg; clear hg
      rw [HF.out]
      have s7 := ((HT.out.kp H3.out).kp ((Kp.refl _).alloc #[.int .i8 2, .int .i64 (frN x), .bool false, .bool (flg x 7), .bool (flg x 6), .bool (flg x 11)] 24)).spots 7 _ rfl
      go_wp2_with fail
      go_ret2
      exact ⟨ret_ib HN.out, H3.out.alloc _ _⟩
theorem differ_any (a b : BitVec 64) (w : World) (hT : TabsOk w) :
    Calls Tryd.prog 13 #[.int .u64 a.toNat, .int .u64 b.toNat] w fun e w' => e = .returned (.bool (dif a b)) ∧ Kp w w' := by
  have HT := Lib.hid hT; clear hT
  cases hp : pg a with
  | false =>
    have hb : dif a b = false := by simp [dif, hp]
    rw [hb]
    clear hb
    have HP := Lib.hid hp; clear hp
    cases hq : pg b with
    | false =>
      have HQ := Lib.hid hq; clear hq
      go_enter Tryd.func13, Tryd.ntmps13
      go_wp2_with fail
      refine (page_no a _ HT.out HP.out).mono ?_; rintro e w1 ⟨rfl, hg⟩
      have H1 := Lib.hid hg; clear hg
      go_wp2_with fail
      refine (page_no b _ ((HT.out.kp H1.out).kp ((Kp.refl _).alloc _ _)) HQ.out).mono ?_; rintro e w2 ⟨rfl, hg⟩
      have H2 := Lib.hid hg; clear hg
      go_wp2_with fail
      go_ret
      exact ⟨rfl, (by (repeat (first | apply Kp.drew | apply Kp.alloc)); refine Kp.trans ?_ H2.out; (repeat (first | apply Kp.drew | apply Kp.alloc)); refine Kp.trans ?_ H1.out; (repeat (first | apply Kp.drew | apply Kp.alloc)); exact Kp.refl _)⟩
    | true =>
      have HQ := Lib.hid hq; clear hq
      go_enter Tryd.func13, Tryd.ntmps13
      go_wp2_with fail
      refine (page_no a _ HT.out HP.out).mono ?_; rintro e w3 ⟨rfl, hg⟩
      have H3 := Lib.hid hg; clear hg
      go_wp2_with fail
      refine (page_yes b _ ((HT.out.kp H3.out).kp ((Kp.refl _).alloc _ _)) HQ.out).mono ?_; rintro e w4 ⟨rfl, hg⟩
      have H4 := Lib.hid hg; clear hg
      go_wp2_with fail
      go_ret
      exact ⟨rfl, (by (repeat (first | apply Kp.drew | apply Kp.alloc)); refine Kp.trans ?_ H4.out; (repeat (first | apply Kp.drew | apply Kp.alloc)); refine Kp.trans ?_ H3.out; (repeat (first | apply Kp.drew | apply Kp.alloc)); exact Kp.refl _)⟩
  | true =>
    cases hq : pg b with
    | false =>
      have hb : dif a b = false := by simp [dif, hq]
      rw [hb]
      clear hb
      have HP := Lib.hid hp; clear hp
      have HQ := Lib.hid hq; clear hq
      go_enter Tryd.func13, Tryd.ntmps13
      go_wp2_with fail
      refine (page_yes a _ HT.out HP.out).mono ?_; rintro e w5 ⟨rfl, hg⟩
      have H5 := Lib.hid hg; clear hg
      go_wp2_with fail
      refine (page_no b _ ((HT.out.kp H5.out).kp ((Kp.refl _).alloc _ _)) HQ.out).mono ?_; rintro e w6 ⟨rfl, hg⟩
      have H6 := Lib.hid hg; clear hg
      go_wp2_with fail
      go_ret
      exact ⟨rfl, (by (repeat (first | apply Kp.drew | apply Kp.alloc)); refine Kp.trans ?_ H6.out; (repeat (first | apply Kp.drew | apply Kp.alloc)); refine Kp.trans ?_ H5.out; (repeat (first | apply Kp.drew | apply Kp.alloc)); exact Kp.refl _)⟩
    | true =>
      have hb : dif a b = !decide ((frN a : Int) = (frN b : Int)) := by simp [dif, hp, hq]; omega
      rw [hb]
      clear hb
      have HP := Lib.hid hp; clear hp
      have HQ := Lib.hid hq; clear hq
      go_enter Tryd.func13, Tryd.ntmps13
      go_wp2_with fail
      refine (page_yes a _ HT.out HP.out).mono ?_; rintro e w7 ⟨rfl, hg⟩
      have H7 := Lib.hid hg; clear hg
      go_wp2_with fail
      refine (page_yes b _ ((HT.out.kp H7.out).kp ((Kp.refl _).alloc _ _)) HQ.out).mono ?_; rintro e w8 ⟨rfl, hg⟩
      have H8 := Lib.hid hg; clear hg
      have c1 := ((Blk.new w7 #[.int .i8 2, .int .i64 (frN a), .bool (flg a 10), .bool (flg a 7), .bool (flg a 6), .bool (flg a 11)] 24).kp H8.out).cell 1
      simp at c1
      have z : w7.heap.size < w8.heap.size := Nat.lt_of_lt_of_le (by simp) H8.out.size
      go_wp2_with fail
      go_ret
      exact ⟨rfl, (by (repeat (first | apply Kp.drew | apply Kp.alloc)); refine Kp.trans ?_ H8.out; (repeat (first | apply Kp.drew | apply Kp.alloc)); refine Kp.trans ?_ H7.out; (repeat (first | apply Kp.drew | apply Kp.alloc)); exact Kp.refl _)⟩
end Go.Proofs.YtpdgajlookhpfaaDoor
