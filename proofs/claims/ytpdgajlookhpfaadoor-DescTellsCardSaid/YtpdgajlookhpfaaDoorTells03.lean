/-
  DescTells returns true. No condition but the tables of package desc.
-/
import Derived.Test.YtpdgajlookhpfaaDoorDescMath
namespace Go.Proofs.YtpdgajlookhpfaaDoor
open Go Go.RowKit

theorem dV_open (x : BitVec 64) (l : Int) : dV x l = .agg #[.int .i8 (dK x l), .int .i64 (dF x l), .bool (dB x l 10), .bool (dB x l 7), .bool (dB x l 6), .bool (dB x l 11)] := rfl
set_option maxHeartbeats 2000000 in
theorem walkTells (k f : Int) (af ro us ng : Bool) (a1 a2 a3 : Int) (w : World) (hT : TabsOk w) (hk : (Lit.int .i8 k).wf = true) (hf : (Lit.int .i64 f).wf = true) (w1 : (Lit.int .u64 a1).wf = true) (w2 : (Lit.int .u64 a2).wf = true) :
    Calls Tryd.prog 3 #[.agg #[.int .i8 k, .int .i64 f, .bool af, .bool ro, .bool us, .bool ng], .int .u64 a1, .int .u64 a2, .int .i64 a3] w fun e w' => e = .returned (.bool true) ∧ Kp w w' := by
  obtain ⟨x, rfl⟩ := word_of a1 w1
  obtain ⟨v, rfl⟩ := word_of a2 w2
  have HT := Lib.hid hT; clear hT
  have HK := Lib.hid hk; clear hk
  have HF := Lib.hid hf; clear hf
  clear w1 w2
  go_enter Tryd.func3, Tryd.ntmps3
  go_wp2_with fail
  refine (encode_any k f af ro us ng _ (HT.out.kp ((Kp.refl _).alloc _ _)) HK.out HF.out).mono ?_; rintro e w1 ⟨rfl, hg⟩
  have H1 := Lib.hid hg; clear hg
  have T1 := Lib.hid ((HT.out.kp ((Kp.refl _).alloc _ _)).kp H1.out)
  have b1 := (Blk.new w #[.int .i8 k, .int .i64 f, .bool af, .bool ro, .bool us, .bool ng] 24).kp H1.out
  have z0 := b1.cell 0
  have z1 := b1.cell 1
  have z2 := b1.cell 2
  have z3 := b1.cell 3
  have z4 := b1.cell 4
  have z5 := b1.cell 5
  simp at z0 z1 z2 z3 z4 z5
  clear b1
  go_wp2_with fail
  refine (rencode_any k f af ro us ng _).mono ?_; rintro e w2 ⟨rfl, hg⟩
  have H2 := Lib.hid hg; clear hg
  clear z0 z1 z2 z3 z4 z5
  go_wp2_with fail
  refine (decode_any x a3 _ (T1.out.kp H2.out)).mono ?_; rintro e w3 ⟨rfl, hg⟩
  have H3 := Lib.hid hg; clear hg
  rw [dV_open]
  go_wp2_with fail
  refine (rdecode_any x a3 _).mono ?_; rintro e w4 ⟨rfl, hg⟩
  have H4 := Lib.hid hg; clear hg
  rw [dV_open]
  go_wp2_with fail
  refine (touch_any x _ ((((T1.out.kp H2.out).kp H3.out).kp (((Kp.refl _).alloc _ _).trans H4.out)).kp ((Kp.refl _).alloc _ _))).mono ?_; rintro e w5 ⟨rfl, hg⟩
  have H5 := Lib.hid hg; clear hg
  go_wp2_with fail
  refine (rtouch_any x _).mono ?_; rintro e w6 ⟨rfl, hg⟩
  have H6 := Lib.hid hg; clear hg
  have A := ((((Blk.new w3 #[.int .i8 (dK x a3), .int .i64 (dF x a3), .bool (dB x a3 10), .bool (dB x a3 7), .bool (dB x a3 6), .bool (dB x a3 11)] 24).kp H4.out).alloc (.cells #[.int .i8 (dK x a3), .int .i64 (dF x a3), .bool (dB x a3 10), .bool (dB x a3 7), .bool (dB x a3 6), .bool (dB x a3 11)] 24)).kp H5.out).kp H6.out
  have B := ((Blk.new w4 #[.int .i8 (dK x a3), .int .i64 (dF x a3), .bool (dB x a3 10), .bool (dB x a3 7), .bool (dB x a3 6), .bool (dB x a3 11)] 24).kp H5.out).kp H6.out
  have a0 := A.cell 0
  have b0 := B.cell 0
  have a1 := A.cell 1
  have b1 := B.cell 1
  have a2 := A.cell 2
  have b2 := B.cell 2
  have a3' := A.cell 3
  have b3 := B.cell 3
  have a4 := A.cell 4
  have b4 := B.cell 4
  have a5 := A.cell 5
  have b5 := B.cell 5
  simp at a0 a1 a2 a3' a4 a5 b0 b1 b2 b3 b4 b5
  have T6 := Lib.hid ((((((T1.out.kp H2.out).kp H3.out).kp (((Kp.refl _).alloc _ _).trans H4.out)).kp ((Kp.refl _).alloc _ _)).kp H5.out).kp H6.out)
  clear A B
  go_wp2_with fail
  refine (differ_any x v _ T6.out).mono ?_; rintro e w7 ⟨rfl, hg⟩
  have H7 := Lib.hid hg; clear hg
  go_wp2_with fail
  refine (rdiffer_any x v _).mono ?_; rintro e w8 ⟨rfl, hg⟩
  have H8 := Lib.hid hg; clear hg
  go_wp2_with fail
  refine (wakes03_any _ ((T6.out.kp H7.out).kp H8.out)).mono ?_; rintro e w9 ⟨rfl, hg⟩
  have H9 := Lib.hid hg; clear hg
  go_wp2_with fail
  go_ret
  exact ⟨rfl, (by (repeat (first | apply Kp.drew | apply Kp.alloc)); refine Kp.trans ?_ H9.out; (repeat (first | apply Kp.drew | apply Kp.alloc)); refine Kp.trans ?_ H8.out; (repeat (first | apply Kp.drew | apply Kp.alloc)); refine Kp.trans ?_ H7.out; (repeat (first | apply Kp.drew | apply Kp.alloc)); refine Kp.trans ?_ H6.out; (repeat (first | apply Kp.drew | apply Kp.alloc)); refine Kp.trans ?_ H5.out; (repeat (first | apply Kp.drew | apply Kp.alloc)); refine Kp.trans ?_ H4.out; (repeat (first | apply Kp.drew | apply Kp.alloc)); refine Kp.trans ?_ H3.out; (repeat (first | apply Kp.drew | apply Kp.alloc)); refine Kp.trans ?_ H2.out; (repeat (first | apply Kp.drew | apply Kp.alloc)); refine Kp.trans ?_ H1.out; (repeat (first | apply Kp.drew | apply Kp.alloc)); exact Kp.refl _)⟩
end Go.Proofs.YtpdgajlookhpfaaDoor
