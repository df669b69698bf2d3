/-
  DescTouch returns true. No condition but the tables of package desc.
-/
import Derived.Test.YtpdgajlookhpfaaDoorDescMath
namespace Go.Proofs.YtpdgajlookhpfaaDoor
open Go Go.RowKit

theorem dV_open' (x : BitVec 64) (l : Int) : dV x l = .agg #[.int .i8 (dK x l), .int .i64 (dF x l), .bool (dB x l 10), .bool (dB x l 7), .bool (dB x l 6), .bool (dB x l 11)] := rfl
set_option maxHeartbeats 4000000 in
theorem touch_no (x v : BitVec 64) (w : World) (hT : TabsOk w) (h : tB x = false) :
    Calls Tryd.prog 5 #[.int .u64 x.toNat, .int .u64 v.toNat] w fun e w' => e = .returned (.bool true) ∧ Kp w w' := by
  have HT := Lib.hid hT; clear hT
  have H1 := Lib.hid (tops_no x h)
  have H2 := Lib.hid h; clear h
  go_enter Tryd.func5, Tryd.ntmps5
  go_wp2_with fail
  refine (touch_any x _ HT.out).mono ?_; rintro e w1 ⟨rfl, hg⟩
  rw [H1.out, H2.out]
  have G1 := Lib.hid hg; clear hg
  go_wp2_with fail
  refine (decode_any x 3 _ (HT.out.kp G1.out)).mono ?_; rintro e w2 ⟨rfl, hg⟩
  rw [dV_open']
  have G2 := Lib.hid (G1.out.trans hg); clear hg
  go_wp2_with fail
  refine (decode_any x 3 _ (HT.out.kp (G2.out.alloc _ _))).mono ?_; rintro e w3 ⟨rfl, hg⟩
  rw [dV_open']
  have G3 := Lib.hid ((G2.out.alloc _ _).trans hg); clear hg
  go_wp2_with fail
  refine (touch_any x _ (HT.out.kp (G3.out.alloc _ _))).mono ?_; rintro e w4 ⟨rfl, hg⟩
  rw [H1.out, H2.out]
  have G4 := Lib.hid ((G3.out.alloc _ _).trans hg); clear hg
  go_wp2_with fail
  refine (differ_any x x _ (HT.out.kp (G4.out))).mono ?_; rintro e y0 ⟨rfl, hg⟩
  rw [dif_self x]
  have G10 := Lib.hid ((G4.out).trans hg); clear hg
  go_wp2_with fail
  refine (differ_any x x _ (HT.out.kp (G10.out))).mono ?_; rintro e y1 ⟨rfl, hg⟩
  rw [dif_self x]
  have G11 := Lib.hid ((G10.out).trans hg); clear hg
  go_wp2_with fail
  refine (differ_any x v _ (HT.out.kp (G11.out))).mono ?_; rintro e y2 ⟨rfl, hg⟩
  have G12 := Lib.hid ((G11.out).trans hg); clear hg
  go_wp2_with fail
  refine (differ_any v x _ (HT.out.kp (G12.out))).mono ?_; rintro e y3 ⟨rfl, hg⟩
  rw [(dif_swap v x)]
  have G13 := Lib.hid ((G12.out).trans hg); clear hg
  go_wp2_with fail
  refine (wakes03_any _ (HT.out.kp G13.out)).mono ?_; rintro e y4 ⟨rfl, hg⟩
  have G14 := Lib.hid (G13.out.trans hg); clear hg
  go_wp2_with fail
  go_ret
  exact ⟨rfl, G14.out⟩
set_option maxHeartbeats 4000000 in
theorem touch_yes (x v : BitVec 64) (w : World) (hT : TabsOk w) (h : tB x = true) :
    Calls Tryd.prog 5 #[.int .u64 x.toNat, .int .u64 v.toNat] w fun e w' => e = .returned (.bool true) ∧ Kp w w' := by
  have HT := Lib.hid hT; clear hT
  have p0 := pg_yes x (touched x h).2.2.2
  rw [(touched x h).2.2.1] at p0
  have P0 := Lib.hid p0; clear p0
  have F := touched_fields x h
  have p1 := pg_yes (tW x) F.1
  rw [F.2.1, F.2.2.1, F.2.2.2.1, F.2.2.2.2.1, F.2.2.2.2.2] at p1
  have P1 := Lib.hid p1; clear p1 F
  have hx : bits BinOp.xor IntKind.u64 ((tW x).toNat : Int) (x.toNat : Int) = 1024 := by rw [bv_xor, touch_xor x h]; rfl
  have hz := again_no x
  have HZ := Lib.hid hz; clear hz
  have H2 := Lib.hid h; clear h
  go_enter Tryd.func5, Tryd.ntmps5
  go_wp2_with fail
  refine (touch_any x _ HT.out).mono ?_; rintro e w1 ⟨rfl, hg⟩
  rw [H2.out]
  have G1 := Lib.hid hg; clear hg
  go_wp2_with fail
  refine (decode_any x 3 _ (HT.out.kp G1.out)).mono ?_; rintro e w2 ⟨rfl, hg⟩
  rw [P0.out.1, P0.out.2]
  have G2 := Lib.hid (G1.out.trans hg); clear hg
  go_wp2_with fail
  refine (decode_any (tW x) 3 _ (HT.out.kp (G2.out.alloc _ _))).mono ?_; rintro e w3 ⟨rfl, hg⟩
  rw [P1.out.1, P1.out.2]
  have B0 := (Blk.new w2 #[.int .i8 2, .int .i64 (frN x), .bool false, .bool (flg x 7), .bool (flg x 6), .bool (flg x 11)] 24).kp hg
  have BA := Lib.hid B0; clear B0
  have G3 := Lib.hid ((G2.out.alloc _ _).trans hg); clear hg
  go_wp2_with fail
  refine (touch_any (tW x) _ (HT.out.kp (G3.out.alloc _ _))).mono ?_; rintro e w4 ⟨rfl, hg⟩
  rw [HZ.out]
  have C := (BA.out.alloc _).kp hg
  have E := (Blk.new w3 #[.int .i8 2, .int .i64 (frN x), .bool true, .bool (flg x 7), .bool (flg x 6), .bool (flg x 11)] 24).kp hg
  have c0 := C.cell 0
  have d0 := E.cell 0
  have c1 := C.cell 1
  have d1 := E.cell 1
  have c2 := C.cell 2
  have d2 := E.cell 2
  have c3 := C.cell 3
  have d3 := E.cell 3
  have c4 := C.cell 4
  have d4 := E.cell 4
  have c5 := C.cell 5
  have d5 := E.cell 5
  have z2 := C.frozen 2
  simp at c0 c1 c2 c3 c4 c5 d0 d1 d2 d3 d4 d5
  have hne : ¬ w2.heap.size = w3.heap.size := Nat.ne_of_lt BA.out.lt
  have hne' : ¬ w3.heap.size = w2.heap.size := Nat.ne_of_gt BA.out.lt
  have hl2 : w2.heap.size < w4.heap.size := C.lt
  have hl3 : w3.heap.size < w4.heap.size := E.lt
  have G4 := Lib.hid ((G3.out.alloc _ _).trans hg); clear hg C E
  have G5 : Hid (Kp w (w4.setCell ⟨w2.heap.size, 2, none⟩ (.bool true))) := Lib.hid (G4.out.setCell G2.out.size _)
  go_wp2_with fail
  refine (differ_any x x _ (HT.out.kp (G5.out))).mono ?_; rintro e y0 ⟨rfl, hg⟩
  rw [dif_self x]
  have G10 := Lib.hid ((G5.out).trans hg); clear hg
  go_wp2_with fail
  refine (differ_any x (tW x) _ (HT.out.kp (G10.out))).mono ?_; rintro e y1 ⟨rfl, hg⟩
  rw [dif_touch x]
  have G11 := Lib.hid ((G10.out).trans hg); clear hg
  go_wp2_with fail
  refine (differ_any x v _ (HT.out.kp (G11.out))).mono ?_; rintro e y2 ⟨rfl, hg⟩
  have G12 := Lib.hid ((G11.out).trans hg); clear hg
  go_wp2_with fail
  refine (differ_any v x _ (HT.out.kp (G12.out))).mono ?_; rintro e y3 ⟨rfl, hg⟩
  rw [(dif_swap v x)]
  have G13 := Lib.hid ((G12.out).trans hg); clear hg
  go_wp2_with fail
  refine (wakes03_any _ (HT.out.kp G13.out)).mono ?_; rintro e y4 ⟨rfl, hg⟩
  have G14 := Lib.hid (G13.out.trans hg); clear hg
  go_wp2_with fail
  go_ret
  exact ⟨rfl, G14.out⟩
theorem walkTouch (a0 a1 : Int) (w : World) (hT : TabsOk w) (w0 : (Lit.int .u64 a0).wf = true) (w1 : (Lit.int .u64 a1).wf = true) :
    Calls Tryd.prog 5 #[.int .u64 a0, .int .u64 a1] w fun e w' => e = .returned (.bool true) ∧ Kp w w' := by
  obtain ⟨x, rfl⟩ := word_of a0 w0
  obtain ⟨v, rfl⟩ := word_of a1 w1
  cases h : tB x with
  | true => exact touch_yes x v w hT h
  | false => exact touch_no x v w hT h
end Go.Proofs.YtpdgajlookhpfaaDoor
