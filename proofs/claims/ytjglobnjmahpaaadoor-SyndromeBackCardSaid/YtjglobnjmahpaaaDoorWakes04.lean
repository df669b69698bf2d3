/-
  wakes returns true. No condition but the tables.
-/
import Derived.Test.YtjglobnjmahpaaaDoorSynText
namespace Go.Proofs.YtjglobnjmahpaaaDoor
open Go Go.RowKit

theorem strB_toList (l : List UInt8) : (strB l).toList = l := Go.ByteArray.toList_mk l
theorem store_any (w : World) :
    Calls Tryd.prog 21 #[] w fun e w' => e = .returned (.agg #[.int .i8 2, .bool true, .int .i8 2, .int .i8 3, .int .u64 20488]) ∧ Kp w w' := by
  go_enter Tryd.func21, Tryd.ntmps21
  go_wp2
  refine bodyPost_ret (results_cell_row rfl _ _ _ _ _ _ _ rfl (Blk.new _ _ _) Tryd.underlying25 rfl (by kernel_rfl)) rfl ?_
  exact ⟨rfl, kpA _ _ _⟩
theorem wk1 : encW 2 true 2 3 20488 = 2449473615 ∧ encA 2 true 2 3 20488 = 20488 ∧ chkE 2 true 2 3 20488 = 0 := by decide
theorem wk2 : encW 1 false 0 0 0 = 1442840576 ∧ encA 1 false 0 0 0 = 0 ∧ chkE 1 false 0 0 0 = 0 := by decide
theorem hex5008 : hexL 20488 = [53, 48, 48, 56] := by
  rw [hexL_more (by decide), hexL_more (by decide), hexL_more (by decide), hexL_low (by decide)]; rfl
theorem wk3 : txtL 2 true 2 3 20488 = [115, 116, 111, 114, 101, 32, 112, 101, 114, 109, 32, 53, 48, 48, 56] := by
  rw [txt_data (by decide), show Int.toNat 20488 = 20488 from rfl, hex5008]; rfl
set_option maxHeartbeats 1000000 in
theorem wakes_any (w : World) (hT : TabsOk w) (hB : Bru w) :
    Calls Tryd.prog 12 #[] w fun e w' => e = .returned (.bool true) ∧ Kp w w' := by
  have HT := Lib.hid hT
  have HB := Lib.hid hB
  clear hT hB
  go_enter Tryd.func12, Tryd.ntmps12
  go_wp2_with fail
  refine (store_any _).mono ?_; rintro e w1 ⟨rfl, hg⟩
  have H1 := Lib.hid hg; clear hg
  go_wp2_with fail
  refine (encode_any 2 true 2 3 20488 _ (HT.out.kp H1.out) (by decide)).mono ?_; rintro e w2 ⟨rfl, hg⟩
  have H2 := Lib.hid hg; clear hg
  rw [wk1.1, wk1.2.1, wk1.2.2]
  go_wp2_with fail
  refine (encode_any 1 false 0 0 0 _ ((HT.out.kp H1.out).kp H2.out) (by decide)).mono ?_; rintro e w3 ⟨rfl, hg⟩
  have H3 := Lib.hid hg; clear hg
  rw [wk2.1, wk2.2.1, wk2.2.2]
  go_wp2_with fail
  refine (store_any _).mono ?_; rintro e w4 ⟨rfl, hg⟩
  have H4 := Lib.hid hg; clear hg
  go_wp2_with fail
  refine (text_any 2 true 2 3 20488 _ ((((HT.out.kp H1.out).kp H2.out).kp H3.out).kp H4.out) ((((HB.out.kp H1.out).kp H2.out).kp H3.out).kp H4.out) (by decide) (by decide)).mono ?_; rintro e w5 ⟨rfl, hg⟩
  have H5 := Lib.hid hg; clear hg
  rw [show ((20488 : Nat) : Int) = 20488 from rfl, wk3]
  go_wp2
  go_ret
  exact ⟨ret_bool (by rw [strB_toList]; decide), (by (repeat (first | apply Kp.drew | apply Kp.alloc)); refine Kp.trans ?_ H5.out; (repeat (first | apply Kp.drew | apply Kp.alloc)); refine Kp.trans ?_ H4.out; (repeat (first | apply Kp.drew | apply Kp.alloc)); refine Kp.trans ?_ H3.out; (repeat (first | apply Kp.drew | apply Kp.alloc)); refine Kp.trans ?_ H2.out; (repeat (first | apply Kp.drew | apply Kp.alloc)); refine Kp.trans ?_ H1.out; (repeat (first | apply Kp.drew | apply Kp.alloc)); exact Kp.refl _)⟩
end Go.Proofs.YtjglobnjmahpaaaDoor
