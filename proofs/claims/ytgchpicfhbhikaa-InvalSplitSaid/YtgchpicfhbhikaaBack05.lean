/-
  InvalBack returns true. No condition.
-/
import Derived.Test.YtgchpicfhbhikaaInvDec
import Derived.Test.YtgchpicfhbhikaaWakes05
namespace Go.Proofs.Ytgchpicfhbhikaa
open Go Go.RowKit

theorem nat_of (a : Int) (h : (Lit.int .u64 a).wf = true) : ∃ n : Nat, a = n ∧ n < 18446744073709551616 := by
  have h' : 0 ≤ a ∧ a < 18446744073709551616 := by
    simp [Lit.wf, IntKind.min, IntKind.max, IntKind.bits, IntKind.signed] at h
    omega
  exact ⟨a.toNat, by omega, by omega⟩
theorem enc_back {k a : Int} {X : Nat} (h : MayP k a X) : (asdN (encN a X) : Int) = a ∧ pagN (encN a X) = X ∧ DecP k (encN a X) := by
  obtain ⟨n, e, hn, hX⟩ := may_lim h
  have e1 : asdN (encN a X) = n := by unfold asdN encN; omega
  have e2 : pagN (encN a X) = X := by unfold pagN encN; omega
  refine ⟨by omega, e2, ?_, ?_⟩
  · rw [e1, e2, ← e]; exact h
  · rw [e1, e2, ← e]
theorem dcd_enc {k a : Int} {X : Nat} (h : MayP k a X) : dK k (encN a X) = k ∧ dA k (encN a X) = a ∧ dX k (encN a X) = X ∧ dE k (encN a X) = 0 := by
  obtain ⟨h1, h2, h3⟩ := enc_back h
  obtain ⟨d1, d2, d3, d4⟩ := dec_yes h3
  exact ⟨d1, d2.trans h1, d3.trans h2, d4⟩
theorem encN_lt {k a : Int} {X : Nat} (h : MayP k a X) : encN a X < 18446744073709551616 := by
  obtain ⟨n, e, hn, hX⟩ := may_lim h
  unfold encN; omega
theorem enc_dcd {k : Int} {W : Nat} (h : DecP k W) : encE k (asdN W) (pagN W) = 0 ∧ encW k (asdN W) (pagN W) = W := ⟨(enc_yes h.1).1, (enc_yes h.1).2.trans h.2⟩
theorem back_a (k a : Int) (X W : Nat) (w : World) (hW : W < 18446744073709551616) (m : MayP k a X) (d : DecP k W) :
    Calls Try.prog 4 #[.agg #[.int .i8 k, .int .i64 a, .int .u64 X], .int .u64 W] w fun e w' => e = .returned (.bool true) ∧ Kp w w' := by
  have HW := Lib.hid hW
  have HE := Lib.hid (enc_yes m)
  have HD := Lib.hid (dcd_enc m)
  have HL := Lib.hid (encN_lt m)
  have HD2 := Lib.hid (dec_yes d)
  have HE2 := Lib.hid (enc_dcd d)
  clear hW m d
  go_enter Try.func4, Try.ntmps4
  go_wp2_with fail
  refine (encode_any k a X _).mono ?_; rintro e w1 ⟨rfl, hg⟩
  rw [HE.out.1, HE.out.2]
  have HS1 := Lib.hid ((InvAt.new w k a X).kp hg)
  obtain ⟨z0, z1, z2⟩ := HS1.out.cells
  clear hg
  go_wp2_with fail
  refine (decode_any k (encN a X) _ HL.out).mono ?_; rintro e w2 ⟨rfl, hg⟩
  rw [HD.out.1, HD.out.2.1, HD.out.2.2.1, HD.out.2.2.2]
  have HS2 := Lib.hid (HS1.out.kp (hg.alloc #[.int .i8 k, .int .i64 a, .int .u64 X] 25))
  clear hg z0 z1 z2
  obtain ⟨z0, z1, z2⟩ := HS2.out.cells
  go_wp2_with fail
  refine (decode_any k W _ HW.out).mono ?_; rintro e w3 ⟨rfl, hg⟩
  rw [HD2.out.1, HD2.out.2.1, HD2.out.2.2.1, HD2.out.2.2.2]
  have HS3 := Lib.hid (HS2.out.kp (hg.alloc #[.int .i8 k, .int .i64 (asdN W), .int .u64 (pagN W)] 25))
  have HN := Lib.hid (Blk.new w3 #[.int .i8 k, .int .i64 (asdN W), .int .u64 (pagN W)] 25)
  clear hg z0 z1 z2
  obtain ⟨z0, z1, z2⟩ := HS3.out.cells
  go_wp2_with fail
  refine (encode_any k (asdN W) (pagN W) _).mono ?_; rintro e w4 ⟨rfl, hg⟩
  rw [HE2.out.1, HE2.out.2]
  have HS4 := Lib.hid (HS3.out.kp hg)
  have HN4 := Lib.hid (HN.out.kp hg)
  clear hg z0 z1 z2
  obtain ⟨z0, z1, z2⟩ := HS4.out.cells
  have y0 := HN4.out.cell 0
  simp at y0
  go_wp2_with fail
  refine (wakes_any _).mono ?_; rintro e w5 ⟨rfl, hg⟩
  have HS5 := Lib.hid (HS4.out.kp hg)
  clear hg
  go_wp2_with fail
  go_ret
  exact ⟨rfl, HS5.out.2⟩
theorem back_b (k a : Int) (X W : Nat) (w : World) (hW : W < 18446744073709551616) (m : MayP k a X) (d : ¬ DecP k W) :
    Calls Try.prog 4 #[.agg #[.int .i8 k, .int .i64 a, .int .u64 X], .int .u64 W] w fun e w' => e = .returned (.bool true) ∧ Kp w w' := by
  have HW := Lib.hid hW
  have HE := Lib.hid (enc_yes m)
  have HD := Lib.hid (dcd_enc m)
  have HL := Lib.hid (encN_lt m)
  have HD2 := Lib.hid (dec_no d)
  clear hW m d
  go_enter Try.func4, Try.ntmps4
  go_wp2_with fail
  refine (encode_any k a X _).mono ?_; rintro e w1 ⟨rfl, hg⟩
  rw [HE.out.1, HE.out.2]
  have HS1 := Lib.hid ((InvAt.new w k a X).kp hg)
  obtain ⟨z0, z1, z2⟩ := HS1.out.cells
  clear hg
  go_wp2_with fail
  refine (decode_any k (encN a X) _ HL.out).mono ?_; rintro e w2 ⟨rfl, hg⟩
  rw [HD.out.1, HD.out.2.1, HD.out.2.2.1, HD.out.2.2.2]
  have HS2 := Lib.hid (HS1.out.kp (hg.alloc #[.int .i8 k, .int .i64 a, .int .u64 X] 25))
  clear hg z0 z1 z2
  obtain ⟨z0, z1, z2⟩ := HS2.out.cells
  go_wp2_with fail
  refine (decode_any k W _ HW.out).mono ?_; rintro e w3 ⟨rfl, hg⟩
  rw [HD2.out.1, HD2.out.2.1, HD2.out.2.2.1, HD2.out.2.2.2]
  have HS3 := Lib.hid (HS2.out.kp (hg.alloc #[.int .i8 0, .int .i64 0, .int .u64 (0 : Nat)] 25))
  have HN := Lib.hid (Blk.new w3 #[.int .i8 0, .int .i64 0, .int .u64 (0 : Nat)] 25)
  clear hg z0 z1 z2
  obtain ⟨z0, z1, z2⟩ := HS3.out.cells
  go_wp2_with fail
  refine (wakes_any _).mono ?_; rintro e w5 ⟨rfl, hg⟩
  have HS5 := Lib.hid (HS3.out.kp hg)
  clear hg
  go_wp2_with fail
  go_ret
  exact ⟨rfl, HS5.out.2⟩
theorem back_c (k a : Int) (X W : Nat) (w : World) (hW : W < 18446744073709551616) (m : ¬ MayP k a X) (d : DecP k W) :
    Calls Try.prog 4 #[.agg #[.int .i8 k, .int .i64 a, .int .u64 X], .int .u64 W] w fun e w' => e = .returned (.bool true) ∧ Kp w w' := by
  have HW := Lib.hid hW
  have HE := Lib.hid (enc_no m)
  have HD2 := Lib.hid (dec_yes d)
  have HE2 := Lib.hid (enc_dcd d)
  clear hW m d
  go_enter Try.func4, Try.ntmps4
  go_wp2_with fail
  refine (encode_any k a X _).mono ?_; rintro e w1 ⟨rfl, hg⟩
  rw [HE.out.1, HE.out.2]
  have HS1 := Lib.hid ((InvAt.new w k a X).kp hg)
  obtain ⟨z0, z1, z2⟩ := HS1.out.cells
  clear hg
  go_wp2_with fail
  refine (decode_any k W _ HW.out).mono ?_; rintro e w3 ⟨rfl, hg⟩
  rw [HD2.out.1, HD2.out.2.1, HD2.out.2.2.1, HD2.out.2.2.2]
  have HS3 := Lib.hid (HS1.out.kp (hg.alloc #[.int .i8 k, .int .i64 (asdN W), .int .u64 (pagN W)] 25))
  have HN := Lib.hid (Blk.new w3 #[.int .i8 k, .int .i64 (asdN W), .int .u64 (pagN W)] 25)
  clear hg z0 z1 z2
  obtain ⟨z0, z1, z2⟩ := HS3.out.cells
  go_wp2_with fail
  refine (encode_any k (asdN W) (pagN W) _).mono ?_; rintro e w4 ⟨rfl, hg⟩
  rw [HE2.out.1, HE2.out.2]
  have HS4 := Lib.hid (HS3.out.kp hg)
  have HN4 := Lib.hid (HN.out.kp hg)
  clear hg z0 z1 z2
  obtain ⟨z0, z1, z2⟩ := HS4.out.cells
  have y0 := HN4.out.cell 0
  simp at y0
  go_wp2_with fail
  refine (wakes_any _).mono ?_; rintro e w5 ⟨rfl, hg⟩
  have HS5 := Lib.hid (HS4.out.kp hg)
  clear hg
  go_wp2_with fail
  go_ret
  exact ⟨rfl, HS5.out.2⟩
theorem back_d (k a : Int) (X W : Nat) (w : World) (hW : W < 18446744073709551616) (m : ¬ MayP k a X) (d : ¬ DecP k W) :
    Calls Try.prog 4 #[.agg #[.int .i8 k, .int .i64 a, .int .u64 X], .int .u64 W] w fun e w' => e = .returned (.bool true) ∧ Kp w w' := by
  have HW := Lib.hid hW
  have HE := Lib.hid (enc_no m)
  have HD2 := Lib.hid (dec_no d)
  clear hW m d
  go_enter Try.func4, Try.ntmps4
  go_wp2_with fail
  refine (encode_any k a X _).mono ?_; rintro e w1 ⟨rfl, hg⟩
  rw [HE.out.1, HE.out.2]
  have HS1 := Lib.hid ((InvAt.new w k a X).kp hg)
  obtain ⟨z0, z1, z2⟩ := HS1.out.cells
  clear hg
  go_wp2_with fail
  refine (decode_any k W _ HW.out).mono ?_; rintro e w3 ⟨rfl, hg⟩
  rw [HD2.out.1, HD2.out.2.1, HD2.out.2.2.1, HD2.out.2.2.2]
  have HS3 := Lib.hid (HS1.out.kp (hg.alloc #[.int .i8 0, .int .i64 0, .int .u64 (0 : Nat)] 25))
  have HN := Lib.hid (Blk.new w3 #[.int .i8 0, .int .i64 0, .int .u64 (0 : Nat)] 25)
  clear hg z0 z1 z2
  obtain ⟨z0, z1, z2⟩ := HS3.out.cells
  go_wp2_with fail
  refine (wakes_any _).mono ?_; rintro e w5 ⟨rfl, hg⟩
  have HS5 := Lib.hid (HS3.out.kp hg)
  clear hg
  go_wp2_with fail
  go_ret
  exact ⟨rfl, HS5.out.2⟩
theorem walkBack (k a : Int) (X W : Int) (wX : (Lit.int .u64 X).wf = true) (wW : (Lit.int .u64 W).wf = true) (w : World) :
    Calls Try.prog 4 #[.agg #[.int .i8 k, .int .i64 a, .int .u64 X], .int .u64 W] w fun e w' => e = .returned (.bool true) ∧ Kp w w' := by
  obtain ⟨x, rfl, -⟩ := nat_of X wX
  obtain ⟨y, rfl, hy⟩ := nat_of W wW
  by_cases m : MayP k a x
  · by_cases d : DecP k y
    · exact back_a k a x y w hy m d
    · exact back_b k a x y w hy m d
  · by_cases d : DecP k y
    · exact back_c k a x y w hy m d
    · exact back_d k a x y w hy m d
end Go.Proofs.Ytgchpicfhbhikaa
