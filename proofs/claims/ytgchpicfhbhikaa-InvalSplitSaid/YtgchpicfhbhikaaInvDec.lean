/-
  The contracts of package inval's Decode and of the document's, for every word and kind. No condition.
-/
import Derived.Test.YtgchpicfhbhikaaInvMay
namespace Go.Proofs.Ytgchpicfhbhikaa
open Go Go.RowKit

def asdN (W : Nat) : Nat := W / 281474976710656
def pagN (W : Nat) : Nat := W % 17592186044416
def DecP (k : Int) (W : Nat) : Prop := MayP k (asdN W) (pagN W) ∧ encN (asdN W) (pagN W) = W
instance (k : Int) (W : Nat) : Decidable (DecP k W) := by unfold DecP; infer_instance
def dK (k : Int) (W : Nat) : Int := if DecP k W then k else 0
def dA (k : Int) (W : Nat) : Int := if DecP k W then asdN W else 0
def dX (k : Int) (W : Nat) : Nat := if DecP k W then pagN W else 0
def dE (k : Int) (W : Nat) : Int := if DecP k W then 0 else 2
theorem dec_yes {k : Int} {W : Nat} (h : DecP k W) : dK k W = k ∧ dA k W = asdN W ∧ dX k W = pagN W ∧ dE k W = 0 := ⟨if_pos h, if_pos h, if_pos h, if_pos h⟩
theorem dec_no {k : Int} {W : Nat} (h : ¬ DecP k W) : dK k W = 0 ∧ dA k W = 0 ∧ dX k W = 0 ∧ dE k W = 2 := ⟨if_neg h, if_neg h, if_neg h, if_neg h⟩
theorem and_num (W : Nat) (h : W < 18446744073709551616) : bits .and .u64 (W : Int) 17592186044415 = (pagN W : Int) := by
  have := bits_and_u64_nat W 17592186044415 (by omega) (by omega)
  rw [show (17592186044415 : Int) = ((17592186044415 : Nat) : Int) from rfl, this]
  have e := Nat.and_two_pow_sub_one_eq_mod W 44
  rw [show 2 ^ 44 - 1 = 17592186044415 from rfl] at e
  rw [e]; rfl
theorem ret_dcd {k a e k' a' e' : Int} {x x' : Nat} (h : k' = k ∧ a' = a ∧ x' = x ∧ e' = e) :
    Ending.returned (.tuple #[.agg #[.int .i8 k, .int .i64 a, .int .u64 x], .int .i64 e]) = .returned (.tuple #[.agg #[.int .i8 k', .int .i64 a', .int .u64 x'], .int .i64 e']) := by
  obtain ⟨rfl, rfl, rfl, rfl⟩ := h; rfl
theorem wrap_num (W : Nat) (h : W < 18446744073709551616) : wrap64 ((W : Int) / 281474976710656) = (asdN W : Int) := by
  have e0 : (W : Int) / 281474976710656 = (asdN W : Int) := by unfold asdN; omega
  have e1 : asdN W < 65536 := by unfold asdN; omega
  rw [e0]
  unfold wrap64; omega
theorem Blk.put3 {w : World} {b : Nat} {t : TypeId} {v0 v1 v2 : Value} (h : Blk w b #[v0, v1, v2] t) (u0 u1 u2 : Value) :
    Blk (((w.setCell ⟨b, 0, none⟩ u0).setCell ⟨b, 1, none⟩ u1).setCell ⟨b, 2, none⟩ u2) b #[u0, u1, u2] t :=
  ((h.set 0 u0).set 1 u1).set 2 u2
theorem Kp.put3 {w w' : World} (h : Kp w w') {b : Nat} (hb : w.heap.size ≤ b) (u0 u1 u2 : Value) :
    Kp w (((w'.setCell ⟨b, 0, none⟩ u0).setCell ⟨b, 1, none⟩ u1).setCell ⟨b, 2, none⟩ u2) :=
  ((h.setCell hb u0).setCell hb u1).setCell hb u2
set_option maxRecDepth 20000 in
theorem decode_any (k : Int) (W : Nat) (w : World) (hW : W < 18446744073709551616) :
    Calls Try.prog 9 #[.int .i8 k, .int .u64 W] w fun e w' => e = .returned (.tuple #[.agg #[.int .i8 (dK k W), .int .i64 (dA k W), .int .u64 (dX k W)], .int .i64 (dE k W)]) ∧ Kp w w' := by
  have r1 := Lib.hid (and_num W hW)
  have r2 := Lib.hid (wrap_num W hW)
  have HA0 := Lib.hid (Blk.new w #[.int .i8 0, .int .i64 0, .int .u64 0] 25)
  clear hW
  by_cases m : MayP k (asdN W) (pagN W)
  · by_cases d : encN (asdN W) (pagN W) = W
    · have D := Lib.hid (dec_yes (k := k) (W := W) ⟨m, d⟩)
      have M := Lib.hid m
      have R := Lib.hid (may_yes m)
      have d1 := Lib.hid d
      clear m d
      go_enter Try.func9, Try.ntmps9
      go_wp2_with fail
      rw [r1.out, r2.out]
      refine (may_any k (asdN W) (pagN W) _).mono ?_; rintro e w1 ⟨rfl, hg⟩
      rw [R.out]
      have HB1 := Lib.hid ((InvAt.new (w.alloc (.cells #[.int .i8 0, .int .i64 0, .int .u64 0] 25)) k (asdN W) (pagN W)).kp hg)
      have hA := (HA0.out.alloc _).kp hg
      have HA1 := Lib.hid hA
      clear hg
      obtain ⟨z0, z1, z2⟩ := HB1.out.cells
      simp at z0 z1 z2
      clear hA
      go_wp2_with fail
      refine (word_any k (asdN W) (pagN W) _ M.out).mono ?_; rintro e w2 ⟨rfl, hg⟩
      rw [d1.out]
      clear z0 z1 z2
      have HB2 := Lib.hid (HB1.out.kp hg)
      have hA := (HA1.out).kp hg
      have HA2 := Lib.hid hA
      clear hg
      obtain ⟨z0, z1, z2⟩ := HB2.out.cells
      simp at z0 z1 z2
      have c0 := hA.cell 0
      have c1 := hA.cell 1
      have c2 := hA.cell 2
      simp at c0 c1 c2
      have f0 := hA.frozen 0
      have f1 := hA.frozen 1
      have f2 := hA.frozen 2
      clear hA
      go_wp2_with fail
      refine bodyPost_ret (results_cell_tmp rfl _ _ _ _ _ _ rfl (HA2.out.put3 _ _ _) Try.underlying25 rfl (by kernel_rfl)) rfl ?_
      exact ⟨ret_dcd D.out, ((kpA w _ _).trans HB2.out.2).put3 (Nat.le_refl _) _ _ _⟩
    · have D := Lib.hid (dec_no (k := k) (W := W) (fun h => d h.2))
      have M := Lib.hid m
      have R := Lib.hid (may_yes m)
      have d2 : ((encN (asdN W) (pagN W) : Int) == (W : Int)) = false := by simp; omega
      clear m d
      go_enter Try.func9, Try.ntmps9
      go_wp2_with fail
      rw [r1.out, r2.out]
      refine (may_any k (asdN W) (pagN W) _).mono ?_; rintro e w1 ⟨rfl, hg⟩
      rw [R.out]
      have HB1 := Lib.hid ((InvAt.new (w.alloc (.cells #[.int .i8 0, .int .i64 0, .int .u64 0] 25)) k (asdN W) (pagN W)).kp hg)
      have hA := (HA0.out.alloc _).kp hg
      have HA1 := Lib.hid hA
      clear hg
      obtain ⟨z0, z1, z2⟩ := HB1.out.cells
      simp at z0 z1 z2
      clear hA
      go_wp2_with fail
      refine (word_any k (asdN W) (pagN W) _ M.out).mono ?_; rintro e w2 ⟨rfl, hg⟩
      generalize encN (asdN W) (pagN W) = E at d2 ⊢
      clear z0 z1 z2
      have HB2 := Lib.hid (HB1.out.kp hg)
      have hA := (HA1.out).kp hg
      have HA2 := Lib.hid hA
      clear hg
      have c0 := hA.cell 0
      have c1 := hA.cell 1
      have c2 := hA.cell 2
      simp at c0 c1 c2
      have f0 := hA.frozen 0
      have f1 := hA.frozen 1
      have f2 := hA.frozen 2
      clear hA
      go_wp2_with fail
      refine bodyPost_ret (results_cell_tmp rfl _ _ _ _ _ _ rfl (HA2.out.put3 _ _ _) Try.underlying25 rfl (by kernel_rfl)) rfl ?_
      exact ⟨ret_dcd D.out, ((kpA w _ _).trans HB2.out.2).put3 (Nat.le_refl _) _ _ _⟩
  · have D := Lib.hid (dec_no (k := k) (W := W) (fun h => m h.1))
    have R := Lib.hid (may_no m)
    clear m
    go_enter Try.func9, Try.ntmps9
    go_wp2_with fail
    rw [r1.out, r2.out]
    refine (may_any k (asdN W) (pagN W) _).mono ?_; rintro e w1 ⟨rfl, hg⟩
    rw [R.out]
    have HB1 := Lib.hid ((InvAt.new (w.alloc (.cells #[.int .i8 0, .int .i64 0, .int .u64 0] 25)) k (asdN W) (pagN W)).kp hg)
    have hA := (HA0.out.alloc _).kp hg
    have HA1 := Lib.hid hA
    clear hg
    have c0 := hA.cell 0
    have c1 := hA.cell 1
    have c2 := hA.cell 2
    simp at c0 c1 c2
    have f0 := hA.frozen 0
    have f1 := hA.frozen 1
    have f2 := hA.frozen 2
    clear hA
    go_wp2_with fail
    refine bodyPost_ret (results_cell_tmp rfl _ _ _ _ _ _ rfl (HA1.out.put3 _ _ _) Try.underlying25 rfl (by kernel_rfl)) rfl ?_
    exact ⟨ret_dcd D.out, ((kpA w _ _).trans HB1.out.2).put3 (Nat.le_refl _) _ _ _⟩
theorem rdecode_any (k : Int) (W : Nat) (w : World) (hW : W < 18446744073709551616) :
    Calls Try.prog 10 #[.int .i8 k, .int .u64 W] w fun e w' => e = .returned (.tuple #[.agg #[.int .i8 (dK k W), .int .i64 (dA k W), .int .u64 (dX k W)], .int .i64 (dE k W)]) ∧ Kp w w' := by
  have r1 := Lib.hid (and_num W hW)
  have r2 := Lib.hid (wrap_num W hW)
  have HA0 := Lib.hid (Blk.new w #[.int .i8 0, .int .i64 0, .int .u64 0] 25)
  clear hW
  by_cases m : MayP k (asdN W) (pagN W)
  · by_cases d : encN (asdN W) (pagN W) = W
    · have D := Lib.hid (dec_yes (k := k) (W := W) ⟨m, d⟩)
      have M := Lib.hid m
      have R := Lib.hid (enc_yes m)
      have d1 := Lib.hid d
      clear m d
      go_enter Try.func10, Try.ntmps10
      go_wp2_with fail
      rw [r1.out, r2.out]
      refine (rencode_any k (asdN W) (pagN W) _).mono ?_; rintro e w1 ⟨rfl, hg⟩
      rw [R.out.1, R.out.2]
      rw [d1.out]
      have HB1 := Lib.hid ((InvAt.new (w.alloc (.cells #[.int .i8 0, .int .i64 0, .int .u64 0] 25)) k (asdN W) (pagN W)).kp hg)
      have hA := (HA0.out.alloc _).kp hg
      have HA1 := Lib.hid hA
      clear hg
      obtain ⟨z0, z1, z2⟩ := HB1.out.cells
      simp at z0 z1 z2
      have c0 := hA.cell 0
      have c1 := hA.cell 1
      have c2 := hA.cell 2
      simp at c0 c1 c2
      have f0 := hA.frozen 0
      have f1 := hA.frozen 1
      have f2 := hA.frozen 2
      clear hA
      go_wp2_with fail
      refine bodyPost_ret (results_cell_tmp rfl _ _ _ _ _ _ rfl (HA1.out.put3 _ _ _) Try.underlying25 rfl (by kernel_rfl)) rfl ?_
      exact ⟨ret_dcd D.out, ((kpA w _ _).trans HB1.out.2).put3 (Nat.le_refl _) _ _ _⟩
    · have D := Lib.hid (dec_no (k := k) (W := W) (fun h => d h.2))
      have M := Lib.hid m
      have R := Lib.hid (enc_yes m)
      have d2 : ((encN (asdN W) (pagN W) : Int) == (W : Int)) = false := by simp; omega
      clear m d
      go_enter Try.func10, Try.ntmps10
      go_wp2_with fail
      rw [r1.out, r2.out]
      refine (rencode_any k (asdN W) (pagN W) _).mono ?_; rintro e w1 ⟨rfl, hg⟩
      rw [R.out.1, R.out.2]
      have HB1 := Lib.hid ((InvAt.new (w.alloc (.cells #[.int .i8 0, .int .i64 0, .int .u64 0] 25)) k (asdN W) (pagN W)).kp hg)
      have hA := (HA0.out.alloc _).kp hg
      have HA1 := Lib.hid hA
      clear hg
      have c0 := hA.cell 0
      have c1 := hA.cell 1
      have c2 := hA.cell 2
      simp at c0 c1 c2
      have f0 := hA.frozen 0
      have f1 := hA.frozen 1
      have f2 := hA.frozen 2
      clear hA
      go_wp2_with fail
      refine bodyPost_ret (results_cell_tmp rfl _ _ _ _ _ _ rfl (HA1.out.put3 _ _ _) Try.underlying25 rfl (by kernel_rfl)) rfl ?_
      exact ⟨ret_dcd D.out, ((kpA w _ _).trans HB1.out.2).put3 (Nat.le_refl _) _ _ _⟩
  · have D := Lib.hid (dec_no (k := k) (W := W) (fun h => m h.1))
    have R := Lib.hid (enc_no m)
    clear m
    go_enter Try.func10, Try.ntmps10
    go_wp2_with fail
    rw [r1.out, r2.out]
    refine (rencode_any k (asdN W) (pagN W) _).mono ?_; rintro e w1 ⟨rfl, hg⟩
    rw [R.out.1, R.out.2]
    have HB1 := Lib.hid ((InvAt.new (w.alloc (.cells #[.int .i8 0, .int .i64 0, .int .u64 0] 25)) k (asdN W) (pagN W)).kp hg)
    have hA := (HA0.out.alloc _).kp hg
    have HA1 := Lib.hid hA
    clear hg
    have c0 := hA.cell 0
    have c1 := hA.cell 1
    have c2 := hA.cell 2
    simp at c0 c1 c2
    have f0 := hA.frozen 0
    have f1 := hA.frozen 1
    have f2 := hA.frozen 2
    clear hA
    go_wp2_with fail
    refine bodyPost_ret (results_cell_tmp rfl _ _ _ _ _ _ rfl (HA1.out.put3 _ _ _) Try.underlying25 rfl (by kernel_rfl)) rfl ?_
    exact ⟨ret_dcd D.out, ((kpA w _ _).trans HB1.out.2).put3 (Nat.le_refl _) _ _ _⟩
end Go.Proofs.Ytgchpicfhbhikaa
