/-
  wakes returns true. No condition but the tables.
-/
import Derived.Test.YtfbkppncaampdaaDoorLaid07
import Derived.Test.YtfbkppncaampdaaDoorRefDec07
namespace Go.Proofs.YtfbkppncaampdaaDoor
open Go Go.RowKit

theorem i8s_of {op d n m imm : Int} (h : OkA op d n m imm) : -128 ≤ op ∧ op < 128 := by
  have h0 := h.1.1
  have h1 := h.1.2.1
  omega
theorem fW_pos (o : Nat) (ho : o < 18) : 0 < fW o := by
  have key : ∀ k : Fin 18, 0 < fW k.val := by decide
  exact key ⟨o, ho⟩
theorem encN_pos {op d n m imm : Int} (h : OkA op d n m imm) : 0 < encN op d n m imm := by
  obtain ⟨g, h18⟩ := h
  unfold encN
  split
  · omega
  · have := g.1
    have := g.2.1
    have := fW_pos op.toNat (by omega)
    unfold encF
    omega
theorem decode_is {W : Nat} {op d n m imm : Int} (h : DecOk W op d n m imm) (w : World) (hT : TAll w) (hW : W < 4294967296) :
    Calls Tryd.prog 7 #[.int .u32 W] w fun e w' => e = .returned (.agg #[.int .i8 op, .int .i8 d, .int .i8 n, .int .i8 m, .int .i64 imm]) ∧ Kp w w' := by
  refine (decode_any W w hT.1 hT.2.1 hW).mono ?_
  rintro e w' ⟨op', d', n', m', imm', rfl, hd, hk⟩
  obtain ⟨rfl, rfl, rfl, rfl, rfl⟩ := dec_one h hd
  exact ⟨rfl, hk⟩
theorem wk_mov (w : World) (hT : TAll w) : Calls Tryd.prog 7 #[.int .u32 3531604131] w fun e w' => e = .returned (.agg #[.int .i8 1, .int .i8 3, .int .i8 0, .int .i8 0, .int .i64 5]) ∧ Kp w w' :=
  decode_is (W := 3531604131) (.inl ⟨by decide, by decide⟩) w hT (by decide)
theorem wk_b (w : World) (hT : TAll w) : Calls Tryd.prog 7 #[.int .u32 402653183] w fun e w' => e = .returned (.agg #[.int .i8 14, .int .i8 0, .int .i8 0, .int .i8 0, .int .i64 (-1)]) ∧ Kp w w' :=
  decode_is (W := 402653183) (.inl ⟨by decide, by decide⟩) w hT (by decide)
theorem wk_bad (w : World) (hT : TAll w) : Calls Tryd.prog 7 #[.int .u32 0] w fun e w' => e = .returned (.agg #[.int .i8 18, .int .i8 0, .int .i8 0, .int .i8 0, .int .i64 0]) ∧ Kp w w' :=
  decode_is (W := 0) (.inr ⟨⟨rfl, rfl, rfl, rfl, rfl⟩, fun _ _ _ _ _ h => by have := encN_pos h; omega⟩) w hT (by decide)
theorem itoa_low (n : Nat) (h : n < 10) : Lib.itoa (n : Int) = [UInt8.ofNat (48 + n)] := by
  unfold Lib.itoa
  rw [if_neg (by omega), Int.toNat_natCast, Lib.decDigits, dif_pos h]
theorem wk_text (w : World) (hT : TAll w) : Calls Tryd.prog 12 #[.agg #[.int .i8 1, .int .i8 3, .int .i8 0, .int .i8 0, .int .i64 5]] w fun e w' => e = .returned (.string ⟨#[109, 111, 118, 32, 120, 51, 44, 53]⟩) ∧ Kp w w' := by
  have h := text_any 1 3 0 0 5 w hT.1 hT.2.1.ok hT.2.2 (by decide)
  have e : txtL 1 3 0 0 5 = [109, 111, 118, 32, 120, 51, 44, 53] := by
    rw [show txtL 1 3 0 0 5 = txtO 1 3 0 0 5 from if_pos (by decide)]
    unfold txtO
    rw [show prtL 1 3 0 0 5 = [120 :: Lib.itoa 3, Lib.itoa 5] from rfl, show Lib.itoa 3 = [51] from itoa_low 3 (by decide), show Lib.itoa 5 = [53] from itoa_low 5 (by decide)]
    show _ ++ (32 :: Lib.join _ _) = _
    rw [join2]
    rfl
  rw [e] at h
  exact h
set_option maxHeartbeats 1000000 in
theorem wakes_any (w : World) (hT : TAll w) :
    Calls Tryd.prog 9 #[] w fun e w' => e = .returned (.bool true) ∧ Kp w w' := by
  have HT := Lib.hid hT; clear hT
  go_enter Tryd.func9, Tryd.ntmps9
  go_wp2_with fail
  refine (wk_mov _ HT.out).mono ?_; rintro e w1 ⟨rfl, hg⟩
  have H1 := Lib.hid hg; clear hg
  have T1 := Lib.hid (HT.out.kp H1.out)
  go_wp2_with fail
  refine (wk_b _ T1.out).mono ?_; rintro e w2 ⟨rfl, hg⟩
  have H2 := Lib.hid hg; clear hg
  have T2 := Lib.hid (T1.out.kp H2.out)
  go_wp2_with fail
  refine (wk_bad _ T2.out).mono ?_; rintro e w3 ⟨rfl, hg⟩
  have H3 := Lib.hid hg; clear hg
  have T3 := Lib.hid (T2.out.kp H3.out)
  go_wp2_with fail
  refine (wk_mov _ T3.out).mono ?_; rintro e w4 ⟨rfl, hg⟩
  have H4 := Lib.hid hg; clear hg
  have T4 := Lib.hid (T3.out.kp H4.out)
  go_wp2_with fail
  refine (wk_text _ T4.out).mono ?_; rintro e w5 ⟨rfl, hg⟩
  have H5 := Lib.hid hg; clear hg
  go_wp2
  go_ret
  exact ⟨rfl, H1.out.trans (H2.out.trans (H3.out.trans (H4.out.trans H5.out)))⟩
end Go.Proofs.YtfbkppncaampdaaDoor
