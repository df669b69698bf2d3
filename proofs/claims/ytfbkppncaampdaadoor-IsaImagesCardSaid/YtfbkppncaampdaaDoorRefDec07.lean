/-
  The document's instruction of a word. No condition.
-/
import Derived.Test.YtfbkppncaampdaaDoorRefEnc07
import Derived.Test.YtfbkppncaampdaaDoorDecN07
import Derived.Test.YtfbkppncaampdaaDoorRefSign
namespace Go.Proofs.YtfbkppncaampdaaDoor
open Go Go.RowKit

/-! What the document reads of a word for an op. -/
def rrD (o W : Nat) : Nat := if fD o then W % 32 else 0
def rrN (o W : Nat) : Nat := if fN o then W / 32 % 32 else 0
def rrM (o W : Nat) : Nat := if fM o then W / 65536 % 32 else 0
def rrI (o W : Nat) : Int := if o = 7 ∧ W / 1073741824 = 3 then -rdI 7 W else rdI o W
theorem rr_of {W : Nat} {op d n m imm : Int} (h : OkA op d n m imm) (e : encN op d n m imm = W) : op.toNat < 18 ∧ op = (op.toNat : Int) ∧ (rrD op.toNat W : Int) = d ∧ (rrN op.toNat W : Int) = n ∧ (rrM op.toNat W : Int) = m ∧ rrI op.toNat W = imm := by
  obtain ⟨g, h18⟩ := h
  by_cases c : op = 7 ∧ imm < 0
  · obtain ⟨rfl, hi⟩ := c
    rw [show encN 7 d n m imm = encF 7 d n m (-imm) + 1073741824 from if_pos ⟨rfl, hi⟩] at e
    obtain ⟨e0, e1, e2, e3, e4⟩ := enc_low d n m imm g hi
    have hm := enc_lmatch d n m imm g hi
    have hs := split_word 7 _ (by decide) e0
    rw [e] at e0 e1 e2 e3 e4 hm hs
    have hr := g.regs
    have hi2 := g.2.2.1.1
    have l7 : loI 7 = -2048 := rfl
    have l7' : loI (7 : Int).toNat = -2048 := rfl
    rw [l7'] at hi2
    have hq : rdU 7 W = W / 1024 % 4096 := rfl
    have hlo : (2 : Nat) ^ fLo 7 = 1024 := rfl
    have hz : rdI 7 W = (W / 1024 % 4096 : Nat) := rfl
    rw [hlo, hq, hm] at hs
    rw [hz] at e4
    refine ⟨by decide, rfl, ?_, ?_, ?_, ?_⟩
    · show ((W % 32 : Nat) : Int) = d
      omega
    · show ((W / 32 % 32 : Nat) : Int) = n
      omega
    · show ((0 : Nat) : Int) = m
      have : rdM 7 W = 0 := rfl
      omega
    · show (if (7 : Nat) = 7 ∧ W / 1073741824 = 3 then -rdI 7 W else rdI 7 W) = imm
      rw [if_pos ⟨rfl, by omega⟩]
      omega
  · obtain ⟨o, rfl⟩ := Int.eq_ofNat_of_zero_le g.1
    rw [show encN (o : Int) d n m imm = encF o d n m imm from (if_neg c).trans (by rw [Int.toNat_natCast])] at e
    have ho : o < 18 := by have := g.2.1; omega
    obtain ⟨e0, e1, e2, e3, e4⟩ := enc_row o d n m imm g (by omega) (by omega)
    have hm := enc_match o d n m imm g (by omega) (by omega)
    have hs := split_word o _ (by omega) e0
    rw [e] at e0 e1 e2 e3 e4 hm hs
    rw [hm] at hs
    have hr := g.regs
    have hU := rdI_mod o W (by omega)
    rw [Int.toNat_natCast]
    refine ⟨ho, rfl, ?_⟩
    have hi2 := g.2.2.1
    rw [Int.toNat_natCast] at hi2
    have hc : ¬ (o = 7 ∧ imm < 0) := by omega
    clear c g hm e hU
    obtain rfl | rfl | rfl | rfl | rfl | rfl | rfl | rfl | rfl | rfl | rfl | rfl | rfl | rfl | rfl | rfl | rfl | rfl : o = 0 ∨ o = 1 ∨ o = 2 ∨ o = 3 ∨ o = 4 ∨ o = 5 ∨ o = 6 ∨ o = 7 ∨ o = 8 ∨ o = 9 ∨ o = 10 ∨ o = 11 ∨ o = 12 ∨ o = 13 ∨ o = 14 ∨ o = 15 ∨ o = 16 ∨ o = 17 := by omega
    all_goals
      simp [loI, hiI, loL, hiL] at hi2 hc
      simp [rdD, rdN, rdM, rdU, fW, fD, fN, fM, fLo, fWd, fwL, fdL, fnL, fmL, floL, fwdL] at e1 e2 e3 hs
      simp [rrD, rrN, rrM, rrI, fD, fN, fM, fdL, fnL, fmL, e4]
      try simp [rdI, getN, fS, fLo, fWd, fsL, floL, fwdL] at e4
      omega

def zero5 : Array Value := #[.int .i8 0, .int .i8 0, .int .i8 0, .int .i8 0, .int .i64 0]
def RNot (W k : Nat) : Prop := ∀ j, j < k → ¬ (OkA j (rrD j W) (rrN j W) (rrM j W) (rrI j W) ∧ encN j (rrD j W) (rrN j W) (rrM j W) (rrI j W) = W)
theorem RNot.succ {W k : Nat} (h : RNot W k) (g : ¬ (OkA k (rrD k W) (rrN k W) (rrM k W) (rrI k W) ∧ encN k (rrD k W) (rrN k W) (rrM k W) (rrI k W) = W)) : RNot W (k + 1) := fun j hj => by
  by_cases c : j = k
  · subst c; exact g
  · exact h j (by omega)
theorem RNot.all {W : Nat} (h : RNot W 18) : DecOk W 18 0 0 0 0 := .inr ⟨⟨rfl, rfl, rfl, rfl, rfl⟩, fun op d n m imm hk he => by
  obtain ⟨h1, h2, h3, h4, h5, h6⟩ := rr_of hk he
  apply h op.toNat h1
  rw [h3, h4, h5, h6, ← h2]
  exact ⟨hk, he⟩⟩
theorem dnm_word (W k : Nat) (hW : W < 4294967296) : IntKind.i8.wrap (bits .and .u32 ((W / 2 ^ k : Nat) : Int) 31) = ((W / 2 ^ k % 32 : Nat) : Int) := by
  have h : W / 2 ^ k < 4294967296 := Nat.lt_of_le_of_lt (Nat.div_le_self _ _) hW
  rw [show (31 : Int) = ((2 ^ 5 - 1 : Nat) : Int) from rfl, and_u32 _ _ h (by decide), Nat.and_two_pow_sub_one_eq_mod]
  have : W / 2 ^ k % 2 ^ 5 < 32 := Nat.mod_lt _ (by decide)
  show IntKind.i8.wrap ((W / 2 ^ k % 2 ^ 5 : Nat) : Int) = _
  generalize W / 2 ^ k % 2 ^ 5 = z at *
  simp [IntKind.wrap, IntKind.bits, IntKind.signed]
  omega
theorem rget_w (W hi lo V : Nat) (w : World) (hW : W < 4294967296) (h1 : lo ≤ hi) (h2 : hi ≤ 63) (hV : V = W / 2 ^ lo % 2 ^ (hi - lo + 1)) :
    Calls Tryd.prog 18 #[.int .u64 W, .int .i64 hi, .int .i64 lo] w fun e w' => e = .returned (.int .u64 V) ∧ w' = w := by
  obtain ⟨x, ex, nx⟩ := cv_w64 W hW
  rw [ex]
  have e : V = (getB x hi lo).toNat := by rw [hV, getB_nat x hi lo h1 h2, nx]
  rw [e]
  exact rget_yes x hi lo w h1 h2
theorem rsign_w (V hi : Nat) (S : Int) (w : World) (hV : V < 4294967296) (h2 : hi ≤ 63) (hS : S = (V : Int) % 2 ^ hi - (V : Int) / 2 ^ hi % 2 * 2 ^ hi) :
    Calls Tryd.prog 19 #[.int .u64 V, .int .i64 hi] w fun e w' => e = .returned (.int .i64 S) ∧ w' = w := by
  obtain ⟨x, ex, nx⟩ := cv_w64 V hV
  rw [ex]
  have e : S = signB x hi := by rw [hS]; unfold signB; rw [nx]
  rw [e]
  exact rsign_yes x hi w h2
theorem rhit {W : Nat} {op d n m imm : Int} (h : OkA op d n m imm ∧ encN op d n m imm = W) (w : World) :
    Calls Tryd.prog 11 #[.agg #[.int .i8 op, .int .i8 d, .int .i8 n, .int .i8 m, .int .i64 imm]] w fun e w' => e = .returned (.tuple #[.int .u32 W, .int .i64 0]) ∧ Kp w w' := by
  have := rencode_any op d n m imm w
  rw [show encR op d n m imm = W from (if_pos h.1).trans h.2, show encE op d n m imm = 0 from if_pos h.1] at this
  exact this
theorem rbad {op d n m imm : Int} (h : ¬ OkA op d n m imm) (w : World) :
    Calls Tryd.prog 11 #[.agg #[.int .i8 op, .int .i8 d, .int .i8 n, .int .i8 m, .int .i64 imm]] w fun e w' => e = .returned (.tuple #[.int .u32 0, .int .i64 60]) ∧ Kp w w' := rencode_no op d n m imm w h
theorem rmiss {op d n m imm : Int} (h : OkA op d n m imm) (w : World) :
    Calls Tryd.prog 11 #[.agg #[.int .i8 op, .int .i8 d, .int .i8 n, .int .i8 m, .int .i64 imm]] w fun e w' => e = .returned (.tuple #[.int .u32 (encN op d n m imm), .int .i64 0]) ∧ Kp w w' := by
  have := rencode_any op d n m imm w
  rw [show encR op d n m imm = encN op d n m imm from if_pos h, show encE op d n m imm = 0 from if_pos h] at this
  exact this
set_option maxRecDepth 20000 in
set_option maxHeartbeats 40000000 in
theorem rdec_any (W : Nat) (w : World) (hW : W < 4294967296) :
    Calls Tryd.prog 8 #[.int .u32 W] w fun e w' => ∃ op d n m imm, e = .returned (.agg (insV op d n m imm)) ∧ DecOk W op d n m imm ∧ Kp w w' := by
  have a0 := dnm_word W 0 hW
  have a1 := dnm_word W 5 hW
  have a2 := dnm_word W 16 hW
  rw [Nat.pow_zero, Nat.div_one] at a0
  rw [show (2 : Nat) ^ 5 = 32 from rfl, Int.natCast_ediv] at a1
  rw [show (2 : Nat) ^ 16 = 65536 from rfl, Int.natCast_ediv] at a2
  obtain ⟨A, hA⟩ : ∃ A, A = W % 32 := ⟨_, rfl⟩
  obtain ⟨B, hB⟩ : ∃ B, B = W / 32 % 32 := ⟨_, rfl⟩
  obtain ⟨C, hC⟩ : ∃ C, C = W / 65536 % 32 := ⟨_, rfl⟩
  rw [← hA] at a0
  rw [← hB] at a1
  rw [← hC] at a2
  have HA := Lib.hid hA
  have HB := Lib.hid hB
  have HC := Lib.hid hC
  have A0 := Lib.hid a0
  have A1 := Lib.hid a1
  have A2 := Lib.hid a2
  clear hA hB hC a0 a1 a2
  go_enter Tryd.func8, Tryd.ntmps8
  go_wp2_with fail
  have b1 : IntKind.i8.wrap (bits .and .u32 ((W : Int) / 32) 31) = (B : Int) := A1.out
  have b2 : IntKind.i8.wrap (bits .and .u32 ((W : Int) / 65536) 31) = (C : Int) := A2.out
  rw [A0.out, b1, b2]
  clear b1 b2
  have HW := Lib.hid hW
  clear hW
  go_loopw [7, 8, 9, 10] (fun s7 s8 s9 s10 wr => ∃ k : Nat, k ≤ 18 ∧ s7 = .int .i8 k ∧ RNot W k ∧ Kp w wr ∧ Blk wr w.heap.size zero5 25) (fun s7 s8 s9 s10 _ => 18 - (intOf s7).toNat)
  case atStart => exact ⟨0, by omega, rfl, fun j hj => by omega, kpA _ _ _, Blk.new _ _ _⟩
  case round =>
    obtain ⟨k, hk, rfl, hN, hkw, hZ⟩ := hrel
    have HN := Lib.hid hN
    have HK := Lib.hid hkw
    have HZ := Lib.hid hZ
    clear hN hkw hZ
    obtain ⟨w3, rfl⟩ : ∃ w3, w3 = wr := ⟨_, rfl⟩
    by_cases k18 : k = 18
    · subst k18
      clear hk
      go_wp2_with (first
        | (refine wpList_store_row rfl 25 (.tmp 2) (.tmp 105) rfl w.heap.size (insV 18 0 0 0 0) rfl rfl _ _ HZ.out (by kernel_rfl) rfl (by simp [insV, Value.oneCell']) ?_))
      refine bodyPost_ret (results_cell_row rfl _ _ _ _ _ _ _ rfl (HZ.out.setRow (insV 18 0 0 0 0)) Tryd.underlying25 rfl (by kernel_rfl)) rfl ?_
      exact ⟨18, 0, 0, 0, 0, rfl, HN.out.all, HK.out.setRow (Nat.le_refl _) _⟩
    have k17 : k < 18 := by omega
    clear k18 hk
    obtain rfl | rfl | rfl | rfl | rfl | rfl | rfl | rfl | rfl | rfl | rfl | rfl | rfl | rfl | rfl | rfl | rfl | rfl : k = 0 ∨ k = 1 ∨ k = 2 ∨ k = 3 ∨ k = 4 ∨ k = 5 ∨ k = 6 ∨ k = 7 ∨ k = 8 ∨ k = 9 ∨ k = 10 ∨ k = 11 ∨ k = 12 ∨ k = 13 ∨ k = 14 ∨ k = 15 ∨ k = 16 ∨ k = 17 := by omega
    · have ER : Hid ((rrD 0 W : Int) = 0 ∧ (rrN 0 W : Int) = 0 ∧ (rrM 0 W : Int) = 0 ∧ rrI 0 W = 0) := Lib.hid ⟨by rfl, by rfl, by rfl, by show ((W / 2 ^ 0 % 2 ^ 0 : Nat) : Int) = 0; rw [Nat.pow_zero, Nat.mod_one]; rfl⟩
      clear k17
      by_cases hx : OkA 0 0 0 0 0 ∧ encN 0 0 0 0 0 = W
      · have HX := Lib.hid hx
        clear hx
        go_wp2_with (first
          | (go_at_call 11; refine (rhit HX.out _).mono ?_; rintro e w2 ⟨rfl, hg⟩; have HI2 : Hid (Blk w2 w3.heap.size (insV 0 0 0 0 0) 25) := Lib.hid ((Blk.new w3 (insV 0 0 0 0 0) 25).kp hg); have HZ2 : Hid (Blk w2 w.heap.size zero5 25) := Lib.hid ((HZ.out.alloc _).kp hg); have K2 : Hid (Kp w w2) := Lib.hid ((HK.out.alloc _ _).trans hg); clear hg)
          | (refine wpList_load_row rfl 25 (.tmp 8) rfl w3.heap.size rfl _ _ _ _ HI2.out Tryd.underlying25 rfl (by kernel_rfl) ?_)
          | (refine wpList_store_row rfl 25 (.tmp 2) (.tmp 104) rfl w.heap.size (insV 0 0 0 0 0) rfl rfl _ _ HZ2.out (by kernel_rfl) rfl (by simp [insV, Value.oneCell']) ?_))
        refine bodyPost_ret (results_cell_row rfl _ _ _ _ _ _ _ rfl (HZ2.out.setRow (insV 0 0 0 0 0)) Tryd.underlying25 rfl (by kernel_rfl)) rfl ?_
        exact ⟨0, 0, 0, 0, 0, rfl, .inl HX.out, K2.out.setRow (Nat.le_refl _) _⟩
      · have HX : Hid (¬ (OkA 0 (rrD 0 W) (rrN 0 W) (rrM 0 W) (rrI 0 W) ∧ encN 0 (rrD 0 W) (rrN 0 W) (rrM 0 W) (rrI 0 W) = W)) := Lib.hid (by rw [ER.out.1, ER.out.2.1, ER.out.2.2.1, ER.out.2.2.2]; exact hx)
        by_cases ho : OkA 0 0 0 0 0
        · have hne : ((encN 0 0 0 0 0 : Int) == (W : Int)) = false := by
            have : encN 0 0 0 0 0 ≠ W := fun h => hx ⟨ho, h⟩
            simp; omega
          have HO := Lib.hid ho
          clear ho hx
          go_wp2_with (first
            | (go_at_call 11; refine (rmiss HO.out _).mono ?_; rintro e w2 ⟨rfl, hg⟩; have HI2 : Hid (Blk w2 w3.heap.size (insV 0 0 0 0 0) 25) := Lib.hid ((Blk.new w3 (insV 0 0 0 0 0) 25).kp hg); have HZ2 : Hid (Blk w2 w.heap.size zero5 25) := Lib.hid ((HZ.out.alloc _).kp hg); have K2 : Hid (Kp w w2) := Lib.hid ((HK.out.alloc _ _).trans hg); clear hg))
          go_roundw
          case rel => exact ⟨1, by decide, rfl, HN.out.succ HX.out, K2.out, HZ2.out⟩
          case measure => simp [intOf]
        · have HO := Lib.hid ho
          clear ho hx
          go_wp2_with (first
            | (go_at_call 11; refine (rbad HO.out _).mono ?_; rintro e w2 ⟨rfl, hg⟩; have HI2 : Hid (Blk w2 w3.heap.size (insV 0 0 0 0 0) 25) := Lib.hid ((Blk.new w3 (insV 0 0 0 0 0) 25).kp hg); have HZ2 : Hid (Blk w2 w.heap.size zero5 25) := Lib.hid ((HZ.out.alloc _).kp hg); have K2 : Hid (Kp w w2) := Lib.hid ((HK.out.alloc _ _).trans hg); clear hg))
          go_roundw
          case rel => exact ⟨1, by decide, rfl, HN.out.succ HX.out, K2.out, HZ2.out⟩
          case measure => simp [intOf]
    · obtain ⟨V, hV⟩ : ∃ V, V = W / 32 % 65536 := ⟨_, rfl⟩
      have hv : (V : Int) < 65536 := by omega
      have HV := Lib.hid hV
      clear hV
      have ER : Hid ((rrD 1 W : Int) = A ∧ (rrN 1 W : Int) = 0 ∧ (rrM 1 W : Int) = 0 ∧ rrI 1 W = V) := Lib.hid ⟨by show ((W % 32 : Nat) : Int) = A; rw [HA.out], by rfl, by rfl, by show ((W / 32 % 65536 : Nat) : Int) = V; rw [HV.out]⟩
      clear k17
      by_cases hx : OkA 1 A 0 0 V ∧ encN 1 A 0 0 V = W
      · have HX := Lib.hid hx
        clear hx
        go_wp2_with (first
          | (go_at_call 18; refine (rget_w W 20 5 V _ HW.out (by decide) (by decide) HV.out).mono ?_; rintro e w9 ⟨rfl, rfl⟩)
          | (go_at_call 11; refine (rhit HX.out _).mono ?_; rintro e w2 ⟨rfl, hg⟩; have HI2 : Hid (Blk w2 w3.heap.size (insV 1 A 0 0 V) 25) := Lib.hid ((Blk.new w3 (insV 1 A 0 0 V) 25).kp hg); have HZ2 : Hid (Blk w2 w.heap.size zero5 25) := Lib.hid ((HZ.out.alloc _).kp hg); have K2 : Hid (Kp w w2) := Lib.hid ((HK.out.alloc _ _).trans hg); clear hg)
          | (refine wpList_load_row rfl 25 (.tmp 8) rfl w3.heap.size rfl _ _ _ _ HI2.out Tryd.underlying25 rfl (by kernel_rfl) ?_)
          | (refine wpList_store_row rfl 25 (.tmp 2) (.tmp 104) rfl w.heap.size (insV 1 A 0 0 V) rfl rfl _ _ HZ2.out (by kernel_rfl) rfl (by simp [insV, Value.oneCell']) ?_))
        refine bodyPost_ret (results_cell_row rfl _ _ _ _ _ _ _ rfl (HZ2.out.setRow (insV 1 A 0 0 V)) Tryd.underlying25 rfl (by kernel_rfl)) rfl ?_
        exact ⟨1, A, 0, 0, V, rfl, .inl HX.out, K2.out.setRow (Nat.le_refl _) _⟩
      · have HX : Hid (¬ (OkA 1 (rrD 1 W) (rrN 1 W) (rrM 1 W) (rrI 1 W) ∧ encN 1 (rrD 1 W) (rrN 1 W) (rrM 1 W) (rrI 1 W) = W)) := Lib.hid (by rw [ER.out.1, ER.out.2.1, ER.out.2.2.1, ER.out.2.2.2]; exact hx)
        by_cases ho : OkA 1 A 0 0 V
        · have hne : ((encN 1 A 0 0 V : Int) == (W : Int)) = false := by
            have : encN 1 A 0 0 V ≠ W := fun h => hx ⟨ho, h⟩
            simp; omega
          have HO := Lib.hid ho
          clear ho hx
          go_wp2_with (first
            | (go_at_call 18; refine (rget_w W 20 5 V _ HW.out (by decide) (by decide) HV.out).mono ?_; rintro e w9 ⟨rfl, rfl⟩)
            | (go_at_call 11; refine (rmiss HO.out _).mono ?_; rintro e w2 ⟨rfl, hg⟩; have HI2 : Hid (Blk w2 w3.heap.size (insV 1 A 0 0 V) 25) := Lib.hid ((Blk.new w3 (insV 1 A 0 0 V) 25).kp hg); have HZ2 : Hid (Blk w2 w.heap.size zero5 25) := Lib.hid ((HZ.out.alloc _).kp hg); have K2 : Hid (Kp w w2) := Lib.hid ((HK.out.alloc _ _).trans hg); clear hg))
          go_roundw
          case rel => exact ⟨2, by decide, rfl, HN.out.succ HX.out, K2.out, HZ2.out⟩
          case measure => simp [intOf]
        · have HO := Lib.hid ho
          clear ho hx
          go_wp2_with (first
            | (go_at_call 18; refine (rget_w W 20 5 V _ HW.out (by decide) (by decide) HV.out).mono ?_; rintro e w9 ⟨rfl, rfl⟩)
            | (go_at_call 11; refine (rbad HO.out _).mono ?_; rintro e w2 ⟨rfl, hg⟩; have HI2 : Hid (Blk w2 w3.heap.size (insV 1 A 0 0 V) 25) := Lib.hid ((Blk.new w3 (insV 1 A 0 0 V) 25).kp hg); have HZ2 : Hid (Blk w2 w.heap.size zero5 25) := Lib.hid ((HZ.out.alloc _).kp hg); have K2 : Hid (Kp w w2) := Lib.hid ((HK.out.alloc _ _).trans hg); clear hg))
          go_roundw
          case rel => exact ⟨2, by decide, rfl, HN.out.succ HX.out, K2.out, HZ2.out⟩
          case measure => simp [intOf]
    · have ER : Hid ((rrD 2 W : Int) = A ∧ (rrN 2 W : Int) = B ∧ (rrM 2 W : Int) = C ∧ rrI 2 W = 0) := Lib.hid ⟨by show ((W % 32 : Nat) : Int) = A; rw [HA.out], by show ((W / 32 % 32 : Nat) : Int) = B; rw [HB.out], by show ((W / 65536 % 32 : Nat) : Int) = C; rw [HC.out], by show ((W / 2 ^ 0 % 2 ^ 0 : Nat) : Int) = 0; rw [Nat.pow_zero, Nat.mod_one]; rfl⟩
      clear k17
      by_cases hx : OkA 2 A B C 0 ∧ encN 2 A B C 0 = W
      · have HX := Lib.hid hx
        clear hx
        go_wp2_with (first
          | (go_at_call 11; refine (rhit HX.out _).mono ?_; rintro e w2 ⟨rfl, hg⟩; have HI2 : Hid (Blk w2 w3.heap.size (insV 2 A B C 0) 25) := Lib.hid ((Blk.new w3 (insV 2 A B C 0) 25).kp hg); have HZ2 : Hid (Blk w2 w.heap.size zero5 25) := Lib.hid ((HZ.out.alloc _).kp hg); have K2 : Hid (Kp w w2) := Lib.hid ((HK.out.alloc _ _).trans hg); clear hg)
          | (refine wpList_load_row rfl 25 (.tmp 8) rfl w3.heap.size rfl _ _ _ _ HI2.out Tryd.underlying25 rfl (by kernel_rfl) ?_)
          | (refine wpList_store_row rfl 25 (.tmp 2) (.tmp 104) rfl w.heap.size (insV 2 A B C 0) rfl rfl _ _ HZ2.out (by kernel_rfl) rfl (by simp [insV, Value.oneCell']) ?_))
        refine bodyPost_ret (results_cell_row rfl _ _ _ _ _ _ _ rfl (HZ2.out.setRow (insV 2 A B C 0)) Tryd.underlying25 rfl (by kernel_rfl)) rfl ?_
        exact ⟨2, A, B, C, 0, rfl, .inl HX.out, K2.out.setRow (Nat.le_refl _) _⟩
      · have HX : Hid (¬ (OkA 2 (rrD 2 W) (rrN 2 W) (rrM 2 W) (rrI 2 W) ∧ encN 2 (rrD 2 W) (rrN 2 W) (rrM 2 W) (rrI 2 W) = W)) := Lib.hid (by rw [ER.out.1, ER.out.2.1, ER.out.2.2.1, ER.out.2.2.2]; exact hx)
        by_cases ho : OkA 2 A B C 0
        · have hne : ((encN 2 A B C 0 : Int) == (W : Int)) = false := by
            have : encN 2 A B C 0 ≠ W := fun h => hx ⟨ho, h⟩
            simp; omega
          have HO := Lib.hid ho
          clear ho hx
          go_wp2_with (first
            | (go_at_call 11; refine (rmiss HO.out _).mono ?_; rintro e w2 ⟨rfl, hg⟩; have HI2 : Hid (Blk w2 w3.heap.size (insV 2 A B C 0) 25) := Lib.hid ((Blk.new w3 (insV 2 A B C 0) 25).kp hg); have HZ2 : Hid (Blk w2 w.heap.size zero5 25) := Lib.hid ((HZ.out.alloc _).kp hg); have K2 : Hid (Kp w w2) := Lib.hid ((HK.out.alloc _ _).trans hg); clear hg))
          go_roundw
          case rel => exact ⟨3, by decide, rfl, HN.out.succ HX.out, K2.out, HZ2.out⟩
          case measure => simp [intOf]
        · have HO := Lib.hid ho
          clear ho hx
          go_wp2_with (first
            | (go_at_call 11; refine (rbad HO.out _).mono ?_; rintro e w2 ⟨rfl, hg⟩; have HI2 : Hid (Blk w2 w3.heap.size (insV 2 A B C 0) 25) := Lib.hid ((Blk.new w3 (insV 2 A B C 0) 25).kp hg); have HZ2 : Hid (Blk w2 w.heap.size zero5 25) := Lib.hid ((HZ.out.alloc _).kp hg); have K2 : Hid (Kp w w2) := Lib.hid ((HK.out.alloc _ _).trans hg); clear hg))
          go_roundw
          case rel => exact ⟨3, by decide, rfl, HN.out.succ HX.out, K2.out, HZ2.out⟩
          case measure => simp [intOf]
    · have ER : Hid ((rrD 3 W : Int) = A ∧ (rrN 3 W : Int) = B ∧ (rrM 3 W : Int) = C ∧ rrI 3 W = 0) := Lib.hid ⟨by show ((W % 32 : Nat) : Int) = A; rw [HA.out], by show ((W / 32 % 32 : Nat) : Int) = B; rw [HB.out], by show ((W / 65536 % 32 : Nat) : Int) = C; rw [HC.out], by show ((W / 2 ^ 0 % 2 ^ 0 : Nat) : Int) = 0; rw [Nat.pow_zero, Nat.mod_one]; rfl⟩
      clear k17
      by_cases hx : OkA 3 A B C 0 ∧ encN 3 A B C 0 = W
      · have HX := Lib.hid hx
        clear hx
        go_wp2_with (first
          | (go_at_call 11; refine (rhit HX.out _).mono ?_; rintro e w2 ⟨rfl, hg⟩; have HI2 : Hid (Blk w2 w3.heap.size (insV 3 A B C 0) 25) := Lib.hid ((Blk.new w3 (insV 3 A B C 0) 25).kp hg); have HZ2 : Hid (Blk w2 w.heap.size zero5 25) := Lib.hid ((HZ.out.alloc _).kp hg); have K2 : Hid (Kp w w2) := Lib.hid ((HK.out.alloc _ _).trans hg); clear hg)
          | (refine wpList_load_row rfl 25 (.tmp 8) rfl w3.heap.size rfl _ _ _ _ HI2.out Tryd.underlying25 rfl (by kernel_rfl) ?_)
          | (refine wpList_store_row rfl 25 (.tmp 2) (.tmp 104) rfl w.heap.size (insV 3 A B C 0) rfl rfl _ _ HZ2.out (by kernel_rfl) rfl (by simp [insV, Value.oneCell']) ?_))
        refine bodyPost_ret (results_cell_row rfl _ _ _ _ _ _ _ rfl (HZ2.out.setRow (insV 3 A B C 0)) Tryd.underlying25 rfl (by kernel_rfl)) rfl ?_
        exact ⟨3, A, B, C, 0, rfl, .inl HX.out, K2.out.setRow (Nat.le_refl _) _⟩
      · have HX : Hid (¬ (OkA 3 (rrD 3 W) (rrN 3 W) (rrM 3 W) (rrI 3 W) ∧ encN 3 (rrD 3 W) (rrN 3 W) (rrM 3 W) (rrI 3 W) = W)) := Lib.hid (by rw [ER.out.1, ER.out.2.1, ER.out.2.2.1, ER.out.2.2.2]; exact hx)
        by_cases ho : OkA 3 A B C 0
        · have hne : ((encN 3 A B C 0 : Int) == (W : Int)) = false := by
            have : encN 3 A B C 0 ≠ W := fun h => hx ⟨ho, h⟩
            simp; omega
          have HO := Lib.hid ho
          clear ho hx
          go_wp2_with (first
            | (go_at_call 11; refine (rmiss HO.out _).mono ?_; rintro e w2 ⟨rfl, hg⟩; have HI2 : Hid (Blk w2 w3.heap.size (insV 3 A B C 0) 25) := Lib.hid ((Blk.new w3 (insV 3 A B C 0) 25).kp hg); have HZ2 : Hid (Blk w2 w.heap.size zero5 25) := Lib.hid ((HZ.out.alloc _).kp hg); have K2 : Hid (Kp w w2) := Lib.hid ((HK.out.alloc _ _).trans hg); clear hg))
          go_roundw
          case rel => exact ⟨4, by decide, rfl, HN.out.succ HX.out, K2.out, HZ2.out⟩
          case measure => simp [intOf]
        · have HO := Lib.hid ho
          clear ho hx
          go_wp2_with (first
            | (go_at_call 11; refine (rbad HO.out _).mono ?_; rintro e w2 ⟨rfl, hg⟩; have HI2 : Hid (Blk w2 w3.heap.size (insV 3 A B C 0) 25) := Lib.hid ((Blk.new w3 (insV 3 A B C 0) 25).kp hg); have HZ2 : Hid (Blk w2 w.heap.size zero5 25) := Lib.hid ((HZ.out.alloc _).kp hg); have K2 : Hid (Kp w w2) := Lib.hid ((HK.out.alloc _ _).trans hg); clear hg))
          go_roundw
          case rel => exact ⟨4, by decide, rfl, HN.out.succ HX.out, K2.out, HZ2.out⟩
          case measure => simp [intOf]
    · have ER : Hid ((rrD 4 W : Int) = A ∧ (rrN 4 W : Int) = B ∧ (rrM 4 W : Int) = C ∧ rrI 4 W = 0) := Lib.hid ⟨by show ((W % 32 : Nat) : Int) = A; rw [HA.out], by show ((W / 32 % 32 : Nat) : Int) = B; rw [HB.out], by show ((W / 65536 % 32 : Nat) : Int) = C; rw [HC.out], by show ((W / 2 ^ 0 % 2 ^ 0 : Nat) : Int) = 0; rw [Nat.pow_zero, Nat.mod_one]; rfl⟩
      clear k17
      by_cases hx : OkA 4 A B C 0 ∧ encN 4 A B C 0 = W
      · have HX := Lib.hid hx
        clear hx
        go_wp2_with (first
          | (go_at_call 11; refine (rhit HX.out _).mono ?_; rintro e w2 ⟨rfl, hg⟩; have HI2 : Hid (Blk w2 w3.heap.size (insV 4 A B C 0) 25) := Lib.hid ((Blk.new w3 (insV 4 A B C 0) 25).kp hg); have HZ2 : Hid (Blk w2 w.heap.size zero5 25) := Lib.hid ((HZ.out.alloc _).kp hg); have K2 : Hid (Kp w w2) := Lib.hid ((HK.out.alloc _ _).trans hg); clear hg)
          | (refine wpList_load_row rfl 25 (.tmp 8) rfl w3.heap.size rfl _ _ _ _ HI2.out Tryd.underlying25 rfl (by kernel_rfl) ?_)
          | (refine wpList_store_row rfl 25 (.tmp 2) (.tmp 104) rfl w.heap.size (insV 4 A B C 0) rfl rfl _ _ HZ2.out (by kernel_rfl) rfl (by simp [insV, Value.oneCell']) ?_))
        refine bodyPost_ret (results_cell_row rfl _ _ _ _ _ _ _ rfl (HZ2.out.setRow (insV 4 A B C 0)) Tryd.underlying25 rfl (by kernel_rfl)) rfl ?_
        exact ⟨4, A, B, C, 0, rfl, .inl HX.out, K2.out.setRow (Nat.le_refl _) _⟩
      · have HX : Hid (¬ (OkA 4 (rrD 4 W) (rrN 4 W) (rrM 4 W) (rrI 4 W) ∧ encN 4 (rrD 4 W) (rrN 4 W) (rrM 4 W) (rrI 4 W) = W)) := Lib.hid (by rw [ER.out.1, ER.out.2.1, ER.out.2.2.1, ER.out.2.2.2]; exact hx)
        by_cases ho : OkA 4 A B C 0
        · have hne : ((encN 4 A B C 0 : Int) == (W : Int)) = false := by
            have : encN 4 A B C 0 ≠ W := fun h => hx ⟨ho, h⟩
            simp; omega
          have HO := Lib.hid ho
          clear ho hx
          go_wp2_with (first
            | (go_at_call 11; refine (rmiss HO.out _).mono ?_; rintro e w2 ⟨rfl, hg⟩; have HI2 : Hid (Blk w2 w3.heap.size (insV 4 A B C 0) 25) := Lib.hid ((Blk.new w3 (insV 4 A B C 0) 25).kp hg); have HZ2 : Hid (Blk w2 w.heap.size zero5 25) := Lib.hid ((HZ.out.alloc _).kp hg); have K2 : Hid (Kp w w2) := Lib.hid ((HK.out.alloc _ _).trans hg); clear hg))
          go_roundw
          case rel => exact ⟨5, by decide, rfl, HN.out.succ HX.out, K2.out, HZ2.out⟩
          case measure => simp [intOf]
        · have HO := Lib.hid ho
          clear ho hx
          go_wp2_with (first
            | (go_at_call 11; refine (rbad HO.out _).mono ?_; rintro e w2 ⟨rfl, hg⟩; have HI2 : Hid (Blk w2 w3.heap.size (insV 4 A B C 0) 25) := Lib.hid ((Blk.new w3 (insV 4 A B C 0) 25).kp hg); have HZ2 : Hid (Blk w2 w.heap.size zero5 25) := Lib.hid ((HZ.out.alloc _).kp hg); have K2 : Hid (Kp w w2) := Lib.hid ((HK.out.alloc _ _).trans hg); clear hg))
          go_roundw
          case rel => exact ⟨5, by decide, rfl, HN.out.succ HX.out, K2.out, HZ2.out⟩
          case measure => simp [intOf]
    · have ER : Hid ((rrD 5 W : Int) = A ∧ (rrN 5 W : Int) = B ∧ (rrM 5 W : Int) = C ∧ rrI 5 W = 0) := Lib.hid ⟨by show ((W % 32 : Nat) : Int) = A; rw [HA.out], by show ((W / 32 % 32 : Nat) : Int) = B; rw [HB.out], by show ((W / 65536 % 32 : Nat) : Int) = C; rw [HC.out], by show ((W / 2 ^ 0 % 2 ^ 0 : Nat) : Int) = 0; rw [Nat.pow_zero, Nat.mod_one]; rfl⟩
      clear k17
      by_cases hx : OkA 5 A B C 0 ∧ encN 5 A B C 0 = W
      · have HX := Lib.hid hx
        clear hx
        go_wp2_with (first
          | (go_at_call 11; refine (rhit HX.out _).mono ?_; rintro e w2 ⟨rfl, hg⟩; have HI2 : Hid (Blk w2 w3.heap.size (insV 5 A B C 0) 25) := Lib.hid ((Blk.new w3 (insV 5 A B C 0) 25).kp hg); have HZ2 : Hid (Blk w2 w.heap.size zero5 25) := Lib.hid ((HZ.out.alloc _).kp hg); have K2 : Hid (Kp w w2) := Lib.hid ((HK.out.alloc _ _).trans hg); clear hg)
          | (refine wpList_load_row rfl 25 (.tmp 8) rfl w3.heap.size rfl _ _ _ _ HI2.out Tryd.underlying25 rfl (by kernel_rfl) ?_)
          | (refine wpList_store_row rfl 25 (.tmp 2) (.tmp 104) rfl w.heap.size (insV 5 A B C 0) rfl rfl _ _ HZ2.out (by kernel_rfl) rfl (by simp [insV, Value.oneCell']) ?_))
        refine bodyPost_ret (results_cell_row rfl _ _ _ _ _ _ _ rfl (HZ2.out.setRow (insV 5 A B C 0)) Tryd.underlying25 rfl (by kernel_rfl)) rfl ?_
        exact ⟨5, A, B, C, 0, rfl, .inl HX.out, K2.out.setRow (Nat.le_refl _) _⟩
      · have HX : Hid (¬ (OkA 5 (rrD 5 W) (rrN 5 W) (rrM 5 W) (rrI 5 W) ∧ encN 5 (rrD 5 W) (rrN 5 W) (rrM 5 W) (rrI 5 W) = W)) := Lib.hid (by rw [ER.out.1, ER.out.2.1, ER.out.2.2.1, ER.out.2.2.2]; exact hx)
        by_cases ho : OkA 5 A B C 0
        · have hne : ((encN 5 A B C 0 : Int) == (W : Int)) = false := by
            have : encN 5 A B C 0 ≠ W := fun h => hx ⟨ho, h⟩
            simp; omega
          have HO := Lib.hid ho
          clear ho hx
          go_wp2_with (first
            | (go_at_call 11; refine (rmiss HO.out _).mono ?_; rintro e w2 ⟨rfl, hg⟩; have HI2 : Hid (Blk w2 w3.heap.size (insV 5 A B C 0) 25) := Lib.hid ((Blk.new w3 (insV 5 A B C 0) 25).kp hg); have HZ2 : Hid (Blk w2 w.heap.size zero5 25) := Lib.hid ((HZ.out.alloc _).kp hg); have K2 : Hid (Kp w w2) := Lib.hid ((HK.out.alloc _ _).trans hg); clear hg))
          go_roundw
          case rel => exact ⟨6, by decide, rfl, HN.out.succ HX.out, K2.out, HZ2.out⟩
          case measure => simp [intOf]
        · have HO := Lib.hid ho
          clear ho hx
          go_wp2_with (first
            | (go_at_call 11; refine (rbad HO.out _).mono ?_; rintro e w2 ⟨rfl, hg⟩; have HI2 : Hid (Blk w2 w3.heap.size (insV 5 A B C 0) 25) := Lib.hid ((Blk.new w3 (insV 5 A B C 0) 25).kp hg); have HZ2 : Hid (Blk w2 w.heap.size zero5 25) := Lib.hid ((HZ.out.alloc _).kp hg); have K2 : Hid (Kp w w2) := Lib.hid ((HK.out.alloc _ _).trans hg); clear hg))
          go_roundw
          case rel => exact ⟨6, by decide, rfl, HN.out.succ HX.out, K2.out, HZ2.out⟩
          case measure => simp [intOf]
    · have ER : Hid ((rrD 6 W : Int) = A ∧ (rrN 6 W : Int) = B ∧ (rrM 6 W : Int) = C ∧ rrI 6 W = 0) := Lib.hid ⟨by show ((W % 32 : Nat) : Int) = A; rw [HA.out], by show ((W / 32 % 32 : Nat) : Int) = B; rw [HB.out], by show ((W / 65536 % 32 : Nat) : Int) = C; rw [HC.out], by show ((W / 2 ^ 0 % 2 ^ 0 : Nat) : Int) = 0; rw [Nat.pow_zero, Nat.mod_one]; rfl⟩
      clear k17
      by_cases hx : OkA 6 A B C 0 ∧ encN 6 A B C 0 = W
      · have HX := Lib.hid hx
        clear hx
        go_wp2_with (first
          | (go_at_call 11; refine (rhit HX.out _).mono ?_; rintro e w2 ⟨rfl, hg⟩; have HI2 : Hid (Blk w2 w3.heap.size (insV 6 A B C 0) 25) := Lib.hid ((Blk.new w3 (insV 6 A B C 0) 25).kp hg); have HZ2 : Hid (Blk w2 w.heap.size zero5 25) := Lib.hid ((HZ.out.alloc _).kp hg); have K2 : Hid (Kp w w2) := Lib.hid ((HK.out.alloc _ _).trans hg); clear hg)
          | (refine wpList_load_row rfl 25 (.tmp 8) rfl w3.heap.size rfl _ _ _ _ HI2.out Tryd.underlying25 rfl (by kernel_rfl) ?_)
          | (refine wpList_store_row rfl 25 (.tmp 2) (.tmp 104) rfl w.heap.size (insV 6 A B C 0) rfl rfl _ _ HZ2.out (by kernel_rfl) rfl (by simp [insV, Value.oneCell']) ?_))
        refine bodyPost_ret (results_cell_row rfl _ _ _ _ _ _ _ rfl (HZ2.out.setRow (insV 6 A B C 0)) Tryd.underlying25 rfl (by kernel_rfl)) rfl ?_
        exact ⟨6, A, B, C, 0, rfl, .inl HX.out, K2.out.setRow (Nat.le_refl _) _⟩
      · have HX : Hid (¬ (OkA 6 (rrD 6 W) (rrN 6 W) (rrM 6 W) (rrI 6 W) ∧ encN 6 (rrD 6 W) (rrN 6 W) (rrM 6 W) (rrI 6 W) = W)) := Lib.hid (by rw [ER.out.1, ER.out.2.1, ER.out.2.2.1, ER.out.2.2.2]; exact hx)
        by_cases ho : OkA 6 A B C 0
        · have hne : ((encN 6 A B C 0 : Int) == (W : Int)) = false := by
            have : encN 6 A B C 0 ≠ W := fun h => hx ⟨ho, h⟩
            simp; omega
          have HO := Lib.hid ho
          clear ho hx
          go_wp2_with (first
            | (go_at_call 11; refine (rmiss HO.out _).mono ?_; rintro e w2 ⟨rfl, hg⟩; have HI2 : Hid (Blk w2 w3.heap.size (insV 6 A B C 0) 25) := Lib.hid ((Blk.new w3 (insV 6 A B C 0) 25).kp hg); have HZ2 : Hid (Blk w2 w.heap.size zero5 25) := Lib.hid ((HZ.out.alloc _).kp hg); have K2 : Hid (Kp w w2) := Lib.hid ((HK.out.alloc _ _).trans hg); clear hg))
          go_roundw
          case rel => exact ⟨7, by decide, rfl, HN.out.succ HX.out, K2.out, HZ2.out⟩
          case measure => simp [intOf]
        · have HO := Lib.hid ho
          clear ho hx
          go_wp2_with (first
            | (go_at_call 11; refine (rbad HO.out _).mono ?_; rintro e w2 ⟨rfl, hg⟩; have HI2 : Hid (Blk w2 w3.heap.size (insV 6 A B C 0) 25) := Lib.hid ((Blk.new w3 (insV 6 A B C 0) 25).kp hg); have HZ2 : Hid (Blk w2 w.heap.size zero5 25) := Lib.hid ((HZ.out.alloc _).kp hg); have K2 : Hid (Kp w w2) := Lib.hid ((HK.out.alloc _ _).trans hg); clear hg))
          go_roundw
          case rel => exact ⟨7, by decide, rfl, HN.out.succ HX.out, K2.out, HZ2.out⟩
          case measure => simp [intOf]
    · obtain ⟨V, hV⟩ : ∃ V, V = W / 1024 % 4096 := ⟨_, rfl⟩
      have hv : (V : Int) < 4096 := by omega
      have HV := Lib.hid hV
      clear hV
      by_cases h3 : W / 1073741824 = 3
      · have HT := Lib.hid h3
        have q3 : ((W : Int) / 1073741824 == 3) = true := by simp; omega
        clear h3
        have ER : Hid ((rrD 7 W : Int) = A ∧ (rrN 7 W : Int) = B ∧ (rrM 7 W : Int) = 0 ∧ rrI 7 W = (-V)) := Lib.hid ⟨by show ((W % 32 : Nat) : Int) = A; rw [HA.out], by show ((W / 32 % 32 : Nat) : Int) = B; rw [HB.out], by rfl, by show (if (7 : Nat) = 7 ∧ W / 1073741824 = 3 then -((W / 1024 % 4096 : Nat) : Int) else ((W / 1024 % 4096 : Nat) : Int)) = -V; rw [if_pos ⟨rfl, HT.out⟩, HV.out]⟩
        clear k17
        by_cases hx : OkA 7 A B 0 (-V) ∧ encN 7 A B 0 (-V) = W
        · have HX := Lib.hid hx
          clear hx
          go_wp2_with (first
            | (go_at_call 18; refine (rget_w W 21 10 V _ HW.out (by decide) (by decide) HV.out).mono ?_; rintro e w9 ⟨rfl, rfl⟩)
            | (go_at_call 11; refine (rhit HX.out _).mono ?_; rintro e w2 ⟨rfl, hg⟩; have HI2 : Hid (Blk w2 w3.heap.size (insV 7 A B 0 (-V)) 25) := Lib.hid ((Blk.new w3 (insV 7 A B 0 (-V)) 25).kp hg); have HZ2 : Hid (Blk w2 w.heap.size zero5 25) := Lib.hid ((HZ.out.alloc _).kp hg); have K2 : Hid (Kp w w2) := Lib.hid ((HK.out.alloc _ _).trans hg); clear hg)
            | (refine wpList_load_row rfl 25 (.tmp 8) rfl w3.heap.size rfl _ _ _ _ HI2.out Tryd.underlying25 rfl (by kernel_rfl) ?_)
            | (refine wpList_store_row rfl 25 (.tmp 2) (.tmp 104) rfl w.heap.size (insV 7 A B 0 (-V)) rfl rfl _ _ HZ2.out (by kernel_rfl) rfl (by simp [insV, Value.oneCell']) ?_))
          refine bodyPost_ret (results_cell_row rfl _ _ _ _ _ _ _ rfl (HZ2.out.setRow (insV 7 A B 0 (-V))) Tryd.underlying25 rfl (by kernel_rfl)) rfl ?_
          exact ⟨7, A, B, 0, (-V), rfl, .inl HX.out, K2.out.setRow (Nat.le_refl _) _⟩
        · have HX : Hid (¬ (OkA 7 (rrD 7 W) (rrN 7 W) (rrM 7 W) (rrI 7 W) ∧ encN 7 (rrD 7 W) (rrN 7 W) (rrM 7 W) (rrI 7 W) = W)) := Lib.hid (by rw [ER.out.1, ER.out.2.1, ER.out.2.2.1, ER.out.2.2.2]; exact hx)
          by_cases ho : OkA 7 A B 0 (-V)
          · have hne : ((encN 7 A B 0 (-V) : Int) == (W : Int)) = false := by
              have : encN 7 A B 0 (-V) ≠ W := fun h => hx ⟨ho, h⟩
              simp; omega
            have HO := Lib.hid ho
            clear ho hx
            go_wp2_with (first
              | (go_at_call 18; refine (rget_w W 21 10 V _ HW.out (by decide) (by decide) HV.out).mono ?_; rintro e w9 ⟨rfl, rfl⟩)
              | (go_at_call 11; refine (rmiss HO.out _).mono ?_; rintro e w2 ⟨rfl, hg⟩; have HI2 : Hid (Blk w2 w3.heap.size (insV 7 A B 0 (-V)) 25) := Lib.hid ((Blk.new w3 (insV 7 A B 0 (-V)) 25).kp hg); have HZ2 : Hid (Blk w2 w.heap.size zero5 25) := Lib.hid ((HZ.out.alloc _).kp hg); have K2 : Hid (Kp w w2) := Lib.hid ((HK.out.alloc _ _).trans hg); clear hg))
            go_roundw
            case rel => exact ⟨8, by decide, rfl, HN.out.succ HX.out, K2.out, HZ2.out⟩
            case measure => simp [intOf]
          · have HO := Lib.hid ho
            clear ho hx
            go_wp2_with (first
              | (go_at_call 18; refine (rget_w W 21 10 V _ HW.out (by decide) (by decide) HV.out).mono ?_; rintro e w9 ⟨rfl, rfl⟩)
              | (go_at_call 11; refine (rbad HO.out _).mono ?_; rintro e w2 ⟨rfl, hg⟩; have HI2 : Hid (Blk w2 w3.heap.size (insV 7 A B 0 (-V)) 25) := Lib.hid ((Blk.new w3 (insV 7 A B 0 (-V)) 25).kp hg); have HZ2 : Hid (Blk w2 w.heap.size zero5 25) := Lib.hid ((HZ.out.alloc _).kp hg); have K2 : Hid (Kp w w2) := Lib.hid ((HK.out.alloc _ _).trans hg); clear hg))
            go_roundw
            case rel => exact ⟨8, by decide, rfl, HN.out.succ HX.out, K2.out, HZ2.out⟩
            case measure => simp [intOf]
      · have HT := Lib.hid h3
        have q3 : ((W : Int) / 1073741824 == 3) = false := by simp; omega
        clear h3
        have ER : Hid ((rrD 7 W : Int) = A ∧ (rrN 7 W : Int) = B ∧ (rrM 7 W : Int) = 0 ∧ rrI 7 W = V) := Lib.hid ⟨by show ((W % 32 : Nat) : Int) = A; rw [HA.out], by show ((W / 32 % 32 : Nat) : Int) = B; rw [HB.out], by rfl, by show (if (7 : Nat) = 7 ∧ W / 1073741824 = 3 then -((W / 1024 % 4096 : Nat) : Int) else ((W / 1024 % 4096 : Nat) : Int)) = V; rw [if_neg (fun h => HT.out h.2), HV.out]⟩
        clear k17
        by_cases hx : OkA 7 A B 0 V ∧ encN 7 A B 0 V = W
        · have HX := Lib.hid hx
          clear hx
          go_wp2_with (first
            | (go_at_call 18; refine (rget_w W 21 10 V _ HW.out (by decide) (by decide) HV.out).mono ?_; rintro e w9 ⟨rfl, rfl⟩)
            | (go_at_call 11; refine (rhit HX.out _).mono ?_; rintro e w2 ⟨rfl, hg⟩; have HI2 : Hid (Blk w2 w3.heap.size (insV 7 A B 0 V) 25) := Lib.hid ((Blk.new w3 (insV 7 A B 0 V) 25).kp hg); have HZ2 : Hid (Blk w2 w.heap.size zero5 25) := Lib.hid ((HZ.out.alloc _).kp hg); have K2 : Hid (Kp w w2) := Lib.hid ((HK.out.alloc _ _).trans hg); clear hg)
            | (refine wpList_load_row rfl 25 (.tmp 8) rfl w3.heap.size rfl _ _ _ _ HI2.out Tryd.underlying25 rfl (by kernel_rfl) ?_)
            | (refine wpList_store_row rfl 25 (.tmp 2) (.tmp 104) rfl w.heap.size (insV 7 A B 0 V) rfl rfl _ _ HZ2.out (by kernel_rfl) rfl (by simp [insV, Value.oneCell']) ?_))
          refine bodyPost_ret (results_cell_row rfl _ _ _ _ _ _ _ rfl (HZ2.out.setRow (insV 7 A B 0 V)) Tryd.underlying25 rfl (by kernel_rfl)) rfl ?_
          exact ⟨7, A, B, 0, V, rfl, .inl HX.out, K2.out.setRow (Nat.le_refl _) _⟩
        · have HX : Hid (¬ (OkA 7 (rrD 7 W) (rrN 7 W) (rrM 7 W) (rrI 7 W) ∧ encN 7 (rrD 7 W) (rrN 7 W) (rrM 7 W) (rrI 7 W) = W)) := Lib.hid (by rw [ER.out.1, ER.out.2.1, ER.out.2.2.1, ER.out.2.2.2]; exact hx)
          by_cases ho : OkA 7 A B 0 V
          · have hne : ((encN 7 A B 0 V : Int) == (W : Int)) = false := by
              have : encN 7 A B 0 V ≠ W := fun h => hx ⟨ho, h⟩
              simp; omega
            have HO := Lib.hid ho
            clear ho hx
            go_wp2_with (first
              | (go_at_call 18; refine (rget_w W 21 10 V _ HW.out (by decide) (by decide) HV.out).mono ?_; rintro e w9 ⟨rfl, rfl⟩)
              | (go_at_call 11; refine (rmiss HO.out _).mono ?_; rintro e w2 ⟨rfl, hg⟩; have HI2 : Hid (Blk w2 w3.heap.size (insV 7 A B 0 V) 25) := Lib.hid ((Blk.new w3 (insV 7 A B 0 V) 25).kp hg); have HZ2 : Hid (Blk w2 w.heap.size zero5 25) := Lib.hid ((HZ.out.alloc _).kp hg); have K2 : Hid (Kp w w2) := Lib.hid ((HK.out.alloc _ _).trans hg); clear hg))
            go_roundw
            case rel => exact ⟨8, by decide, rfl, HN.out.succ HX.out, K2.out, HZ2.out⟩
            case measure => simp [intOf]
          · have HO := Lib.hid ho
            clear ho hx
            go_wp2_with (first
              | (go_at_call 18; refine (rget_w W 21 10 V _ HW.out (by decide) (by decide) HV.out).mono ?_; rintro e w9 ⟨rfl, rfl⟩)
              | (go_at_call 11; refine (rbad HO.out _).mono ?_; rintro e w2 ⟨rfl, hg⟩; have HI2 : Hid (Blk w2 w3.heap.size (insV 7 A B 0 V) 25) := Lib.hid ((Blk.new w3 (insV 7 A B 0 V) 25).kp hg); have HZ2 : Hid (Blk w2 w.heap.size zero5 25) := Lib.hid ((HZ.out.alloc _).kp hg); have K2 : Hid (Kp w w2) := Lib.hid ((HK.out.alloc _ _).trans hg); clear hg))
            go_roundw
            case rel => exact ⟨8, by decide, rfl, HN.out.succ HX.out, K2.out, HZ2.out⟩
            case measure => simp [intOf]
    · have ER : Hid ((rrD 8 W : Int) = A ∧ (rrN 8 W : Int) = B ∧ (rrM 8 W : Int) = 0 ∧ rrI 8 W = 0) := Lib.hid ⟨by show ((W % 32 : Nat) : Int) = A; rw [HA.out], by show ((W / 32 % 32 : Nat) : Int) = B; rw [HB.out], by rfl, by show ((W / 2 ^ 0 % 2 ^ 0 : Nat) : Int) = 0; rw [Nat.pow_zero, Nat.mod_one]; rfl⟩
      clear k17
      by_cases hx : OkA 8 A B 0 0 ∧ encN 8 A B 0 0 = W
      · have HX := Lib.hid hx
        clear hx
        go_wp2_with (first
          | (go_at_call 11; refine (rhit HX.out _).mono ?_; rintro e w2 ⟨rfl, hg⟩; have HI2 : Hid (Blk w2 w3.heap.size (insV 8 A B 0 0) 25) := Lib.hid ((Blk.new w3 (insV 8 A B 0 0) 25).kp hg); have HZ2 : Hid (Blk w2 w.heap.size zero5 25) := Lib.hid ((HZ.out.alloc _).kp hg); have K2 : Hid (Kp w w2) := Lib.hid ((HK.out.alloc _ _).trans hg); clear hg)
          | (refine wpList_load_row rfl 25 (.tmp 8) rfl w3.heap.size rfl _ _ _ _ HI2.out Tryd.underlying25 rfl (by kernel_rfl) ?_)
          | (refine wpList_store_row rfl 25 (.tmp 2) (.tmp 104) rfl w.heap.size (insV 8 A B 0 0) rfl rfl _ _ HZ2.out (by kernel_rfl) rfl (by simp [insV, Value.oneCell']) ?_))
        refine bodyPost_ret (results_cell_row rfl _ _ _ _ _ _ _ rfl (HZ2.out.setRow (insV 8 A B 0 0)) Tryd.underlying25 rfl (by kernel_rfl)) rfl ?_
        exact ⟨8, A, B, 0, 0, rfl, .inl HX.out, K2.out.setRow (Nat.le_refl _) _⟩
      · have HX : Hid (¬ (OkA 8 (rrD 8 W) (rrN 8 W) (rrM 8 W) (rrI 8 W) ∧ encN 8 (rrD 8 W) (rrN 8 W) (rrM 8 W) (rrI 8 W) = W)) := Lib.hid (by rw [ER.out.1, ER.out.2.1, ER.out.2.2.1, ER.out.2.2.2]; exact hx)
        by_cases ho : OkA 8 A B 0 0
        · have hne : ((encN 8 A B 0 0 : Int) == (W : Int)) = false := by
            have : encN 8 A B 0 0 ≠ W := fun h => hx ⟨ho, h⟩
            simp; omega
          have HO := Lib.hid ho
          clear ho hx
          go_wp2_with (first
            | (go_at_call 11; refine (rmiss HO.out _).mono ?_; rintro e w2 ⟨rfl, hg⟩; have HI2 : Hid (Blk w2 w3.heap.size (insV 8 A B 0 0) 25) := Lib.hid ((Blk.new w3 (insV 8 A B 0 0) 25).kp hg); have HZ2 : Hid (Blk w2 w.heap.size zero5 25) := Lib.hid ((HZ.out.alloc _).kp hg); have K2 : Hid (Kp w w2) := Lib.hid ((HK.out.alloc _ _).trans hg); clear hg))
          go_roundw
          case rel => exact ⟨9, by decide, rfl, HN.out.succ HX.out, K2.out, HZ2.out⟩
          case measure => simp [intOf]
        · have HO := Lib.hid ho
          clear ho hx
          go_wp2_with (first
            | (go_at_call 11; refine (rbad HO.out _).mono ?_; rintro e w2 ⟨rfl, hg⟩; have HI2 : Hid (Blk w2 w3.heap.size (insV 8 A B 0 0) 25) := Lib.hid ((Blk.new w3 (insV 8 A B 0 0) 25).kp hg); have HZ2 : Hid (Blk w2 w.heap.size zero5 25) := Lib.hid ((HZ.out.alloc _).kp hg); have K2 : Hid (Kp w w2) := Lib.hid ((HK.out.alloc _ _).trans hg); clear hg))
          go_roundw
          case rel => exact ⟨9, by decide, rfl, HN.out.succ HX.out, K2.out, HZ2.out⟩
          case measure => simp [intOf]
    · have ER : Hid ((rrD 9 W : Int) = A ∧ (rrN 9 W : Int) = B ∧ (rrM 9 W : Int) = 0 ∧ rrI 9 W = 0) := Lib.hid ⟨by show ((W % 32 : Nat) : Int) = A; rw [HA.out], by show ((W / 32 % 32 : Nat) : Int) = B; rw [HB.out], by rfl, by show ((W / 2 ^ 0 % 2 ^ 0 : Nat) : Int) = 0; rw [Nat.pow_zero, Nat.mod_one]; rfl⟩
      clear k17
      by_cases hx : OkA 9 A B 0 0 ∧ encN 9 A B 0 0 = W
      · have HX := Lib.hid hx
        clear hx
        go_wp2_with (first
          | (go_at_call 11; refine (rhit HX.out _).mono ?_; rintro e w2 ⟨rfl, hg⟩; have HI2 : Hid (Blk w2 w3.heap.size (insV 9 A B 0 0) 25) := Lib.hid ((Blk.new w3 (insV 9 A B 0 0) 25).kp hg); have HZ2 : Hid (Blk w2 w.heap.size zero5 25) := Lib.hid ((HZ.out.alloc _).kp hg); have K2 : Hid (Kp w w2) := Lib.hid ((HK.out.alloc _ _).trans hg); clear hg)
          | (refine wpList_load_row rfl 25 (.tmp 8) rfl w3.heap.size rfl _ _ _ _ HI2.out Tryd.underlying25 rfl (by kernel_rfl) ?_)
          | (refine wpList_store_row rfl 25 (.tmp 2) (.tmp 104) rfl w.heap.size (insV 9 A B 0 0) rfl rfl _ _ HZ2.out (by kernel_rfl) rfl (by simp [insV, Value.oneCell']) ?_))
        refine bodyPost_ret (results_cell_row rfl _ _ _ _ _ _ _ rfl (HZ2.out.setRow (insV 9 A B 0 0)) Tryd.underlying25 rfl (by kernel_rfl)) rfl ?_
        exact ⟨9, A, B, 0, 0, rfl, .inl HX.out, K2.out.setRow (Nat.le_refl _) _⟩
      · have HX : Hid (¬ (OkA 9 (rrD 9 W) (rrN 9 W) (rrM 9 W) (rrI 9 W) ∧ encN 9 (rrD 9 W) (rrN 9 W) (rrM 9 W) (rrI 9 W) = W)) := Lib.hid (by rw [ER.out.1, ER.out.2.1, ER.out.2.2.1, ER.out.2.2.2]; exact hx)
        by_cases ho : OkA 9 A B 0 0
        · have hne : ((encN 9 A B 0 0 : Int) == (W : Int)) = false := by
            have : encN 9 A B 0 0 ≠ W := fun h => hx ⟨ho, h⟩
            simp; omega
          have HO := Lib.hid ho
          clear ho hx
          go_wp2_with (first
            | (go_at_call 11; refine (rmiss HO.out _).mono ?_; rintro e w2 ⟨rfl, hg⟩; have HI2 : Hid (Blk w2 w3.heap.size (insV 9 A B 0 0) 25) := Lib.hid ((Blk.new w3 (insV 9 A B 0 0) 25).kp hg); have HZ2 : Hid (Blk w2 w.heap.size zero5 25) := Lib.hid ((HZ.out.alloc _).kp hg); have K2 : Hid (Kp w w2) := Lib.hid ((HK.out.alloc _ _).trans hg); clear hg))
          go_roundw
          case rel => exact ⟨10, by decide, rfl, HN.out.succ HX.out, K2.out, HZ2.out⟩
          case measure => simp [intOf]
        · have HO := Lib.hid ho
          clear ho hx
          go_wp2_with (first
            | (go_at_call 11; refine (rbad HO.out _).mono ?_; rintro e w2 ⟨rfl, hg⟩; have HI2 : Hid (Blk w2 w3.heap.size (insV 9 A B 0 0) 25) := Lib.hid ((Blk.new w3 (insV 9 A B 0 0) 25).kp hg); have HZ2 : Hid (Blk w2 w.heap.size zero5 25) := Lib.hid ((HZ.out.alloc _).kp hg); have K2 : Hid (Kp w w2) := Lib.hid ((HK.out.alloc _ _).trans hg); clear hg))
          go_roundw
          case rel => exact ⟨10, by decide, rfl, HN.out.succ HX.out, K2.out, HZ2.out⟩
          case measure => simp [intOf]
    · have ER : Hid ((rrD 10 W : Int) = A ∧ (rrN 10 W : Int) = B ∧ (rrM 10 W : Int) = 0 ∧ rrI 10 W = 0) := Lib.hid ⟨by show ((W % 32 : Nat) : Int) = A; rw [HA.out], by show ((W / 32 % 32 : Nat) : Int) = B; rw [HB.out], by rfl, by show ((W / 2 ^ 0 % 2 ^ 0 : Nat) : Int) = 0; rw [Nat.pow_zero, Nat.mod_one]; rfl⟩
      clear k17
      by_cases hx : OkA 10 A B 0 0 ∧ encN 10 A B 0 0 = W
      · have HX := Lib.hid hx
        clear hx
        go_wp2_with (first
          | (go_at_call 11; refine (rhit HX.out _).mono ?_; rintro e w2 ⟨rfl, hg⟩; have HI2 : Hid (Blk w2 w3.heap.size (insV 10 A B 0 0) 25) := Lib.hid ((Blk.new w3 (insV 10 A B 0 0) 25).kp hg); have HZ2 : Hid (Blk w2 w.heap.size zero5 25) := Lib.hid ((HZ.out.alloc _).kp hg); have K2 : Hid (Kp w w2) := Lib.hid ((HK.out.alloc _ _).trans hg); clear hg)
          | (refine wpList_load_row rfl 25 (.tmp 8) rfl w3.heap.size rfl _ _ _ _ HI2.out Tryd.underlying25 rfl (by kernel_rfl) ?_)
          | (refine wpList_store_row rfl 25 (.tmp 2) (.tmp 104) rfl w.heap.size (insV 10 A B 0 0) rfl rfl _ _ HZ2.out (by kernel_rfl) rfl (by simp [insV, Value.oneCell']) ?_))
        refine bodyPost_ret (results_cell_row rfl _ _ _ _ _ _ _ rfl (HZ2.out.setRow (insV 10 A B 0 0)) Tryd.underlying25 rfl (by kernel_rfl)) rfl ?_
        exact ⟨10, A, B, 0, 0, rfl, .inl HX.out, K2.out.setRow (Nat.le_refl _) _⟩
      · have HX : Hid (¬ (OkA 10 (rrD 10 W) (rrN 10 W) (rrM 10 W) (rrI 10 W) ∧ encN 10 (rrD 10 W) (rrN 10 W) (rrM 10 W) (rrI 10 W) = W)) := Lib.hid (by rw [ER.out.1, ER.out.2.1, ER.out.2.2.1, ER.out.2.2.2]; exact hx)
        by_cases ho : OkA 10 A B 0 0
        · have hne : ((encN 10 A B 0 0 : Int) == (W : Int)) = false := by
            have : encN 10 A B 0 0 ≠ W := fun h => hx ⟨ho, h⟩
            simp; omega
          have HO := Lib.hid ho
          clear ho hx
          go_wp2_with (first
            | (go_at_call 11; refine (rmiss HO.out _).mono ?_; rintro e w2 ⟨rfl, hg⟩; have HI2 : Hid (Blk w2 w3.heap.size (insV 10 A B 0 0) 25) := Lib.hid ((Blk.new w3 (insV 10 A B 0 0) 25).kp hg); have HZ2 : Hid (Blk w2 w.heap.size zero5 25) := Lib.hid ((HZ.out.alloc _).kp hg); have K2 : Hid (Kp w w2) := Lib.hid ((HK.out.alloc _ _).trans hg); clear hg))
          go_roundw
          case rel => exact ⟨11, by decide, rfl, HN.out.succ HX.out, K2.out, HZ2.out⟩
          case measure => simp [intOf]
        · have HO := Lib.hid ho
          clear ho hx
          go_wp2_with (first
            | (go_at_call 11; refine (rbad HO.out _).mono ?_; rintro e w2 ⟨rfl, hg⟩; have HI2 : Hid (Blk w2 w3.heap.size (insV 10 A B 0 0) 25) := Lib.hid ((Blk.new w3 (insV 10 A B 0 0) 25).kp hg); have HZ2 : Hid (Blk w2 w.heap.size zero5 25) := Lib.hid ((HZ.out.alloc _).kp hg); have K2 : Hid (Kp w w2) := Lib.hid ((HK.out.alloc _ _).trans hg); clear hg))
          go_roundw
          case rel => exact ⟨11, by decide, rfl, HN.out.succ HX.out, K2.out, HZ2.out⟩
          case measure => simp [intOf]
    · have ER : Hid ((rrD 11 W : Int) = A ∧ (rrN 11 W : Int) = B ∧ (rrM 11 W : Int) = C ∧ rrI 11 W = 0) := Lib.hid ⟨by show ((W % 32 : Nat) : Int) = A; rw [HA.out], by show ((W / 32 % 32 : Nat) : Int) = B; rw [HB.out], by show ((W / 65536 % 32 : Nat) : Int) = C; rw [HC.out], by show ((W / 2 ^ 0 % 2 ^ 0 : Nat) : Int) = 0; rw [Nat.pow_zero, Nat.mod_one]; rfl⟩
      clear k17
      by_cases hx : OkA 11 A B C 0 ∧ encN 11 A B C 0 = W
      · have HX := Lib.hid hx
        clear hx
        go_wp2_with (first
          | (go_at_call 11; refine (rhit HX.out _).mono ?_; rintro e w2 ⟨rfl, hg⟩; have HI2 : Hid (Blk w2 w3.heap.size (insV 11 A B C 0) 25) := Lib.hid ((Blk.new w3 (insV 11 A B C 0) 25).kp hg); have HZ2 : Hid (Blk w2 w.heap.size zero5 25) := Lib.hid ((HZ.out.alloc _).kp hg); have K2 : Hid (Kp w w2) := Lib.hid ((HK.out.alloc _ _).trans hg); clear hg)
          | (refine wpList_load_row rfl 25 (.tmp 8) rfl w3.heap.size rfl _ _ _ _ HI2.out Tryd.underlying25 rfl (by kernel_rfl) ?_)
          | (refine wpList_store_row rfl 25 (.tmp 2) (.tmp 104) rfl w.heap.size (insV 11 A B C 0) rfl rfl _ _ HZ2.out (by kernel_rfl) rfl (by simp [insV, Value.oneCell']) ?_))
        refine bodyPost_ret (results_cell_row rfl _ _ _ _ _ _ _ rfl (HZ2.out.setRow (insV 11 A B C 0)) Tryd.underlying25 rfl (by kernel_rfl)) rfl ?_
        exact ⟨11, A, B, C, 0, rfl, .inl HX.out, K2.out.setRow (Nat.le_refl _) _⟩
      · have HX : Hid (¬ (OkA 11 (rrD 11 W) (rrN 11 W) (rrM 11 W) (rrI 11 W) ∧ encN 11 (rrD 11 W) (rrN 11 W) (rrM 11 W) (rrI 11 W) = W)) := Lib.hid (by rw [ER.out.1, ER.out.2.1, ER.out.2.2.1, ER.out.2.2.2]; exact hx)
        by_cases ho : OkA 11 A B C 0
        · have hne : ((encN 11 A B C 0 : Int) == (W : Int)) = false := by
            have : encN 11 A B C 0 ≠ W := fun h => hx ⟨ho, h⟩
            simp; omega
          have HO := Lib.hid ho
          clear ho hx
          go_wp2_with (first
            | (go_at_call 11; refine (rmiss HO.out _).mono ?_; rintro e w2 ⟨rfl, hg⟩; have HI2 : Hid (Blk w2 w3.heap.size (insV 11 A B C 0) 25) := Lib.hid ((Blk.new w3 (insV 11 A B C 0) 25).kp hg); have HZ2 : Hid (Blk w2 w.heap.size zero5 25) := Lib.hid ((HZ.out.alloc _).kp hg); have K2 : Hid (Kp w w2) := Lib.hid ((HK.out.alloc _ _).trans hg); clear hg))
          go_roundw
          case rel => exact ⟨12, by decide, rfl, HN.out.succ HX.out, K2.out, HZ2.out⟩
          case measure => simp [intOf]
        · have HO := Lib.hid ho
          clear ho hx
          go_wp2_with (first
            | (go_at_call 11; refine (rbad HO.out _).mono ?_; rintro e w2 ⟨rfl, hg⟩; have HI2 : Hid (Blk w2 w3.heap.size (insV 11 A B C 0) 25) := Lib.hid ((Blk.new w3 (insV 11 A B C 0) 25).kp hg); have HZ2 : Hid (Blk w2 w.heap.size zero5 25) := Lib.hid ((HZ.out.alloc _).kp hg); have K2 : Hid (Kp w w2) := Lib.hid ((HK.out.alloc _ _).trans hg); clear hg))
          go_roundw
          case rel => exact ⟨12, by decide, rfl, HN.out.succ HX.out, K2.out, HZ2.out⟩
          case measure => simp [intOf]
    · have ER : Hid ((rrD 12 W : Int) = A ∧ (rrN 12 W : Int) = B ∧ (rrM 12 W : Int) = 0 ∧ rrI 12 W = 0) := Lib.hid ⟨by show ((W % 32 : Nat) : Int) = A; rw [HA.out], by show ((W / 32 % 32 : Nat) : Int) = B; rw [HB.out], by rfl, by show ((W / 2 ^ 0 % 2 ^ 0 : Nat) : Int) = 0; rw [Nat.pow_zero, Nat.mod_one]; rfl⟩
      clear k17
      by_cases hx : OkA 12 A B 0 0 ∧ encN 12 A B 0 0 = W
      · have HX := Lib.hid hx
        clear hx
        go_wp2_with (first
          | (go_at_call 11; refine (rhit HX.out _).mono ?_; rintro e w2 ⟨rfl, hg⟩; have HI2 : Hid (Blk w2 w3.heap.size (insV 12 A B 0 0) 25) := Lib.hid ((Blk.new w3 (insV 12 A B 0 0) 25).kp hg); have HZ2 : Hid (Blk w2 w.heap.size zero5 25) := Lib.hid ((HZ.out.alloc _).kp hg); have K2 : Hid (Kp w w2) := Lib.hid ((HK.out.alloc _ _).trans hg); clear hg)
          | (refine wpList_load_row rfl 25 (.tmp 8) rfl w3.heap.size rfl _ _ _ _ HI2.out Tryd.underlying25 rfl (by kernel_rfl) ?_)
          | (refine wpList_store_row rfl 25 (.tmp 2) (.tmp 104) rfl w.heap.size (insV 12 A B 0 0) rfl rfl _ _ HZ2.out (by kernel_rfl) rfl (by simp [insV, Value.oneCell']) ?_))
        refine bodyPost_ret (results_cell_row rfl _ _ _ _ _ _ _ rfl (HZ2.out.setRow (insV 12 A B 0 0)) Tryd.underlying25 rfl (by kernel_rfl)) rfl ?_
        exact ⟨12, A, B, 0, 0, rfl, .inl HX.out, K2.out.setRow (Nat.le_refl _) _⟩
      · have HX : Hid (¬ (OkA 12 (rrD 12 W) (rrN 12 W) (rrM 12 W) (rrI 12 W) ∧ encN 12 (rrD 12 W) (rrN 12 W) (rrM 12 W) (rrI 12 W) = W)) := Lib.hid (by rw [ER.out.1, ER.out.2.1, ER.out.2.2.1, ER.out.2.2.2]; exact hx)
        by_cases ho : OkA 12 A B 0 0
        · have hne : ((encN 12 A B 0 0 : Int) == (W : Int)) = false := by
            have : encN 12 A B 0 0 ≠ W := fun h => hx ⟨ho, h⟩
            simp; omega
          have HO := Lib.hid ho
          clear ho hx
          go_wp2_with (first
            | (go_at_call 11; refine (rmiss HO.out _).mono ?_; rintro e w2 ⟨rfl, hg⟩; have HI2 : Hid (Blk w2 w3.heap.size (insV 12 A B 0 0) 25) := Lib.hid ((Blk.new w3 (insV 12 A B 0 0) 25).kp hg); have HZ2 : Hid (Blk w2 w.heap.size zero5 25) := Lib.hid ((HZ.out.alloc _).kp hg); have K2 : Hid (Kp w w2) := Lib.hid ((HK.out.alloc _ _).trans hg); clear hg))
          go_roundw
          case rel => exact ⟨13, by decide, rfl, HN.out.succ HX.out, K2.out, HZ2.out⟩
          case measure => simp [intOf]
        · have HO := Lib.hid ho
          clear ho hx
          go_wp2_with (first
            | (go_at_call 11; refine (rbad HO.out _).mono ?_; rintro e w2 ⟨rfl, hg⟩; have HI2 : Hid (Blk w2 w3.heap.size (insV 12 A B 0 0) 25) := Lib.hid ((Blk.new w3 (insV 12 A B 0 0) 25).kp hg); have HZ2 : Hid (Blk w2 w.heap.size zero5 25) := Lib.hid ((HZ.out.alloc _).kp hg); have K2 : Hid (Kp w w2) := Lib.hid ((HK.out.alloc _ _).trans hg); clear hg))
          go_roundw
          case rel => exact ⟨13, by decide, rfl, HN.out.succ HX.out, K2.out, HZ2.out⟩
          case measure => simp [intOf]
    · have ER : Hid ((rrD 13 W : Int) = 0 ∧ (rrN 13 W : Int) = 0 ∧ (rrM 13 W : Int) = 0 ∧ rrI 13 W = 0) := Lib.hid ⟨by rfl, by rfl, by rfl, by show ((W / 2 ^ 0 % 2 ^ 0 : Nat) : Int) = 0; rw [Nat.pow_zero, Nat.mod_one]; rfl⟩
      clear k17
      by_cases hx : OkA 13 0 0 0 0 ∧ encN 13 0 0 0 0 = W
      · have HX := Lib.hid hx
        clear hx
        go_wp2_with (first
          | (go_at_call 11; refine (rhit HX.out _).mono ?_; rintro e w2 ⟨rfl, hg⟩; have HI2 : Hid (Blk w2 w3.heap.size (insV 13 0 0 0 0) 25) := Lib.hid ((Blk.new w3 (insV 13 0 0 0 0) 25).kp hg); have HZ2 : Hid (Blk w2 w.heap.size zero5 25) := Lib.hid ((HZ.out.alloc _).kp hg); have K2 : Hid (Kp w w2) := Lib.hid ((HK.out.alloc _ _).trans hg); clear hg)
          | (refine wpList_load_row rfl 25 (.tmp 8) rfl w3.heap.size rfl _ _ _ _ HI2.out Tryd.underlying25 rfl (by kernel_rfl) ?_)
          | (refine wpList_store_row rfl 25 (.tmp 2) (.tmp 104) rfl w.heap.size (insV 13 0 0 0 0) rfl rfl _ _ HZ2.out (by kernel_rfl) rfl (by simp [insV, Value.oneCell']) ?_))
        refine bodyPost_ret (results_cell_row rfl _ _ _ _ _ _ _ rfl (HZ2.out.setRow (insV 13 0 0 0 0)) Tryd.underlying25 rfl (by kernel_rfl)) rfl ?_
        exact ⟨13, 0, 0, 0, 0, rfl, .inl HX.out, K2.out.setRow (Nat.le_refl _) _⟩
      · have HX : Hid (¬ (OkA 13 (rrD 13 W) (rrN 13 W) (rrM 13 W) (rrI 13 W) ∧ encN 13 (rrD 13 W) (rrN 13 W) (rrM 13 W) (rrI 13 W) = W)) := Lib.hid (by rw [ER.out.1, ER.out.2.1, ER.out.2.2.1, ER.out.2.2.2]; exact hx)
        by_cases ho : OkA 13 0 0 0 0
        · have hne : ((encN 13 0 0 0 0 : Int) == (W : Int)) = false := by
            have : encN 13 0 0 0 0 ≠ W := fun h => hx ⟨ho, h⟩
            simp; omega
          have HO := Lib.hid ho
          clear ho hx
          go_wp2_with (first
            | (go_at_call 11; refine (rmiss HO.out _).mono ?_; rintro e w2 ⟨rfl, hg⟩; have HI2 : Hid (Blk w2 w3.heap.size (insV 13 0 0 0 0) 25) := Lib.hid ((Blk.new w3 (insV 13 0 0 0 0) 25).kp hg); have HZ2 : Hid (Blk w2 w.heap.size zero5 25) := Lib.hid ((HZ.out.alloc _).kp hg); have K2 : Hid (Kp w w2) := Lib.hid ((HK.out.alloc _ _).trans hg); clear hg))
          go_roundw
          case rel => exact ⟨14, by decide, rfl, HN.out.succ HX.out, K2.out, HZ2.out⟩
          case measure => simp [intOf]
        · have HO := Lib.hid ho
          clear ho hx
          go_wp2_with (first
            | (go_at_call 11; refine (rbad HO.out _).mono ?_; rintro e w2 ⟨rfl, hg⟩; have HI2 : Hid (Blk w2 w3.heap.size (insV 13 0 0 0 0) 25) := Lib.hid ((Blk.new w3 (insV 13 0 0 0 0) 25).kp hg); have HZ2 : Hid (Blk w2 w.heap.size zero5 25) := Lib.hid ((HZ.out.alloc _).kp hg); have K2 : Hid (Kp w w2) := Lib.hid ((HK.out.alloc _ _).trans hg); clear hg))
          go_roundw
          case rel => exact ⟨14, by decide, rfl, HN.out.succ HX.out, K2.out, HZ2.out⟩
          case measure => simp [intOf]
    · obtain ⟨S, hS⟩ : ∃ S : Int, S = (W : Int) % 2 ^ 25 - (W : Int) / 2 ^ 25 % 2 * 2 ^ 25 := ⟨_, rfl⟩
      have HS := Lib.hid hS
      clear hS
      have ER : Hid ((rrD 14 W : Int) = 0 ∧ (rrN 14 W : Int) = 0 ∧ (rrM 14 W : Int) = 0 ∧ rrI 14 W = S) := Lib.hid ⟨by rfl, by rfl, by rfl, by have hw := HW.out; have hs := HS.out; simp [rrI, rdI, getN, fS, fLo, fWd, fsL, floL, fwdL]; omega⟩
      clear k17
      by_cases hx : OkA 14 0 0 0 S ∧ encN 14 0 0 0 S = W
      · have HX := Lib.hid hx
        clear hx
        go_wp2_with (first
          | (go_at_call 19; refine (rsign_w W 25 S _ HW.out (by decide) HS.out).mono ?_; rintro e w9 ⟨rfl, rfl⟩)
          | (go_at_call 11; refine (rhit HX.out _).mono ?_; rintro e w2 ⟨rfl, hg⟩; have HI2 : Hid (Blk w2 w3.heap.size (insV 14 0 0 0 S) 25) := Lib.hid ((Blk.new w3 (insV 14 0 0 0 S) 25).kp hg); have HZ2 : Hid (Blk w2 w.heap.size zero5 25) := Lib.hid ((HZ.out.alloc _).kp hg); have K2 : Hid (Kp w w2) := Lib.hid ((HK.out.alloc _ _).trans hg); clear hg)
          | (refine wpList_load_row rfl 25 (.tmp 8) rfl w3.heap.size rfl _ _ _ _ HI2.out Tryd.underlying25 rfl (by kernel_rfl) ?_)
          | (refine wpList_store_row rfl 25 (.tmp 2) (.tmp 104) rfl w.heap.size (insV 14 0 0 0 S) rfl rfl _ _ HZ2.out (by kernel_rfl) rfl (by simp [insV, Value.oneCell']) ?_))
        refine bodyPost_ret (results_cell_row rfl _ _ _ _ _ _ _ rfl (HZ2.out.setRow (insV 14 0 0 0 S)) Tryd.underlying25 rfl (by kernel_rfl)) rfl ?_
        exact ⟨14, 0, 0, 0, S, rfl, .inl HX.out, K2.out.setRow (Nat.le_refl _) _⟩
      · have HX : Hid (¬ (OkA 14 (rrD 14 W) (rrN 14 W) (rrM 14 W) (rrI 14 W) ∧ encN 14 (rrD 14 W) (rrN 14 W) (rrM 14 W) (rrI 14 W) = W)) := Lib.hid (by rw [ER.out.1, ER.out.2.1, ER.out.2.2.1, ER.out.2.2.2]; exact hx)
        by_cases ho : OkA 14 0 0 0 S
        · have hne : ((encN 14 0 0 0 S : Int) == (W : Int)) = false := by
            have : encN 14 0 0 0 S ≠ W := fun h => hx ⟨ho, h⟩
            simp; omega
          have HO := Lib.hid ho
          clear ho hx
          go_wp2_with (first
            | (go_at_call 19; refine (rsign_w W 25 S _ HW.out (by decide) HS.out).mono ?_; rintro e w9 ⟨rfl, rfl⟩)
            | (go_at_call 11; refine (rmiss HO.out _).mono ?_; rintro e w2 ⟨rfl, hg⟩; have HI2 : Hid (Blk w2 w3.heap.size (insV 14 0 0 0 S) 25) := Lib.hid ((Blk.new w3 (insV 14 0 0 0 S) 25).kp hg); have HZ2 : Hid (Blk w2 w.heap.size zero5 25) := Lib.hid ((HZ.out.alloc _).kp hg); have K2 : Hid (Kp w w2) := Lib.hid ((HK.out.alloc _ _).trans hg); clear hg))
          go_roundw
          case rel => exact ⟨15, by decide, rfl, HN.out.succ HX.out, K2.out, HZ2.out⟩
          case measure => simp [intOf]
        · have HO := Lib.hid ho
          clear ho hx
          go_wp2_with (first
            | (go_at_call 19; refine (rsign_w W 25 S _ HW.out (by decide) HS.out).mono ?_; rintro e w9 ⟨rfl, rfl⟩)
            | (go_at_call 11; refine (rbad HO.out _).mono ?_; rintro e w2 ⟨rfl, hg⟩; have HI2 : Hid (Blk w2 w3.heap.size (insV 14 0 0 0 S) 25) := Lib.hid ((Blk.new w3 (insV 14 0 0 0 S) 25).kp hg); have HZ2 : Hid (Blk w2 w.heap.size zero5 25) := Lib.hid ((HZ.out.alloc _).kp hg); have K2 : Hid (Kp w w2) := Lib.hid ((HK.out.alloc _ _).trans hg); clear hg))
          go_roundw
          case rel => exact ⟨15, by decide, rfl, HN.out.succ HX.out, K2.out, HZ2.out⟩
          case measure => simp [intOf]
    · obtain ⟨V, hV⟩ : ∃ V, V = W / 32 % 524288 := ⟨_, rfl⟩
      have HV := Lib.hid hV
      obtain ⟨S, hS⟩ : ∃ S : Int, S = (V : Int) % 2 ^ 18 - (V : Int) / 2 ^ 18 % 2 * 2 ^ 18 := ⟨_, rfl⟩
      have HS := Lib.hid hS
      clear hS hV
      have ER : Hid ((rrD 15 W : Int) = A ∧ (rrN 15 W : Int) = 0 ∧ (rrM 15 W : Int) = 0 ∧ rrI 15 W = S) := Lib.hid ⟨by show ((W % 32 : Nat) : Int) = A; rw [HA.out], by rfl, by rfl, by have hv := HV.out; have hs := HS.out; simp [rrI, rdI, getN, fS, fLo, fWd, fsL, floL, fwdL]; omega⟩
      clear k17
      by_cases hx : OkA 15 A 0 0 S ∧ encN 15 A 0 0 S = W
      · have HX := Lib.hid hx
        clear hx
        go_wp2_with (first
          | (go_at_call 18; refine (rget_w W 23 5 V _ HW.out (by decide) (by decide) HV.out).mono ?_; rintro e w9 ⟨rfl, rfl⟩)
          | (go_at_call 19; refine (rsign_w V 18 S _ (by have := HV.out; omega) (by decide) HS.out).mono ?_; rintro e w9 ⟨rfl, rfl⟩)
          | (go_at_call 11; refine (rhit HX.out _).mono ?_; rintro e w2 ⟨rfl, hg⟩; have HI2 : Hid (Blk w2 w3.heap.size (insV 15 A 0 0 S) 25) := Lib.hid ((Blk.new w3 (insV 15 A 0 0 S) 25).kp hg); have HZ2 : Hid (Blk w2 w.heap.size zero5 25) := Lib.hid ((HZ.out.alloc _).kp hg); have K2 : Hid (Kp w w2) := Lib.hid ((HK.out.alloc _ _).trans hg); clear hg)
          | (refine wpList_load_row rfl 25 (.tmp 8) rfl w3.heap.size rfl _ _ _ _ HI2.out Tryd.underlying25 rfl (by kernel_rfl) ?_)
          | (refine wpList_store_row rfl 25 (.tmp 2) (.tmp 104) rfl w.heap.size (insV 15 A 0 0 S) rfl rfl _ _ HZ2.out (by kernel_rfl) rfl (by simp [insV, Value.oneCell']) ?_))
        refine bodyPost_ret (results_cell_row rfl _ _ _ _ _ _ _ rfl (HZ2.out.setRow (insV 15 A 0 0 S)) Tryd.underlying25 rfl (by kernel_rfl)) rfl ?_
        exact ⟨15, A, 0, 0, S, rfl, .inl HX.out, K2.out.setRow (Nat.le_refl _) _⟩
      · have HX : Hid (¬ (OkA 15 (rrD 15 W) (rrN 15 W) (rrM 15 W) (rrI 15 W) ∧ encN 15 (rrD 15 W) (rrN 15 W) (rrM 15 W) (rrI 15 W) = W)) := Lib.hid (by rw [ER.out.1, ER.out.2.1, ER.out.2.2.1, ER.out.2.2.2]; exact hx)
        by_cases ho : OkA 15 A 0 0 S
        · have hne : ((encN 15 A 0 0 S : Int) == (W : Int)) = false := by
            have : encN 15 A 0 0 S ≠ W := fun h => hx ⟨ho, h⟩
            simp; omega
          have HO := Lib.hid ho
          clear ho hx
          go_wp2_with (first
            | (go_at_call 18; refine (rget_w W 23 5 V _ HW.out (by decide) (by decide) HV.out).mono ?_; rintro e w9 ⟨rfl, rfl⟩)
            | (go_at_call 19; refine (rsign_w V 18 S _ (by have := HV.out; omega) (by decide) HS.out).mono ?_; rintro e w9 ⟨rfl, rfl⟩)
            | (go_at_call 11; refine (rmiss HO.out _).mono ?_; rintro e w2 ⟨rfl, hg⟩; have HI2 : Hid (Blk w2 w3.heap.size (insV 15 A 0 0 S) 25) := Lib.hid ((Blk.new w3 (insV 15 A 0 0 S) 25).kp hg); have HZ2 : Hid (Blk w2 w.heap.size zero5 25) := Lib.hid ((HZ.out.alloc _).kp hg); have K2 : Hid (Kp w w2) := Lib.hid ((HK.out.alloc _ _).trans hg); clear hg))
          go_roundw
          case rel => exact ⟨16, by decide, rfl, HN.out.succ HX.out, K2.out, HZ2.out⟩
          case measure => simp [intOf]
        · have HO := Lib.hid ho
          clear ho hx
          go_wp2_with (first
            | (go_at_call 18; refine (rget_w W 23 5 V _ HW.out (by decide) (by decide) HV.out).mono ?_; rintro e w9 ⟨rfl, rfl⟩)
            | (go_at_call 19; refine (rsign_w V 18 S _ (by have := HV.out; omega) (by decide) HS.out).mono ?_; rintro e w9 ⟨rfl, rfl⟩)
            | (go_at_call 11; refine (rbad HO.out _).mono ?_; rintro e w2 ⟨rfl, hg⟩; have HI2 : Hid (Blk w2 w3.heap.size (insV 15 A 0 0 S) 25) := Lib.hid ((Blk.new w3 (insV 15 A 0 0 S) 25).kp hg); have HZ2 : Hid (Blk w2 w.heap.size zero5 25) := Lib.hid ((HZ.out.alloc _).kp hg); have K2 : Hid (Kp w w2) := Lib.hid ((HK.out.alloc _ _).trans hg); clear hg))
          go_roundw
          case rel => exact ⟨16, by decide, rfl, HN.out.succ HX.out, K2.out, HZ2.out⟩
          case measure => simp [intOf]
    · obtain ⟨V, hV⟩ : ∃ V, V = W / 32 % 524288 := ⟨_, rfl⟩
      have HV := Lib.hid hV
      obtain ⟨S, hS⟩ : ∃ S : Int, S = (V : Int) % 2 ^ 18 - (V : Int) / 2 ^ 18 % 2 * 2 ^ 18 := ⟨_, rfl⟩
      have HS := Lib.hid hS
      clear hS hV
      have ER : Hid ((rrD 16 W : Int) = A ∧ (rrN 16 W : Int) = 0 ∧ (rrM 16 W : Int) = 0 ∧ rrI 16 W = S) := Lib.hid ⟨by show ((W % 32 : Nat) : Int) = A; rw [HA.out], by rfl, by rfl, by have hv := HV.out; have hs := HS.out; simp [rrI, rdI, getN, fS, fLo, fWd, fsL, floL, fwdL]; omega⟩
      clear k17
      by_cases hx : OkA 16 A 0 0 S ∧ encN 16 A 0 0 S = W
      · have HX := Lib.hid hx
        clear hx
        go_wp2_with (first
          | (go_at_call 18; refine (rget_w W 23 5 V _ HW.out (by decide) (by decide) HV.out).mono ?_; rintro e w9 ⟨rfl, rfl⟩)
          | (go_at_call 19; refine (rsign_w V 18 S _ (by have := HV.out; omega) (by decide) HS.out).mono ?_; rintro e w9 ⟨rfl, rfl⟩)
          | (go_at_call 11; refine (rhit HX.out _).mono ?_; rintro e w2 ⟨rfl, hg⟩; have HI2 : Hid (Blk w2 w3.heap.size (insV 16 A 0 0 S) 25) := Lib.hid ((Blk.new w3 (insV 16 A 0 0 S) 25).kp hg); have HZ2 : Hid (Blk w2 w.heap.size zero5 25) := Lib.hid ((HZ.out.alloc _).kp hg); have K2 : Hid (Kp w w2) := Lib.hid ((HK.out.alloc _ _).trans hg); clear hg)
          | (refine wpList_load_row rfl 25 (.tmp 8) rfl w3.heap.size rfl _ _ _ _ HI2.out Tryd.underlying25 rfl (by kernel_rfl) ?_)
          | (refine wpList_store_row rfl 25 (.tmp 2) (.tmp 104) rfl w.heap.size (insV 16 A 0 0 S) rfl rfl _ _ HZ2.out (by kernel_rfl) rfl (by simp [insV, Value.oneCell']) ?_))
        refine bodyPost_ret (results_cell_row rfl _ _ _ _ _ _ _ rfl (HZ2.out.setRow (insV 16 A 0 0 S)) Tryd.underlying25 rfl (by kernel_rfl)) rfl ?_
        exact ⟨16, A, 0, 0, S, rfl, .inl HX.out, K2.out.setRow (Nat.le_refl _) _⟩
      · have HX : Hid (¬ (OkA 16 (rrD 16 W) (rrN 16 W) (rrM 16 W) (rrI 16 W) ∧ encN 16 (rrD 16 W) (rrN 16 W) (rrM 16 W) (rrI 16 W) = W)) := Lib.hid (by rw [ER.out.1, ER.out.2.1, ER.out.2.2.1, ER.out.2.2.2]; exact hx)
        by_cases ho : OkA 16 A 0 0 S
        · have hne : ((encN 16 A 0 0 S : Int) == (W : Int)) = false := by
            have : encN 16 A 0 0 S ≠ W := fun h => hx ⟨ho, h⟩
            simp; omega
          have HO := Lib.hid ho
          clear ho hx
          go_wp2_with (first
            | (go_at_call 18; refine (rget_w W 23 5 V _ HW.out (by decide) (by decide) HV.out).mono ?_; rintro e w9 ⟨rfl, rfl⟩)
            | (go_at_call 19; refine (rsign_w V 18 S _ (by have := HV.out; omega) (by decide) HS.out).mono ?_; rintro e w9 ⟨rfl, rfl⟩)
            | (go_at_call 11; refine (rmiss HO.out _).mono ?_; rintro e w2 ⟨rfl, hg⟩; have HI2 : Hid (Blk w2 w3.heap.size (insV 16 A 0 0 S) 25) := Lib.hid ((Blk.new w3 (insV 16 A 0 0 S) 25).kp hg); have HZ2 : Hid (Blk w2 w.heap.size zero5 25) := Lib.hid ((HZ.out.alloc _).kp hg); have K2 : Hid (Kp w w2) := Lib.hid ((HK.out.alloc _ _).trans hg); clear hg))
          go_roundw
          case rel => exact ⟨17, by decide, rfl, HN.out.succ HX.out, K2.out, HZ2.out⟩
          case measure => simp [intOf]
        · have HO := Lib.hid ho
          clear ho hx
          go_wp2_with (first
            | (go_at_call 18; refine (rget_w W 23 5 V _ HW.out (by decide) (by decide) HV.out).mono ?_; rintro e w9 ⟨rfl, rfl⟩)
            | (go_at_call 19; refine (rsign_w V 18 S _ (by have := HV.out; omega) (by decide) HS.out).mono ?_; rintro e w9 ⟨rfl, rfl⟩)
            | (go_at_call 11; refine (rbad HO.out _).mono ?_; rintro e w2 ⟨rfl, hg⟩; have HI2 : Hid (Blk w2 w3.heap.size (insV 16 A 0 0 S) 25) := Lib.hid ((Blk.new w3 (insV 16 A 0 0 S) 25).kp hg); have HZ2 : Hid (Blk w2 w.heap.size zero5 25) := Lib.hid ((HZ.out.alloc _).kp hg); have K2 : Hid (Kp w w2) := Lib.hid ((HK.out.alloc _ _).trans hg); clear hg))
          go_roundw
          case rel => exact ⟨17, by decide, rfl, HN.out.succ HX.out, K2.out, HZ2.out⟩
          case measure => simp [intOf]
    · have ER : Hid ((rrD 17 W : Int) = 0 ∧ (rrN 17 W : Int) = 0 ∧ (rrM 17 W : Int) = 0 ∧ rrI 17 W = 0) := Lib.hid ⟨by rfl, by rfl, by rfl, by show ((W / 2 ^ 0 % 2 ^ 0 : Nat) : Int) = 0; rw [Nat.pow_zero, Nat.mod_one]; rfl⟩
      clear k17
      by_cases hx : OkA 17 0 0 0 0 ∧ encN 17 0 0 0 0 = W
      · have HX := Lib.hid hx
        clear hx
        go_wp2_with (first
          | (go_at_call 11; refine (rhit HX.out _).mono ?_; rintro e w2 ⟨rfl, hg⟩; have HI2 : Hid (Blk w2 w3.heap.size (insV 17 0 0 0 0) 25) := Lib.hid ((Blk.new w3 (insV 17 0 0 0 0) 25).kp hg); have HZ2 : Hid (Blk w2 w.heap.size zero5 25) := Lib.hid ((HZ.out.alloc _).kp hg); have K2 : Hid (Kp w w2) := Lib.hid ((HK.out.alloc _ _).trans hg); clear hg)
          | (refine wpList_load_row rfl 25 (.tmp 8) rfl w3.heap.size rfl _ _ _ _ HI2.out Tryd.underlying25 rfl (by kernel_rfl) ?_)
          | (refine wpList_store_row rfl 25 (.tmp 2) (.tmp 104) rfl w.heap.size (insV 17 0 0 0 0) rfl rfl _ _ HZ2.out (by kernel_rfl) rfl (by simp [insV, Value.oneCell']) ?_))
        refine bodyPost_ret (results_cell_row rfl _ _ _ _ _ _ _ rfl (HZ2.out.setRow (insV 17 0 0 0 0)) Tryd.underlying25 rfl (by kernel_rfl)) rfl ?_
        exact ⟨17, 0, 0, 0, 0, rfl, .inl HX.out, K2.out.setRow (Nat.le_refl _) _⟩
      · have HX : Hid (¬ (OkA 17 (rrD 17 W) (rrN 17 W) (rrM 17 W) (rrI 17 W) ∧ encN 17 (rrD 17 W) (rrN 17 W) (rrM 17 W) (rrI 17 W) = W)) := Lib.hid (by rw [ER.out.1, ER.out.2.1, ER.out.2.2.1, ER.out.2.2.2]; exact hx)
        by_cases ho : OkA 17 0 0 0 0
        · have hne : ((encN 17 0 0 0 0 : Int) == (W : Int)) = false := by
            have : encN 17 0 0 0 0 ≠ W := fun h => hx ⟨ho, h⟩
            simp; omega
          have HO := Lib.hid ho
          clear ho hx
          go_wp2_with (first
            | (go_at_call 11; refine (rmiss HO.out _).mono ?_; rintro e w2 ⟨rfl, hg⟩; have HI2 : Hid (Blk w2 w3.heap.size (insV 17 0 0 0 0) 25) := Lib.hid ((Blk.new w3 (insV 17 0 0 0 0) 25).kp hg); have HZ2 : Hid (Blk w2 w.heap.size zero5 25) := Lib.hid ((HZ.out.alloc _).kp hg); have K2 : Hid (Kp w w2) := Lib.hid ((HK.out.alloc _ _).trans hg); clear hg))
          go_roundw
          case rel => exact ⟨18, by decide, rfl, HN.out.succ HX.out, K2.out, HZ2.out⟩
          case measure => simp [intOf]
        · have HO := Lib.hid ho
          clear ho hx
          go_wp2_with (first
            | (go_at_call 11; refine (rbad HO.out _).mono ?_; rintro e w2 ⟨rfl, hg⟩; have HI2 : Hid (Blk w2 w3.heap.size (insV 17 0 0 0 0) 25) := Lib.hid ((Blk.new w3 (insV 17 0 0 0 0) 25).kp hg); have HZ2 : Hid (Blk w2 w.heap.size zero5 25) := Lib.hid ((HZ.out.alloc _).kp hg); have K2 : Hid (Kp w w2) := Lib.hid ((HK.out.alloc _ _).trans hg); clear hg))
          go_roundw
          case rel => exact ⟨18, by decide, rfl, HN.out.succ HX.out, K2.out, HZ2.out⟩
          case measure => simp [intOf]
end Go.Proofs.YtfbkppncaampdaaDoor
