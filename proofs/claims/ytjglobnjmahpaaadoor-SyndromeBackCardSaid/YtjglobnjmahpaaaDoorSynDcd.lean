/-
  The contract of package syndrome's Decode, for any words, where the table holds what the program's text lays. No condition.
-/
import Derived.Test.YtjglobnjmahpaaaDoorSynRead
import Derived.Test.YtjglobnjmahpaaaDoorRefDcd
namespace Go.Proofs.YtjglobnjmahpaaaDoor
open Go Go.RowKit

/-! What read comes to. -/
def xC (x : Nat) : Int := rCls (x / 67108864 % 64)
def xIs (x : Nat) : Bool := rIs (x / 67108864 % 64)
def xS (x : Nat) : Bool := decide (xC x = 2 ∧ x / 64 % 2 = 1)
def xF (x : Nat) : Int := if xC x = 2 then rFlt (x % 64) else 0
def xL (x : Nat) : Int := if xC x = 2 then rLev (x % 64) else 0
theorem read_all : ∀ q ∈ allQ, xIs (qEsr q) = true ∧ (xC (qEsr q), xS (qEsr q), xF (qEsr q), xL (qEsr q)) = q := by decide
def Good (x far : Nat) : Prop := xIs x = true ∧ SOk (xC x) (xS x) (xF x) (xL x) far ∧ esrN (xC x).toNat (xS x) (xF x) (xL x) = x
theorem dec_good {x far : Nat} (h : Good x far) : decQ x far = some (xC x, xS x, xF x, xL x) := by
  obtain ⟨m1, m2⟩ := mem_of_ok h.2.1
  exact dec_hit m1 ⟨h.2.2, m2⟩
theorem dec_bad {x far : Nat} (h : ¬ Good x far) : decQ x far = none := by
  apply dec_no
  intro q hq hh
  apply h
  obtain ⟨r1, r2⟩ := read_all q hq
  rw [hh.1] at r1 r2
  have e1 : q.1 = xC x := by rw [← r2]
  have e2 : q.2.1 = xS x := by rw [← r2]
  have e3 : q.2.2.1 = xF x := by rw [← r2]
  have e4 : q.2.2.2 = xL x := by rw [← r2]
  have ok := ok_of hq (far : Int)
  rw [hh.2, e1, e2, e3, e4] at ok
  refine ⟨r1, ok, ?_⟩
  have := hh.1
  unfold qEsr at this
  rwa [e1, e2, e3, e4] at this
theorem g31 (x : BitVec 64) : (getB x 31 26).toNat = x.toNat / 67108864 % 64 := by rw [getB_nat x 31 26 (by decide) (by decide)]
theorem g6 (x : BitVec 64) : (getB x 6 6).toNat = x.toNat / 64 % 2 := by rw [getB_nat x 6 6 (by decide) (by decide)]
theorem g5 (x : BitVec 64) : (getB x 5 0).toNat = x.toNat % 64 := by rw [getB_nat x 5 0 (by decide) (by decide)]; simp
theorem rget_any (x hi lo : Nat) (w : World) (hx : x < 18446744073709551616) (h1 : lo ≤ hi) (h2 : hi ≤ 63) :
    Calls Tryd.prog 30 #[.int .u64 x, .int .i64 hi, .int .i64 lo] w fun e w' => e = .returned (.int .u64 (getB (BitVec.ofNat 64 x) hi lo).toNat) ∧ Kp w w' := by
  have := get_yes (BitVec.ofNat 64 x) hi lo w h1 h2
  rwa [ofN x hx] at this
theorem ret_read {c f l a : Int} {s i : Bool} {c' f' l' : Int} {s' i' : Bool} (h : c' = c ∧ s' = s ∧ f' = f ∧ l' = l ∧ i' = i) :
    Ending.returned (.tuple #[.agg #[.int .i8 c, .bool s, .int .i8 f, .int .i8 l, .int .u64 a], .bool i]) = .returned (.tuple #[.agg #[.int .i8 c', .bool s', .int .i8 f', .int .i8 l', .int .u64 a], .bool i']) := by
  obtain ⟨rfl, rfl, rfl, rfl, rfl⟩ := h; rfl
set_option maxHeartbeats 2000000 in
theorem read_any (x far : Nat) (w : World) (hx : x < 18446744073709551616) (hT : TabsOk w) :
    Calls Tryd.prog 22 #[.int .u64 x, .int .u64 far] w fun e w' => e = .returned (.tuple #[.agg #[.int .i8 (xC x), .bool (xS x), .int .i8 (xF x), .int .i8 (xL x), .int .u64 far], .bool (xIs x)]) ∧ Kp w w' := by
  have HT := Lib.hid hT
  have HX := Lib.hid hx
  obtain ⟨b1, h1⟩ : ∃ b1, b1 = x / 67108864 % 64 := ⟨_, rfl⟩
  obtain ⟨b2, h2⟩ : ∃ b2, b2 = x / 64 % 2 := ⟨_, rfl⟩
  obtain ⟨b3, h3⟩ : ∃ b3, b3 = x % 64 := ⟨_, rfl⟩
  have E31 : Hid ((getB (BitVec.ofNat 64 x) 31 26).toNat = b1) := Lib.hid (by rw [g31, ofN x hx, h1])
  have E6 : Hid ((getB (BitVec.ofNat 64 x) 6 6).toNat = b2) := Lib.hid (by rw [g6, ofN x hx, h2])
  have E5 : Hid ((getB (BitVec.ofNat 64 x) 5 0).toNat = b3) := Lib.hid (by rw [g5, ofN x hx, h3])
  have eC : Hid (rCls b1 = xC x) := Lib.hid (by rw [h1]; rfl)
  have eI : Hid (rIs b1 = xIs x) := Lib.hid (by rw [h1]; rfl)
  have e2 : Hid (xC x = 2 → xS x = ((b2 : Int) == 1)) := Lib.hid (by
    intro c
    rw [h2, Bool.eq_iff_iff]
    simp [xS, c]
    omega)
  have e3 : Hid (xC x = 2 → xF x = rFlt b3 ∧ xL x = rLev b3) := Lib.hid (by
    intro c
    rw [h3]
    exact ⟨if_pos c, if_pos c⟩)
  clear hT hx h1 h2 h3
  go_enter Tryd.func22, Tryd.ntmps22
  go_wp2_with fail
  refine (rget_any x 31 26 _ HX.out (by decide) (by decide)).mono ?_; rintro e w1 ⟨rfl, hg⟩
  have H1 := Lib.hid hg; clear hg
  rw [E31.out]
  go_wp2_with fail
  refine (classOf_any b1 _ ((HT.out.kp (kpA _ _ _)).kp H1.out)).mono ?_; rintro e w2 ⟨rfl, rfl⟩
  have HB := Lib.hid ((Blk.new w #[.int .i8 0, .bool false, .int .i8 0, .int .i8 0, .int .u64 0] 25).kp H1.out)
  rw [eC.out, eI.out]
  have HK := Lib.hid ((kpA w _ _).trans H1.out)
  have c0 := HB.out.cell 0
  have c1 := HB.out.cell 1
  have c2 := HB.out.cell 2
  have c3 := HB.out.cell 3
  have c4 := HB.out.cell 4
  simp at c0 c1 c2 c3 c4
  have f0 := HB.out.frozen 0
  have f1 := HB.out.frozen 1
  have f2 := HB.out.frozen 2
  have f3 := HB.out.frozen 3
  have f4 := HB.out.frozen 4
  have hlt : w.heap.size < w1.heap.size := HB.out.lt
  by_cases c : xC x = 2
  · have HR : Hid (xS x = ((b2 : Int) == 1) ∧ xF x = rFlt b3 ∧ xL x = rLev b3) := Lib.hid ⟨e2.out c, (e3.out c).1, (e3.out c).2⟩
    have HC := Lib.hid c
    rw [c]
    clear c c0 c1 c2 c3 c4 f0 f1 f2 f3 f4 hlt
    go_wp2_with fail
    refine (rget_any x 6 6 _ HX.out (by decide) (by decide)).mono ?_; rintro e w3 ⟨rfl, hg⟩
    rw [E6.out]
    have hA : Blk (w1.alloc (.cells #[.int .i8 2, .bool false, .int .i8 0, .int .i8 0, .int .u64 far] 25)) w.heap.size _ _ := HB.out.alloc _
    have hA := hA.kp hg
    have hS := (Blk.new w1 #[.int .i8 2, .bool false, .int .i8 0, .int .i8 0, .int .u64 far] 25).kp hg
    have hne : w.heap.size ≠ w1.heap.size := Nat.ne_of_lt HB.out.lt
    have hK3 := (HK.out.alloc #[.int .i8 2, .bool false, .int .i8 0, .int .i8 0, .int .u64 far] 25).trans hg
    have c1 := hS.cell 1
    simp at c1
    have f1 := hS.frozen 1
    have HA := Lib.hid hA
    have HS := Lib.hid hS
    have HN := Lib.hid hne
    have HK3 := Lib.hid hK3
    clear hA hS hne hK3 hg
    go_wp2_with fail
    refine (rget_any x 5 0 _ HX.out (by decide) (by decide)).mono ?_; rintro e w4 ⟨rfl, hg⟩
    rw [E5.out]
    have hA := (HA.out.other (a := ⟨w1.heap.size, 1, none⟩) HN.out (.bool ((b2 : Int) == 1))).kp hg
    have hS := (HS.out.set 1 (.bool ((b2 : Int) == 1))).kp hg
    have hS : Blk w4 w1.heap.size #[.int .i8 2, .bool ((b2 : Int) == 1), .int .i8 0, .int .i8 0, .int .u64 far] 25 := hS
    have hK4 := (HK3.out.setCell (a := ⟨w1.heap.size, 1, none⟩) HK.out.size (.bool ((b2 : Int) == 1))).trans hg
    have HK4 := Lib.hid hK4
    have HA := Lib.hid hA
    have HS := Lib.hid hS
    clear hg hK4 c1 f1
    go_wp2_with fail
    refine (faultOf_any b3 _).mono ?_; rintro e w3 ⟨rfl, rfl⟩
    have c0 := hA.cell 0
    have c1 := hA.cell 1
    have c2 := hA.cell 2
    have c3 := hA.cell 3
    have c4 := hA.cell 4
    simp at c0 c1 c2 c3 c4
    have f0 := hA.frozen 0
    have f1 := hA.frozen 1
    have f2 := hA.frozen 2
    have f3 := hA.frozen 3
    have f4 := hA.frozen 4
    have d0 := hS.cell 0
    have d1 := hS.cell 1
    have d2 := hS.cell 2
    have d3 := hS.cell 3
    have d4 := hS.cell 4
    simp at d0 d1 d2 d3 d4
    have g2 := hS.frozen 2
    have g3 := hS.frozen 3
    have hn1 := HN.out
    have hn2 := Ne.symm HN.out
    clear hA hS
    go_wp2_with fail
    refine bodyPost_ret (results_cell_tmp rfl _ _ _ _ _ _ rfl (((HA.out.other (a := ⟨w1.heap.size, 2, none⟩) HN.out (.int .i8 (rFlt b3))).other (a := ⟨w1.heap.size, 3, none⟩) HN.out (.int .i8 (rLev b3))).put5 _ _ _ _ _) Tryd.underlying25 rfl (by kernel_rfl)) rfl ?_
    exact ⟨ret_read ⟨HC.out, HR.out.1, HR.out.2.1, HR.out.2.2, rfl⟩, ((HK4.out.setCell (a := ⟨w1.heap.size, 2, none⟩) HK.out.size _).setCell (a := ⟨w1.heap.size, 3, none⟩) HK.out.size _).put5 (Nat.le_refl _) _ _ _ _ _⟩
  · have HR : Hid (xS x = false ∧ xF x = 0 ∧ xL x = 0) := Lib.hid ⟨decide_eq_false fun g => c g.1, if_neg c, if_neg c⟩
    have cb : (xC x == 2) = false := by simpa using c
    obtain ⟨C, hC⟩ : ∃ C, xC x = C := ⟨_, rfl⟩
    have HC := Lib.hid hC
    rw [hC] at cb
    rw [hC]
    clear c hC
    go_wp2_with fail
    refine bodyPost_ret (results_cell_tmp rfl _ _ _ _ _ _ rfl ((HB.out.put5 _ _ _ _ _).alloc _) Tryd.underlying25 rfl (by kernel_rfl)) rfl ?_
    exact ⟨ret_read ⟨HC.out, HR.out.1, HR.out.2.1, HR.out.2.2, rfl⟩, (HK.out.put5 (Nat.le_refl _) _ _ _ _ _).alloc _ _⟩

theorem xC_wf (x : Nat) : (Lit.int .i8 (xC x)).wf = true := by
  unfold xC rCls
  split
  · rfl
  · split
    · rfl
    · split
      · rfl
      · split
        · rfl
        · split <;> rfl
set_option maxHeartbeats 2000000 in
theorem decode_any (x far : Nat) (w : World) (hx : x < 18446744073709551616) (hT : TabsOk w) :
    Calls Tryd.prog 13 #[.int .u64 x, .int .u64 far] w fun e w' => e = .returned (.tuple #[.agg #[.int .i8 (dC x far), .bool (dS x far), .int .i8 (dF x far), .int .i8 (dL x far), .int .u64 (dA x far)], .int .i64 (dE x far)]) ∧ Kp w w' := by
  have HT := Lib.hid hT
  have HX := Lib.hid hx
  clear hT hx
  go_enter Tryd.func13, Tryd.ntmps13
  go_wp2_with fail
  refine (read_any x far _ HX.out (HT.out.kp (kpA _ _ _))).mono ?_; rintro e w1 ⟨rfl, hg⟩
  have H1 := Lib.hid hg; clear hg
  have hA := (Blk.new w #[.int .i8 0, .bool false, .int .i8 0, .int .i8 0, .int .u64 0] 25).kp H1.out
  have hlt : w.heap.size < w1.heap.size := hA.lt
  have HL := Lib.hid hlt
  have hK := (kpA w #[.int .i8 0, .bool false, .int .i8 0, .int .i8 0, .int .u64 0] 25).trans H1.out
  cases hi : xIs x with
  | false =>
    have HD := Lib.hid (dec_none (dec_bad (far := far) (fun g : Good x far => by have := g.1; rw [hi] at this; cases this)))
    have HK := Lib.hid hK
    have HA := Lib.hid hA
    have c0 := hA.cell 0
    have c1 := hA.cell 1
    have c2 := hA.cell 2
    have c3 := hA.cell 3
    have c4 := hA.cell 4
    simp at c0 c1 c2 c3 c4
    have f0 := hA.frozen 0
    have f1 := hA.frozen 1
    have f2 := hA.frozen 2
    have f3 := hA.frozen 3
    have f4 := hA.frozen 4
    clear hA hK hi
    go_wp2_with fail
    refine bodyPost_ret (results_cell_tmp rfl _ _ _ _ _ _ rfl ((HA.out.put5 _ _ _ _ _).alloc _) Tryd.underlying25 rfl (by kernel_rfl)) rfl ?_
    exact ⟨ret_dcd HD.out, (HK.out.put5 (Nat.le_refl _) _ _ _ _ _).alloc _ _⟩
  | true =>
    have HI := Lib.hid hi
    have HK := Lib.hid (hK.alloc #[.int .i8 (xC x), .bool (xS x), .int .i8 (xF x), .int .i8 (xL x), .int .u64 far] 25)
    have HA : Hid (Blk (w1.alloc (.cells #[.int .i8 (xC x), .bool (xS x), .int .i8 (xF x), .int .i8 (xL x), .int .u64 far] 25)) w.heap.size _ _) := Lib.hid (hA.alloc _)
    have HS := Lib.hid (Blk.new w1 #[.int .i8 (xC x), .bool (xS x), .int .i8 (xF x), .int .i8 (xL x), .int .u64 far] 25)
    clear hA hK hi hlt
    go_wp2_with fail
    refine (check_any (xC x) (xS x) (xF x) (xL x) far _ (xC_wf x)).mono ?_; rintro e w2 ⟨rfl, hg⟩
    have hA := HA.out.kp hg
    have hS := HS.out.kp hg
    have hK := HK.out.trans hg
    have hlt : w.heap.size < w2.heap.size := hA.lt
    by_cases ok : SOk (xC x) (xS x) (xF x) (xL x) far
    · rw [chk_yes ok]
      have HO := Lib.hid (ok_cls ok)
      have HOK := Lib.hid ok
      have HK := Lib.hid hK
      have HA := Lib.hid hA
      have HS := Lib.hid hS
      obtain ⟨n, hn⟩ := Int.eq_ofNat_of_zero_le (ok_cls ok).1
      have HN := Lib.hid hn
      rw [hn]
      have z0 := hS.cell 0
      have z1 := hS.cell 1
      have z2 := hS.cell 2
      have z3 := hS.cell 3
      have z4 := hS.cell 4
      simp at z0 z1 z2 z3 z4
      rw [hn] at z0
      clear hA hS hK hg ok hn hlt
      go_wp2_with fail
      refine (word_any n (xS x) (xF x) (xL x) far _ (HT.out.kp HK.out) (by have := HO.out.2.1; have := HN.out; omega) HO.out.2.2).mono ?_; rintro e w3 ⟨rfl, hg⟩
      have hA := HA.out.kp hg
      have hS := HS.out.kp hg
      have hK := HK.out.trans hg
      have hlt : w.heap.size < w3.heap.size := hA.lt
      clear z0 z1 z2 z3 z4
      by_cases hx : esrN n (xS x) (xF x) (xL x) = x
      · have HD := Lib.hid (dec_some (dec_good (⟨HI.out, HOK.out, by rw [HN.out]; exact hx⟩ : Good x far)))
        rw [hx]
        have HK := Lib.hid hK
        have HA := Lib.hid hA
        have c0 := hA.cell 0
        have c1 := hA.cell 1
        have c2 := hA.cell 2
        have c3 := hA.cell 3
        have c4 := hA.cell 4
        simp at c0 c1 c2 c3 c4
        have f0 := hA.frozen 0
        have f1 := hA.frozen 1
        have f2 := hA.frozen 2
        have f3 := hA.frozen 3
        have f4 := hA.frozen 4
        have z0 := hS.cell 0
        have z1 := hS.cell 1
        have z2 := hS.cell 2
        have z3 := hS.cell 3
        have z4 := hS.cell 4
        simp at z0 z1 z2 z3 z4
        rw [HN.out] at z0
        have hne : w.heap.size ≠ w1.heap.size := Nat.ne_of_lt HL.out
        have hne' : w1.heap.size ≠ w.heap.size := Ne.symm hne
        clear hA hS hK hg hx
        go_wp2_with fail
        refine bodyPost_ret (results_cell_tmp rfl _ _ _ _ _ _ rfl (HA.out.put5 _ _ _ _ _) Tryd.underlying25 rfl (by kernel_rfl)) rfl ?_
        exact ⟨ret_dcd ⟨HD.out.1.trans HN.out, HD.out.2⟩, HK.out.put5 (Nat.le_refl _) _ _ _ _ _⟩
      · have HD := Lib.hid (dec_none (dec_bad (far := far) (fun g : Good x far => hx (by have := g.2.2; rw [HN.out] at this; exact this))))
        have hx' : ((esrN n (xS x) (xF x) (xL x) : Int) == (x : Int)) = false := by simp; omega
        have HK := Lib.hid hK
        have HA := Lib.hid hA
        have c0 := hA.cell 0
        have c1 := hA.cell 1
        have c2 := hA.cell 2
        have c3 := hA.cell 3
        have c4 := hA.cell 4
        simp at c0 c1 c2 c3 c4
        have f0 := hA.frozen 0
        have f1 := hA.frozen 1
        have f2 := hA.frozen 2
        have f3 := hA.frozen 3
        have f4 := hA.frozen 4
        clear hA hS hK hg hx
        go_wp2_with fail
        refine bodyPost_ret (results_cell_tmp rfl _ _ _ _ _ _ rfl (HA.out.put5 _ _ _ _ _) Tryd.underlying25 rfl (by kernel_rfl)) rfl ?_
        exact ⟨ret_dcd HD.out, HK.out.put5 (Nat.le_refl _) _ _ _ _ _⟩
    · rw [chk_no ok]
      have HD := Lib.hid (dec_none (dec_bad (far := far) (fun g : Good x far => ok g.2.1)))
      have HK := Lib.hid hK
      have HA := Lib.hid hA
      have c0 := hA.cell 0
      have c1 := hA.cell 1
      have c2 := hA.cell 2
      have c3 := hA.cell 3
      have c4 := hA.cell 4
      simp at c0 c1 c2 c3 c4
      have f0 := hA.frozen 0
      have f1 := hA.frozen 1
      have f2 := hA.frozen 2
      have f3 := hA.frozen 3
      have f4 := hA.frozen 4
      clear hA hS hK hg ok
      go_wp2_with fail
      refine bodyPost_ret (results_cell_tmp rfl _ _ _ _ _ _ rfl (HA.out.put5 _ _ _ _ _) Tryd.underlying25 rfl (by kernel_rfl)) rfl ?_
      exact ⟨ret_dcd HD.out, HK.out.put5 (Nat.le_refl _) _ _ _ _ _⟩
end Go.Proofs.YtjglobnjmahpaaaDoor
