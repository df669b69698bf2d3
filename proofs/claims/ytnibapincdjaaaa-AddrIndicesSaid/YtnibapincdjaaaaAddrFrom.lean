/-
  The contract of package addr's From, for every four numbers. No condition.
-/
import Derived.Test.YtnibapincdjaaaaAddr
namespace Go.Proofs.Ytnibapincdjaaaa
open Go Go.RowKit

def idxOk (a : Int) : Prop := 0 ≤ a ∧ a < 512
def part (a b c d : Nat) : Nat → Nat
  | 0 => 0
  | 1 => a * 134217728
  | 2 => a * 134217728 + b * 262144
  | 3 => a * 134217728 + b * 262144 + c * 512
  | _ => a * 134217728 + b * 262144 + c * 512 + d
def partB (a b c d : Int) (k : Nat) : BitVec 64 := BitVec.ofNat 64 (part a.toNat b.toNat c.toNat d.toNat k)
def FromOk (a b c d : Int) : Prop := (0 ≤ a ∧ a < 256) ∧ idxOk b ∧ idxOk c ∧ idxOk d
instance (a : Int) : Decidable (idxOk a) := by unfold idxOk; infer_instance
instance (a b c d : Int) : Decidable (FromOk a b c d) := by unfold FromOk; infer_instance
def fromW (a b c d : Int) : BitVec 64 := if FromOk a b c d then partB a b c d 4 else 0#64
def fromE (a b c d : Int) : Int := if FromOk a b c d then 0 else 2
def FromAt (a b c d : Int) (k : Nat) : Prop := k ≤ 4 ∧ (0 < k → idxOk a) ∧ (1 < k → idxOk b) ∧ (2 < k → idxOk c) ∧ (3 < k → idxOk d)
theorem u64_idx (a : Int) (h : idxOk a) : (BitVec.ofNat 64 a.toNat).toNat ≤ (mask (8 + 1)).toNat ∧ ((BitVec.ofNat 64 a.toNat).toNat : Int) = a := by
  unfold idxOk at h
  rw [mask_toNat _ (by decide), ofN _ (by omega)]
  omega
theorem u64_none (a : Int) (h : ¬ idxOk a) (hw : (Lit.int .i64 a).wf = true) : (mask (8 + 1)).toNat < (BitVec.ofInt 64 a).toNat ∧ IntKind.u64.wrap a = ((BitVec.ofInt 64 a).toNat : Int) := by
  unfold idxOk at h
  have := i64_of a hw
  rw [mask_toNat _ (by decide), BitVec.toNat_ofInt, IntKind.wrap_u64]
  omega
theorem put_at (x v : BitVec 64) (V hi lo : Int) (H L : Nat) (w : World) (eV : V = (v.toNat : Int)) (eh : hi = H) (el : lo = L) (h1 : L ≤ H) (h2 : H ≤ 63) (hf : v.toNat ≤ (mask (H - L + 1)).toNat) :
    Calls Try.prog 35 #[.int .u64 x.toNat, .int .i64 hi, .int .i64 lo, .int .u64 V] w fun e w' => e = .returned (.tuple #[.int .u64 (putB x v H L).toNat, .int .i64 0]) ∧ Kp w w' := by
  subst eh; subst el; subst eV; exact put_yes x v H L w h1 h2 hf
theorem put_at_not (x v : BitVec 64) (V hi lo : Int) (H L : Nat) (w : World) (eV : V = (v.toNat : Int)) (eh : hi = H) (el : lo = L) (h1 : L ≤ H) (h2 : H ≤ 63) (hf : (mask (H - L + 1)).toNat < v.toNat) :
    Calls Try.prog 35 #[.int .u64 x.toNat, .int .i64 hi, .int .i64 lo, .int .u64 V] w fun e w' => e = .returned (.tuple #[.int .u64 x.toNat, .int .i64 2]) ∧ Kp w w' := by
  subst eh; subst el; subst eV; exact put_not x v H L w h1 h2 hf
theorem put_part0 (a b c d : Int) (ha : idxOk a) : putB (partB a b c d 0) (BitVec.ofNat 64 a.toNat) 35 27 = partB a b c d 1 := by
  unfold idxOk at *
  have hf := (u64_idx a (by unfold idxOk; omega)).1
  apply BitVec.eq_of_toNat_eq
  rw [putB_nat _ _ 35 27 (by decide) (by decide) hf]
  simp only [partB, part]
  rw [ofN _ (by omega), ofN _ (by omega), ofN _ (by omega)]
  omega
theorem put_part1 (a b c d : Int) (ha : idxOk a) (hb : idxOk b) : putB (partB a b c d 1) (BitVec.ofNat 64 b.toNat) 26 18 = partB a b c d 2 := by
  unfold idxOk at *
  have hf := (u64_idx b (by unfold idxOk; omega)).1
  apply BitVec.eq_of_toNat_eq
  rw [putB_nat _ _ 26 18 (by decide) (by decide) hf]
  simp only [partB, part]
  rw [ofN _ (by omega), ofN _ (by omega), ofN _ (by omega)]
  omega
theorem put_part2 (a b c d : Int) (ha : idxOk a) (hb : idxOk b) (hc : idxOk c) : putB (partB a b c d 2) (BitVec.ofNat 64 c.toNat) 17 9 = partB a b c d 3 := by
  unfold idxOk at *
  have hf := (u64_idx c (by unfold idxOk; omega)).1
  apply BitVec.eq_of_toNat_eq
  rw [putB_nat _ _ 17 9 (by decide) (by decide) hf]
  simp only [partB, part]
  rw [ofN _ (by omega), ofN _ (by omega), ofN _ (by omega)]
  omega
theorem put_part3 (a b c d : Int) (ha : idxOk a) (hb : idxOk b) (hc : idxOk c) (hd : idxOk d) : putB (partB a b c d 3) (BitVec.ofNat 64 d.toNat) 8 0 = partB a b c d 4 := by
  unfold idxOk at *
  have hf := (u64_idx d (by unfold idxOk; omega)).1
  apply BitVec.eq_of_toNat_eq
  rw [putB_nat _ _ 8 0 (by decide) (by decide) hf]
  simp only [partB, part]
  rw [ofN _ (by omega), ofN _ (by omega), ofN _ (by omega)]
  omega
theorem from_yes (a b c d : Int) (h : FromAt a b c d 4) (hp : (partB a b c d 4).toNat < 34359738368) : fromW a b c d = partB a b c d 4 ∧ fromE a b c d = 0 := by
  have g : FromOk a b c d := by
    unfold FromAt at h
    simp only [partB, part] at hp
    have h1 := h.2.1 (by decide)
    have h2 := h.2.2.1 (by decide)
    have h3 := h.2.2.2.1 (by decide)
    have h4 := h.2.2.2.2 (by decide)
    refine ⟨?_, h2, h3, h4⟩
    unfold idxOk at *
    rw [ofN _ (by omega)] at hp
    omega
  exact ⟨if_pos g, if_pos g⟩
theorem from_no (a b c d : Int) (h : ¬ FromOk a b c d) : fromW a b c d = 0#64 ∧ fromE a b c d = 2 := ⟨if_neg h, if_neg h⟩
theorem from_high (a b c d : Int) (hp : ¬ (partB a b c d 4).toNat < 34359738368) : ¬ FromOk a b c d := by
  intro g
  apply hp
  unfold FromOk idxOk at g
  simp only [partB, part]
  rw [ofN _ (by omega)]
  omega
theorem from_any (a b c d : Int) (w : World) (ha : (Lit.int .i64 a).wf = true) (hb : (Lit.int .i64 b).wf = true) (hc : (Lit.int .i64 c).wf = true) (hd : (Lit.int .i64 d).wf = true) :
    Calls Try.prog 24 #[.agg #[.int .i64 a, .int .i64 b, .int .i64 c, .int .i64 d]] w fun e w' => e = .returned (.tuple #[.int .u64 (fromW a b c d).toNat, .int .i64 (fromE a b c d)]) ∧ Kp w w' := by
  have HA := Lib.hid ha; clear ha
  have HB := Lib.hid hb; clear hb
  have HC := Lib.hid hc; clear hc
  have HD := Lib.hid hd; clear hd
  go_enter Try.func24, Try.ntmps24
  go_wp2
  go_loopw [4, 9] (fun pg i wr => ∃ k : Nat, FromAt a b c d k ∧ i = .int .i64 k ∧ pg = .int .u64 (partB a b c d k).toNat ∧ Kp (w.alloc (.cells #[.int .i64 a, .int .i64 b, .int .i64 c, .int .i64 d] 31)) wr) (fun _ i _ => 4 - (intOf i).toNat)
  case atStart => exact ⟨0, by unfold FromAt; omega, rfl, rfl, Kp.refl _⟩
  case round =>
    obtain ⟨k, hk, rfl, rfl, hg⟩ := hrel
    have hk4 : k ≤ 4 := hk.1
    have HG := Lib.hid hg
    by_cases h4 : k = 4
    · subst h4
      have HK := Lib.hid hk; clear hk hg
      by_cases hp : (partB a b c d 4).toNat < 34359738368
      · have d2 := dec_le hp
        have HE := Lib.hid (from_yes a b c d HK.out hp); clear hp
        go_wp2_with fail
        go_ret2
        exact ⟨ret_pair (by rw [HE.out.1]) (by rw [HE.out.2]), Kp.trans ((Kp.refl _).alloc _ _) HG.out⟩
      · have d2 := dec_nle hp
        have HE := Lib.hid (from_no a b c d (from_high a b c d hp)); clear hp
        go_wp2_with fail
        go_ret2
        exact ⟨ret_pair (by rw [HE.out.1]; rfl) (by rw [HE.out.2]), Kp.trans ((Kp.refl _).alloc _ _) HG.out⟩
    · obtain rfl | rfl | rfl | rfl : k = 0 ∨ k = 1 ∨ k = 2 ∨ k = 3 := by omega
      · have c0 : wr.cell? ⟨w.heap.size, 0, none⟩ = some (.int .i64 a) := by rw [hg.cell (by simp)]; simp
        have HK := Lib.hid hk; clear hk hg h4
        by_cases h : idxOk a
        · have I := Lib.hid (u64_idx a h)
          have E := Lib.hid (put_part0 a b c d  h)
          have HI := Lib.hid h
          unfold idxOk at h
          obtain ⟨q0, q1⟩ := h
          go_wp2_with fail
          refine (low_any 0 27 _ (by decide) (by decide)).mono ?_; rintro e w1 ⟨rfl, rfl⟩
          go_wp2_with fail
          refine (put_at (partB a b c d 0) (BitVec.ofNat 64 a.toNat) _ _ _ 35 27 _ I.out.2.symm (by omega) (by omega) (by decide) (by decide) I.out.1).mono ?_; rintro e w2 ⟨rfl, hg2⟩
          rw [E.out]
          have H2 := Lib.hid hg2; clear hg2
          go_wp2_with fail
          go_roundw
          case rel => exact ⟨1, by have := HK.out; have := HI.out; unfold FromAt at *; simp_all, by go_num, rfl, Kp.trans HG.out H2.out⟩
          case measure => simp [intOf]
        · have N := Lib.hid (u64_none a h HA.out)
          have HE := Lib.hid (from_no a b c d (by intro g; apply h; unfold FromOk at g; unfold idxOk at *; omega)); clear h
          go_wp2_with fail
          refine (low_any 0 27 _ (by decide) (by decide)).mono ?_; rintro e w2 ⟨rfl, rfl⟩
          go_wp2_with fail
          refine (put_at_not (partB a b c d 0) (BitVec.ofInt 64 a) _ _ _ 35 27 _ N.out.2 (by omega) (by omega) (by decide) (by decide) N.out.1).mono ?_; rintro e w2 ⟨rfl, hg2⟩
          have H2 := Lib.hid hg2; clear hg2
          go_wp2_with fail
          go_ret2
          exact ⟨ret_pair (by rw [HE.out.1]; rfl) (by rw [HE.out.2]), Kp.trans ((Kp.refl _).alloc _ _) (Kp.trans HG.out H2.out)⟩
      · have c0 : wr.cell? ⟨w.heap.size, 1, none⟩ = some (.int .i64 b) := by rw [hg.cell (by simp)]; simp
        have HK := Lib.hid hk; clear hk hg h4
        by_cases h : idxOk b
        · have I := Lib.hid (u64_idx b h)
          have E := Lib.hid (put_part1 a b c d (HK.out.2.1 (by decide)) h)
          have HI := Lib.hid h
          unfold idxOk at h
          obtain ⟨q0, q1⟩ := h
          go_wp2_with fail
          refine (low_any 1 18 _ (by decide) (by decide)).mono ?_; rintro e w3 ⟨rfl, rfl⟩
          go_wp2_with fail
          refine (put_at (partB a b c d 1) (BitVec.ofNat 64 b.toNat) _ _ _ 26 18 _ I.out.2.symm (by omega) (by omega) (by decide) (by decide) I.out.1).mono ?_; rintro e w2 ⟨rfl, hg2⟩
          rw [E.out]
          have H2 := Lib.hid hg2; clear hg2
          go_wp2_with fail
          go_roundw
          case rel => exact ⟨2, by have := HK.out; have := HI.out; unfold FromAt at *; simp_all, by go_num, rfl, Kp.trans HG.out H2.out⟩
          case measure => simp [intOf]
        · have N := Lib.hid (u64_none b h HB.out)
          have HE := Lib.hid (from_no a b c d (by intro g; apply h; unfold FromOk at g; unfold idxOk at *; omega)); clear h
          go_wp2_with fail
          refine (low_any 1 18 _ (by decide) (by decide)).mono ?_; rintro e w4 ⟨rfl, rfl⟩
          go_wp2_with fail
          refine (put_at_not (partB a b c d 1) (BitVec.ofInt 64 b) _ _ _ 26 18 _ N.out.2 (by omega) (by omega) (by decide) (by decide) N.out.1).mono ?_; rintro e w2 ⟨rfl, hg2⟩
          have H2 := Lib.hid hg2; clear hg2
          go_wp2_with fail
          go_ret2
          exact ⟨ret_pair (by rw [HE.out.1]; rfl) (by rw [HE.out.2]), Kp.trans ((Kp.refl _).alloc _ _) (Kp.trans HG.out H2.out)⟩
      · have c0 : wr.cell? ⟨w.heap.size, 2, none⟩ = some (.int .i64 c) := by rw [hg.cell (by simp)]; simp
        have HK := Lib.hid hk; clear hk hg h4
        by_cases h : idxOk c
        · have I := Lib.hid (u64_idx c h)
          have E := Lib.hid (put_part2 a b c d (HK.out.2.1 (by decide)) (HK.out.2.2.1 (by decide)) h)
          have HI := Lib.hid h
          unfold idxOk at h
          obtain ⟨q0, q1⟩ := h
          go_wp2_with fail
          refine (low_any 2 9 _ (by decide) (by decide)).mono ?_; rintro e w5 ⟨rfl, rfl⟩
          go_wp2_with fail
          refine (put_at (partB a b c d 2) (BitVec.ofNat 64 c.toNat) _ _ _ 17 9 _ I.out.2.symm (by omega) (by omega) (by decide) (by decide) I.out.1).mono ?_; rintro e w2 ⟨rfl, hg2⟩
          rw [E.out]
          have H2 := Lib.hid hg2; clear hg2
          go_wp2_with fail
          go_roundw
          case rel => exact ⟨3, by have := HK.out; have := HI.out; unfold FromAt at *; simp_all, by go_num, rfl, Kp.trans HG.out H2.out⟩
          case measure => simp [intOf]
        · have N := Lib.hid (u64_none c h HC.out)
          have HE := Lib.hid (from_no a b c d (by intro g; apply h; unfold FromOk at g; unfold idxOk at *; omega)); clear h
          go_wp2_with fail
          refine (low_any 2 9 _ (by decide) (by decide)).mono ?_; rintro e w6 ⟨rfl, rfl⟩
          go_wp2_with fail
          refine (put_at_not (partB a b c d 2) (BitVec.ofInt 64 c) _ _ _ 17 9 _ N.out.2 (by omega) (by omega) (by decide) (by decide) N.out.1).mono ?_; rintro e w2 ⟨rfl, hg2⟩
          have H2 := Lib.hid hg2; clear hg2
          go_wp2_with fail
          go_ret2
          exact ⟨ret_pair (by rw [HE.out.1]; rfl) (by rw [HE.out.2]), Kp.trans ((Kp.refl _).alloc _ _) (Kp.trans HG.out H2.out)⟩
      · have c0 : wr.cell? ⟨w.heap.size, 3, none⟩ = some (.int .i64 d) := by rw [hg.cell (by simp)]; simp
        have HK := Lib.hid hk; clear hk hg h4
        by_cases h : idxOk d
        · have I := Lib.hid (u64_idx d h)
          have E := Lib.hid (put_part3 a b c d (HK.out.2.1 (by decide)) (HK.out.2.2.1 (by decide)) (HK.out.2.2.2.1 (by decide)) h)
          have HI := Lib.hid h
          unfold idxOk at h
          obtain ⟨q0, q1⟩ := h
          go_wp2_with fail
          refine (low_any 3 0 _ (by decide) (by decide)).mono ?_; rintro e w7 ⟨rfl, rfl⟩
          go_wp2_with fail
          refine (put_at (partB a b c d 3) (BitVec.ofNat 64 d.toNat) _ _ _ 8 0 _ I.out.2.symm (by omega) (by omega) (by decide) (by decide) I.out.1).mono ?_; rintro e w2 ⟨rfl, hg2⟩
          rw [E.out]
          have H2 := Lib.hid hg2; clear hg2
          go_wp2_with fail
          go_roundw
          case rel => exact ⟨4, by have := HK.out; have := HI.out; unfold FromAt at *; simp_all, by go_num, rfl, Kp.trans HG.out H2.out⟩
          case measure => simp [intOf]
        · have N := Lib.hid (u64_none d h HD.out)
          have HE := Lib.hid (from_no a b c d (by intro g; apply h; unfold FromOk at g; unfold idxOk at *; omega)); clear h
          go_wp2_with fail
          refine (low_any 3 0 _ (by decide) (by decide)).mono ?_; rintro e w8 ⟨rfl, rfl⟩
          go_wp2_with fail
          refine (put_at_not (partB a b c d 3) (BitVec.ofInt 64 d) _ _ _ 8 0 _ N.out.2 (by omega) (by omega) (by decide) (by decide) N.out.1).mono ?_; rintro e w2 ⟨rfl, hg2⟩
          have H2 := Lib.hid hg2; clear hg2
          go_wp2_with fail
          go_ret2
          exact ⟨ret_pair (by rw [HE.out.1]; rfl) (by rw [HE.out.2]), Kp.trans ((Kp.refl _).alloc _ _) (Kp.trans HG.out H2.out)⟩
end Go.Proofs.Ytnibapincdjaaaa
