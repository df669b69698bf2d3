/-
  The document's word of an instruction. No condition.
-/
import Derived.Test.YtfbkppncaampdaaDoorEnc07
import Derived.Test.YtfbkppncaampdaaDoorRefGet
namespace Go.Proofs.YtfbkppncaampdaaDoor
open Go Go.RowKit

theorem base_any (o : Nat) (w : World) (ho : o < 18) :
    Calls Tryd.prog 22 #[.int .i8 o] w fun e w' => e = .returned (.int .u32 (fW o)) ∧ w = w' := by
  obtain rfl | rfl | rfl | rfl | rfl | rfl | rfl | rfl | rfl | rfl | rfl | rfl | rfl | rfl | rfl | rfl | rfl | rfl : o = 0 ∨ o = 1 ∨ o = 2 ∨ o = 3 ∨ o = 4 ∨ o = 5 ∨ o = 6 ∨ o = 7 ∨ o = 8 ∨ o = 9 ∨ o = 10 ∨ o = 11 ∨ o = 12 ∨ o = 13 ∨ o = 14 ∨ o = 15 ∨ o = 16 ∨ o = 17 := by omega
  all_goals
    clear ho
    go_enter Tryd.func22, Tryd.ntmps22
    go_wp2
    go_ret
    exact ⟨rfl, rfl⟩
def IAt (w w' : World) (op d n m imm : Int) : Prop := w'.cell? ⟨w.heap.size, 0, none⟩ = some (.int .i8 op) ∧ w'.cell? ⟨w.heap.size, 1, none⟩ = some (.int .i8 d) ∧ w'.cell? ⟨w.heap.size, 2, none⟩ = some (.int .i8 n) ∧ w'.cell? ⟨w.heap.size, 3, none⟩ = some (.int .i8 m) ∧ w'.cell? ⟨w.heap.size, 4, none⟩ = some (.int .i64 imm) ∧ w.heap.size < w'.heap.size ∧ Kp w w'
theorem IAt.kp {w w1 w2 : World} {op d n m imm : Int} (h : IAt w w1 op d n m imm) (g : Kp w1 w2) : IAt w w2 op d n m imm := by
  obtain ⟨h0, h1, h2, h3, h4, h5, h6⟩ := h
  exact ⟨(g.cell h5).trans h0, (g.cell h5).trans h1, (g.cell h5).trans h2, (g.cell h5).trans h3, (g.cell h5).trans h4, Nat.lt_of_lt_of_le h5 g.size, h6.trans g⟩
theorem IAt.drew {w w1 : World} {op d n m imm : Int} (h : IAt w w1 op d n m imm) : IAt w w1.drew op d n m imm := h.kp (Kp.refl _).drew
theorem IAt.new (w : World) (op d n m imm : Int) : IAt w (w.alloc (.cells (insV op d n m imm) 25)) op d n m imm := by
  have b := Blk.new w (insV op d n m imm) 25
  exact ⟨b.cell 0, b.cell 1, b.cell 2, b.cell 3, b.cell 4, b.lt, kpA _ _ _⟩
theorem wrap_u8 {a : Nat} (h : a < 8) : IntKind.u32.wrap (a : Int) = (a : Int) := by rw [wrap_u32']; omega
def regF (o D N M : Nat) : Nat := fW o + D + 32 * N + 65536 * M
theorem or_add (X i k v : Nat) (h : v = 0 ∨ X / 2 ^ i % 2 ^ k = 0) (hv : v < 2 ^ k) : X ||| v * 2 ^ i = X + v * 2 ^ i := by
  rcases h with rfl | h
  · rw [Nat.zero_mul, Nat.or_zero, Nat.add_zero]
  · exact or_field X i k v h hv
theorem reg_or (o D N M : Nat) (ho : o < 19) (h : Regs o D N M) :
    bits .or .u32 (bits .or .u32 (bits .or .u32 (fW o : Int) (IntKind.u32.wrap (IntKind.u32.wrap (M : Int) * 65536))) (IntKind.u32.wrap (IntKind.u32.wrap (N : Int) * 32))) (IntKind.u32.wrap (D : Int)) = (regF o D N M : Int) := by
  obtain ⟨h1, h2, h3⟩ := h
  obtain ⟨D', eD, hD, zD⟩ := mayR_of h1
  obtain ⟨N', eN, hN, zN⟩ := mayR_of h2
  obtain ⟨M', eM, hM, zM⟩ := mayR_of h3
  obtain rfl : D = D' := by omega
  obtain rfl : N = N' := by omega
  obtain rfl : M = M' := by omega
  clear h1 h2 h3 eD eN eM
  rw [wrap_u8 hD, wrap_u8 hN, wrap_u8 hM, wrap_u32', wrap_u32', show (M : Int) * 65536 % 4294967296 = ((M * 2 ^ 16 : Nat) : Int) by omega, show (N : Int) * 32 % 4294967296 = ((N * 2 ^ 5 : Nat) : Int) by omega]
  have hW : fW o < 4294967296 := (fmt_ok o ho).2.2.1
  have k : fW o + M * 2 ^ 16 + N * 2 ^ 5 + D < 4294967296 ∧ (M = 0 ∨ fW o / 2 ^ 16 % 2 ^ 3 = 0) ∧ (N = 0 ∨ (fW o + M * 2 ^ 16) / 2 ^ 5 % 2 ^ 3 = 0) ∧ (D = 0 ∨ (fW o + M * 2 ^ 16 + N * 2 ^ 5) / 2 ^ 0 % 2 ^ 3 = 0) := by
    obtain rfl | rfl | rfl | rfl | rfl | rfl | rfl | rfl | rfl | rfl | rfl | rfl | rfl | rfl | rfl | rfl | rfl | rfl | rfl : o = 0 ∨ o = 1 ∨ o = 2 ∨ o = 3 ∨ o = 4 ∨ o = 5 ∨ o = 6 ∨ o = 7 ∨ o = 8 ∨ o = 9 ∨ o = 10 ∨ o = 11 ∨ o = 12 ∨ o = 13 ∨ o = 14 ∨ o = 15 ∨ o = 16 ∨ o = 17 ∨ o = 18 := by omega
    all_goals
      simp [uD, uN, uM, uDL, uNL, uML] at zD zN zM
      simp [fW, fwL]
      omega
  obtain ⟨k0, k1, k2, k3⟩ := k
  have l1 : M * 2 ^ 16 < 4294967296 := by omega
  have l2 : N * 2 ^ 5 < 4294967296 := by omega
  rw [or_u32 _ _ hW l1, or_add _ _ 3 _ k1 hM, or_u32 _ _ (by omega) l2, or_add _ _ 3 _ k2 hN, or_u32 _ _ (by omega) (by omega)]
  have := or_add _ 0 3 D k3 hD
  rw [Nat.pow_zero, Nat.mul_one] at this
  rw [this]
  unfold regF
  omega
theorem encF_reg (o D N M : Nat) (imm : Int) : encF o D N M imm = regF o D N M + 2 ^ fLo o * (imm % 2 ^ fWd o).toNat := by
  unfold encF regF
  omega
theorem encF_none (o D N M : Nat) (imm : Int) (h : fWd o = 0) : encF o D N M imm = regF o D N M := by
  rw [encF_reg, h, Int.pow_zero, Int.emod_one]
  simp
theorem regF_of {o D N M : Nat} (h : Regs o D N M) : D < 8 ∧ N < 8 ∧ M < 8 ∧ (uD o = 0 → D = 0) ∧ (uN o = 0 → N = 0) ∧ (uM o = 0 → M = 0) := by
  obtain ⟨h1, h2, h3⟩ := h
  obtain ⟨D', eD, hD, zD⟩ := mayR_of h1
  obtain ⟨N', eN, hN, zN⟩ := mayR_of h2
  obtain ⟨M', eM, hM, zM⟩ := mayR_of h3
  obtain rfl : D = D' := by omega
  obtain rfl : N = N' := by omega
  obtain rfl : M = M' := by omega
  exact ⟨hD, hN, hM, zD, zN, zM⟩
theorem mov_or (D N M : Nat) (V : Nat) (h : Regs 1 D N M) (hv : V < 65536) : bits .or .u32 (regF 1 D N M : Int) (IntKind.u32.wrap (IntKind.u32.wrap (V : Int) * 32)) = (encF 1 D N M V : Int) := by
  obtain ⟨hD, hN, hM, -, zN, zM⟩ := regF_of h
  have zN := zN rfl
  have zM := zM rfl
  subst zN zM
  rw [wrap_u32', wrap_u32', show (V : Int) % 4294967296 * 32 % 4294967296 = ((V * 2 ^ 5 : Nat) : Int) by omega]
  have e : regF 1 D 0 0 = 3531603968 + D := rfl
  rw [encF_reg, e, or_u32 _ _ (by omega) (by omega), or_add _ 5 16 V (.inr (by omega)) (by omega)]
  simp [fLo, fWd, floL, fwdL]
  omega
theorem addi_or (D N M : Nat) (V : Nat) (h : Regs 7 D N M) (hv : V < 4096) : bits .or .u32 (regF 7 D N M : Int) (IntKind.u32.wrap (IntKind.u32.wrap (V : Int) * 1024)) = (encF 7 D N M V : Int) := by
  obtain ⟨hD, hN, hM, -, -, zM⟩ := regF_of h
  have zM := zM rfl
  subst zM
  rw [wrap_u32', wrap_u32', show (V : Int) % 4294967296 * 1024 % 4294967296 = ((V * 2 ^ 10 : Nat) : Int) by omega]
  have e : regF 7 D N 0 = 2432696320 + D + 32 * N := rfl
  rw [encF_reg, e, or_u32 _ _ (by omega) (by omega), or_add _ 10 12 V (.inr (by omega)) (by omega)]
  simp [fLo, fWd, floL, fwdL]
  omega
theorem addn_or (D N M : Nat) (V : Nat) (h : Regs 7 D N M) (hv : V < 4096) : bits .or .u32 (bits .or .u32 (regF 7 D N M : Int) 1073741824) (IntKind.u32.wrap (IntKind.u32.wrap (V : Int) * 1024)) = ((encF 7 D N M V + 1073741824 : Nat) : Int) := by
  obtain ⟨hD, hN, hM, -, -, zM⟩ := regF_of h
  have zM := zM rfl
  subst zM
  rw [wrap_u32', wrap_u32', show (V : Int) % 4294967296 * 1024 % 4294967296 = ((V * 2 ^ 10 : Nat) : Int) by omega]
  have e : regF 7 D N 0 = 2432696320 + D + 32 * N := rfl
  have h1 := or_field (2432696320 + D + 32 * N) 30 1 1 (by omega) (by decide)
  rw [show (1 : Nat) * 2 ^ 30 = 1073741824 from rfl] at h1
  rw [encF_reg, e, show (1073741824 : Int) = ((1073741824 : Nat) : Int) from rfl, or_u32 _ _ (by omega) (by decide), h1, or_u32 _ _ (by omega) (by omega), or_add _ 10 12 V (.inr (by omega)) (by omega)]
  simp [fLo, fWd, floL, fwdL]
  omega
theorem and_mask (x : Int) (k : Nat) (hk : k ≤ 32) : bits .and .u32 (IntKind.u32.wrap x) ((2 ^ k - 1 : Nat) : Int) = (((x % 2 ^ k).toNat : Nat) : Int) := by
  obtain ⟨X, hX⟩ := Int.eq_ofNat_of_zero_le (show 0 ≤ x % 4294967296 by omega)
  have hp : (2 : Nat) ^ k ≤ 2 ^ 32 := Nat.pow_le_pow_right (by decide) hk
  have h1 := Nat.two_pow_pos k
  rw [wrap_u32', hX, and_u32 _ _ (by omega) (by omega), Nat.and_two_pow_sub_one_eq_mod]
  have d : ((2 : Int) ^ k) ∣ 4294967296 := by
    refine ⟨2 ^ (32 - k), ?_⟩
    rw [← Int.pow_add, show k + (32 - k) = 32 by omega]; rfl
  have e : ((X % 2 ^ k : Nat) : Int) = x % 2 ^ k := by
    rw [Int.natCast_emod, ← hX, Int.natCast_pow]
    exact Int.emod_emod_of_dvd x d
  have hz : (0 : Int) < 2 ^ k := Int.pow_pos (by decide)
  have h0 := Int.emod_nonneg x (show (2 : Int) ^ k ≠ 0 by omega)
  omega
theorem mod_lt' (x : Int) (k : Nat) : (x % 2 ^ k).toNat < 2 ^ k := by
  have h0 : (0 : Int) < 2 ^ k := Int.pow_pos (by decide)
  have h1 := Int.emod_lt_of_pos x h0
  have h3 : ((2 ^ k : Nat) : Int) = 2 ^ k := by simp
  omega
theorem b_or (D N M : Nat) (imm : Int) (h : Regs 14 D N M) : bits .or .u32 (regF 14 D N M : Int) (bits .and .u32 (IntKind.u32.wrap imm) 67108863) = (encF 14 D N M imm : Int) := by
  obtain ⟨hD, hN, hM, zD, zN, zM⟩ := regF_of h
  have zD := zD rfl
  have zN := zN rfl
  have zM := zM rfl
  subst zD zN zM
  have hm := and_mask imm 26 (by decide)
  rw [show ((2 ^ 26 - 1 : Nat) : Int) = 67108863 from rfl] at hm
  have hl := mod_lt' imm 26
  rw [hm, encF_reg, show regF 14 0 0 0 = 335544320 from rfl, show fLo 14 = 0 from rfl, show fWd 14 = 26 from rfl]
  generalize (imm % 2 ^ 26).toNat = V at *
  have := or_add 335544320 0 26 V (.inr (by decide)) hl
  rw [Nat.pow_zero, Nat.mul_one] at this
  rw [or_u32 _ _ (by decide) (by omega), this]
  omega
theorem cb_or (o D N M : Nat) (imm : Int) (ho : o = 15 ∨ o = 16) (h : Regs o D N M) : bits .or .u32 (regF o D N M : Int) (IntKind.u32.wrap (bits .and .u32 (IntKind.u32.wrap imm) 524287 * 32)) = (encF o D N M imm : Int) := by
  obtain ⟨hD, hN, hM, zD, zN, zM⟩ := regF_of h
  have zN := zN (by rcases ho with rfl | rfl <;> rfl)
  have zM := zM (by rcases ho with rfl | rfl <;> rfl)
  subst zN zM
  have hm := and_mask imm 19 (by decide)
  rw [show ((2 ^ 19 - 1 : Nat) : Int) = 524287 from rfl] at hm
  have hl := mod_lt' imm 19
  have e : ∃ B, regF o D 0 0 = B + D ∧ B % 2 ^ 24 = 0 ∧ B < 3100000000 ∧ fLo o = 5 ∧ fWd o = 19 := by
    rcases ho with rfl | rfl
    · exact ⟨3019898880, rfl, by decide, by decide, rfl, rfl⟩
    · exact ⟨3036676096, rfl, by decide, by decide, rfl, rfl⟩
  obtain ⟨B, e1, e2, e3, e4, e5⟩ := e
  rw [hm, encF_reg, e1, e4, e5]
  generalize (imm % 2 ^ 19).toNat = V at *
  rw [wrap_u32', show (V : Int) * 32 % 4294967296 = ((V * 2 ^ 5 : Nat) : Int) by omega, or_u32 _ _ (by omega) (by omega), or_add _ 5 19 V (.inr (by omega)) hl]
  omega
set_option maxRecDepth 20000 in
theorem rencode_plain (o D N M : Nat) (imm : Int) (w : World) (g : InsA o D N M imm) (h1 : o ≠ 1) (h7 : o ≠ 7) (h14 : o ≠ 14) (h15 : o ≠ 15) (h16 : o ≠ 16) (h18 : o ≠ 18) :
    Calls Tryd.prog 11 #[.agg (insV o D N M imm)] w fun e w' => e = .returned (.tuple #[.int .u32 (encF o D N M imm : Nat), .int .i64 0]) ∧ Kp w w' := by
  have i0 : (0 : Int) ≤ (o : Int) := g.1
  have i1 : (o : Int) < 19 := g.2.1
  have HO : Hid (o < 18) := Lib.hid (by omega)
  have HZ : Hid (fWd o = 0) := Lib.hid (by
    obtain rfl | rfl | rfl | rfl | rfl | rfl | rfl | rfl | rfl | rfl | rfl | rfl | rfl : o = 0 ∨ o = 2 ∨ o = 3 ∨ o = 4 ∨ o = 5 ∨ o = 6 ∨ o = 8 ∨ o = 9 ∨ o = 10 ∨ o = 11 ∨ o = 12 ∨ o = 13 ∨ o = 17 := by omega
    all_goals rfl)
  have e1 : ((o : Int) == 1) = false := by simp; omega
  have e7 : ((o : Int) == 7) = false := by simp; omega
  have e14 : ((o : Int) == 14) = false := by simp; omega
  have e15 : ((o : Int) == 15) = false := by simp; omega
  have e16 : ((o : Int) == 16) = false := by simp; omega
  have e18 : ((o : Int) == 18) = false := by simp; omega
  have hr := g.regs
  have d1 : (D : Int) < 8 := hr.1.2
  have n1 : (N : Int) < 8 := hr.2.1.2
  have m1 : (M : Int) < 8 := hr.2.2.2
  have HQ := Lib.hid (reg_or o D N M (by have := HO.out; omega) g.2.2.2)
  have HG := Lib.hid g
  have HC := Lib.hid (IAt.new w o D N M imm)
  clear g hr h1 h7 h14 h15 h16 h18
  unfold insV at HC
  unfold insV
  go_enter Tryd.func11, Tryd.ntmps11
  go_wp2_with fail
  refine (rcheck_ok o D N M imm _ HG.out).mono ?_; rintro e w1 ⟨rfl, hg⟩
  have H1 := Lib.hid hg; clear hg
  have HS := Lib.hid (HC.out.kp H1.out)
  obtain ⟨c0, c1, c2, c3, c4, -⟩ := HC.out.kp H1.out
  go_wp2_with fail
  go_region_held3 (fun w' => w'.cell? ⟨w.heap.size, 0, none⟩ = some (.int .i8 o) ∧ w'.cell? ⟨w.heap.size, 1, none⟩ = some (.int .i8 D) ∧ w'.cell? ⟨w.heap.size, 2, none⟩ = some (.int .i8 N) ∧ w'.cell? ⟨w.heap.size, 3, none⟩ = some (.int .i8 M) ∧ w'.cell? ⟨w.heap.size, 4, none⟩ = some (.int .i64 imm) ∧ w.heap.size < w'.heap.size ∧ Kp w w')
      (first | exact HS.out.drew | assumption | exact IAt.drew (by assumption))
      (first | (go_at_call 22; refine (base_any o _ HO.out).mono ?_; rintro e w' ⟨rfl, rfl⟩))
  rename_i hh
  have HH := Lib.hid hh
  obtain ⟨z0, z1, z2, z3, z4, -⟩ := hh
  have hq := HQ.out
  rw [hq]
  clear hq
  go_wp2
  go_ret2
  exact ⟨ret_pair (by rw [encF_none _ _ _ _ _ HZ.out]) rfl, HH.out.2.2.2.2.2.2⟩
set_option maxRecDepth 20000 in
theorem rencode_mov (D N M : Nat) (imm : Int) (w : World) (g : InsA 1 D N M imm)  :
    Calls Tryd.prog 11 #[.agg (insV 1 D N M imm)] w fun e w' => e = .returned (.tuple #[.int .u32 (encF 1 D N M imm : Nat), .int .i64 0]) ∧ Kp w w' := by
  have HO : Hid (1 < 18) := Lib.hid (by decide)
  have V0 : 0 ≤ imm := g.2.2.1.1
  have V1 : imm < 65536 := by have : imm ≤ 65535 := g.2.2.1.2; omega
  have HV : Hid (∃ V : Nat, imm = V ∧ V < 65536) := Lib.hid ⟨imm.toNat, by omega, by omega⟩
  have hr := g.regs
  have d1 : (D : Int) < 8 := hr.1.2
  have n1 : (N : Int) < 8 := hr.2.1.2
  have m1 : (M : Int) < 8 := hr.2.2.2
  have HQ := Lib.hid (reg_or 1 D N M (by have := HO.out; omega) g.2.2.2)
  have HG := Lib.hid g
  have HC := Lib.hid (IAt.new w 1 D N M imm)
  clear g hr V0 V1
  unfold insV at HC
  unfold insV
  go_enter Tryd.func11, Tryd.ntmps11
  go_wp2_with fail
  refine (rcheck_ok 1 D N M imm _ HG.out).mono ?_; rintro e w1 ⟨rfl, hg⟩
  have H1 := Lib.hid hg; clear hg
  have HS := Lib.hid (HC.out.kp H1.out)
  obtain ⟨c0, c1, c2, c3, c4, -⟩ := HC.out.kp H1.out
  go_wp2_with fail
  go_region_held3 (fun w' => w'.cell? ⟨w.heap.size, 0, none⟩ = some (.int .i8 1) ∧ w'.cell? ⟨w.heap.size, 1, none⟩ = some (.int .i8 D) ∧ w'.cell? ⟨w.heap.size, 2, none⟩ = some (.int .i8 N) ∧ w'.cell? ⟨w.heap.size, 3, none⟩ = some (.int .i8 M) ∧ w'.cell? ⟨w.heap.size, 4, none⟩ = some (.int .i64 imm) ∧ w.heap.size < w'.heap.size ∧ Kp w w')
      (first | exact HS.out.drew | assumption | exact IAt.drew (by assumption))
      (first | (go_at_call 22; refine (base_any 1 _ HO.out).mono ?_; rintro e w' ⟨rfl, rfl⟩))
  rename_i hh
  have HH := Lib.hid hh
  obtain ⟨z0, z1, z2, z3, z4, -⟩ := hh
  have hq := HQ.out
  rw [hq]
  clear hq
  go_wp2
  go_ret2
  exact ⟨ret_pair (by obtain ⟨V, rfl, hv⟩ := HV.out; exact mov_or D N M V HG.out.2.2.2 hv) rfl, HH.out.2.2.2.2.2.2⟩
set_option maxRecDepth 20000 in
theorem rencode_addp (D N M : Nat) (imm : Int) (w : World) (g : InsA 7 D N M imm) (hi : 0 ≤ imm) :
    Calls Tryd.prog 11 #[.agg (insV 7 D N M imm)] w fun e w' => e = .returned (.tuple #[.int .u32 (encF 7 D N M imm : Nat), .int .i64 0]) ∧ Kp w w' := by
  have HO : Hid (7 < 18) := Lib.hid (by decide)
  have HV : Hid (∃ V : Nat, imm = V ∧ V < 4096) := Lib.hid ⟨imm.toNat, by omega, by have : imm ≤ 2047 := g.2.2.1.2; omega⟩
  have hr := g.regs
  have d1 : (D : Int) < 8 := hr.1.2
  have n1 : (N : Int) < 8 := hr.2.1.2
  have m1 : (M : Int) < 8 := hr.2.2.2
  have HQ := Lib.hid (reg_or 7 D N M (by have := HO.out; omega) g.2.2.2)
  have HG := Lib.hid g
  have HC := Lib.hid (IAt.new w 7 D N M imm)
  clear g hr 
  unfold insV at HC
  unfold insV
  go_enter Tryd.func11, Tryd.ntmps11
  go_wp2_with fail
  refine (rcheck_ok 7 D N M imm _ HG.out).mono ?_; rintro e w1 ⟨rfl, hg⟩
  have H1 := Lib.hid hg; clear hg
  have HS := Lib.hid (HC.out.kp H1.out)
  obtain ⟨c0, c1, c2, c3, c4, -⟩ := HC.out.kp H1.out
  go_wp2_with fail
  go_region_held3 (fun w' => w'.cell? ⟨w.heap.size, 0, none⟩ = some (.int .i8 7) ∧ w'.cell? ⟨w.heap.size, 1, none⟩ = some (.int .i8 D) ∧ w'.cell? ⟨w.heap.size, 2, none⟩ = some (.int .i8 N) ∧ w'.cell? ⟨w.heap.size, 3, none⟩ = some (.int .i8 M) ∧ w'.cell? ⟨w.heap.size, 4, none⟩ = some (.int .i64 imm) ∧ w.heap.size < w'.heap.size ∧ Kp w w')
      (first | exact HS.out.drew | assumption | exact IAt.drew (by assumption))
      (first | (go_at_call 22; refine (base_any 7 _ HO.out).mono ?_; rintro e w' ⟨rfl, rfl⟩))
  rename_i hh
  have HH := Lib.hid hh
  obtain ⟨z0, z1, z2, z3, z4, -⟩ := hh
  have hq := HQ.out
  rw [hq]
  clear hq
  go_wp2
  go_ret2
  exact ⟨ret_pair (by obtain ⟨V, rfl, hv⟩ := HV.out; exact addi_or D N M V HG.out.2.2.2 hv) rfl, HH.out.2.2.2.2.2.2⟩
set_option maxRecDepth 20000 in
theorem rencode_addn (D N M : Nat) (imm : Int) (w : World) (g : InsA 7 D N M imm) (hi : imm < 0) :
    Calls Tryd.prog 11 #[.agg (insV 7 D N M imm)] w fun e w' => e = .returned (.tuple #[.int .u32 (encF 7 D N M (-imm) + 1073741824 : Nat), .int .i64 0]) ∧ Kp w w' := by
  have HO : Hid (7 < 18) := Lib.hid (by decide)
  have hng : wrap64 (-imm) = -imm := neg_imm ⟨g.2.2.1.1, hi⟩
  have HV : Hid (∃ V : Nat, -imm = V ∧ V < 4096) := Lib.hid ⟨(-imm).toNat, by omega, by have : -2048 ≤ imm := g.2.2.1.1; omega⟩
  have hr := g.regs
  have d1 : (D : Int) < 8 := hr.1.2
  have n1 : (N : Int) < 8 := hr.2.1.2
  have m1 : (M : Int) < 8 := hr.2.2.2
  have HQ := Lib.hid (reg_or 7 D N M (by have := HO.out; omega) g.2.2.2)
  have HG := Lib.hid g
  have HC := Lib.hid (IAt.new w 7 D N M imm)
  clear g hr 
  unfold insV at HC
  unfold insV
  go_enter Tryd.func11, Tryd.ntmps11
  go_wp2_with fail
  refine (rcheck_ok 7 D N M imm _ HG.out).mono ?_; rintro e w1 ⟨rfl, hg⟩
  have H1 := Lib.hid hg; clear hg
  have HS := Lib.hid (HC.out.kp H1.out)
  obtain ⟨c0, c1, c2, c3, c4, -⟩ := HC.out.kp H1.out
  go_wp2_with fail
  go_region_held3 (fun w' => w'.cell? ⟨w.heap.size, 0, none⟩ = some (.int .i8 7) ∧ w'.cell? ⟨w.heap.size, 1, none⟩ = some (.int .i8 D) ∧ w'.cell? ⟨w.heap.size, 2, none⟩ = some (.int .i8 N) ∧ w'.cell? ⟨w.heap.size, 3, none⟩ = some (.int .i8 M) ∧ w'.cell? ⟨w.heap.size, 4, none⟩ = some (.int .i64 imm) ∧ w.heap.size < w'.heap.size ∧ Kp w w')
      (first | exact HS.out.drew | assumption | exact IAt.drew (by assumption))
      (first | (go_at_call 22; refine (base_any 7 _ HO.out).mono ?_; rintro e w' ⟨rfl, rfl⟩))
  rename_i hh
  have HH := Lib.hid hh
  obtain ⟨z0, z1, z2, z3, z4, -⟩ := hh
  have hq := HQ.out
  rw [hq]
  clear hq
  go_wp2
  go_ret2
  exact ⟨ret_pair (by obtain ⟨V, hV, hv⟩ := HV.out; rw [hV]; exact addn_or D N M V HG.out.2.2.2 hv) rfl, HH.out.2.2.2.2.2.2⟩
set_option maxRecDepth 20000 in
theorem rencode_b (D N M : Nat) (imm : Int) (w : World) (g : InsA 14 D N M imm)  :
    Calls Tryd.prog 11 #[.agg (insV 14 D N M imm)] w fun e w' => e = .returned (.tuple #[.int .u32 (encF 14 D N M imm : Nat), .int .i64 0]) ∧ Kp w w' := by
  have HO : Hid (14 < 18) := Lib.hid (by decide)
  have hr := g.regs
  have d1 : (D : Int) < 8 := hr.1.2
  have n1 : (N : Int) < 8 := hr.2.1.2
  have m1 : (M : Int) < 8 := hr.2.2.2
  have HQ := Lib.hid (reg_or 14 D N M (by have := HO.out; omega) g.2.2.2)
  have HG := Lib.hid g
  have HC := Lib.hid (IAt.new w 14 D N M imm)
  clear g hr 
  unfold insV at HC
  unfold insV
  go_enter Tryd.func11, Tryd.ntmps11
  go_wp2_with fail
  refine (rcheck_ok 14 D N M imm _ HG.out).mono ?_; rintro e w1 ⟨rfl, hg⟩
  have H1 := Lib.hid hg; clear hg
  have HS := Lib.hid (HC.out.kp H1.out)
  obtain ⟨c0, c1, c2, c3, c4, -⟩ := HC.out.kp H1.out
  go_wp2_with fail
  go_region_held3 (fun w' => w'.cell? ⟨w.heap.size, 0, none⟩ = some (.int .i8 14) ∧ w'.cell? ⟨w.heap.size, 1, none⟩ = some (.int .i8 D) ∧ w'.cell? ⟨w.heap.size, 2, none⟩ = some (.int .i8 N) ∧ w'.cell? ⟨w.heap.size, 3, none⟩ = some (.int .i8 M) ∧ w'.cell? ⟨w.heap.size, 4, none⟩ = some (.int .i64 imm) ∧ w.heap.size < w'.heap.size ∧ Kp w w')
      (first | exact HS.out.drew | assumption | exact IAt.drew (by assumption))
      (first | (go_at_call 22; refine (base_any 14 _ HO.out).mono ?_; rintro e w' ⟨rfl, rfl⟩))
  rename_i hh
  have HH := Lib.hid hh
  obtain ⟨z0, z1, z2, z3, z4, -⟩ := hh
  have hq := HQ.out
  rw [hq]
  clear hq
  go_wp2
  go_ret2
  exact ⟨ret_pair (by exact b_or D N M imm HG.out.2.2.2) rfl, HH.out.2.2.2.2.2.2⟩
set_option maxRecDepth 20000 in
theorem rencode_cb15 (D N M : Nat) (imm : Int) (w : World) (g : InsA 15 D N M imm)  :
    Calls Tryd.prog 11 #[.agg (insV 15 D N M imm)] w fun e w' => e = .returned (.tuple #[.int .u32 (encF 15 D N M imm : Nat), .int .i64 0]) ∧ Kp w w' := by
  have HO : Hid (15 < 18) := Lib.hid (by decide)
  have hr := g.regs
  have d1 : (D : Int) < 8 := hr.1.2
  have n1 : (N : Int) < 8 := hr.2.1.2
  have m1 : (M : Int) < 8 := hr.2.2.2
  have HQ := Lib.hid (reg_or 15 D N M (by have := HO.out; omega) g.2.2.2)
  have HG := Lib.hid g
  have HC := Lib.hid (IAt.new w 15 D N M imm)
  clear g hr 
  unfold insV at HC
  unfold insV
  go_enter Tryd.func11, Tryd.ntmps11
  go_wp2_with fail
  refine (rcheck_ok 15 D N M imm _ HG.out).mono ?_; rintro e w1 ⟨rfl, hg⟩
  have H1 := Lib.hid hg; clear hg
  have HS := Lib.hid (HC.out.kp H1.out)
  obtain ⟨c0, c1, c2, c3, c4, -⟩ := HC.out.kp H1.out
  go_wp2_with fail
  go_region_held3 (fun w' => w'.cell? ⟨w.heap.size, 0, none⟩ = some (.int .i8 15) ∧ w'.cell? ⟨w.heap.size, 1, none⟩ = some (.int .i8 D) ∧ w'.cell? ⟨w.heap.size, 2, none⟩ = some (.int .i8 N) ∧ w'.cell? ⟨w.heap.size, 3, none⟩ = some (.int .i8 M) ∧ w'.cell? ⟨w.heap.size, 4, none⟩ = some (.int .i64 imm) ∧ w.heap.size < w'.heap.size ∧ Kp w w')
      (first | exact HS.out.drew | assumption | exact IAt.drew (by assumption))
      (first | (go_at_call 22; refine (base_any 15 _ HO.out).mono ?_; rintro e w' ⟨rfl, rfl⟩))
  rename_i hh
  have HH := Lib.hid hh
  obtain ⟨z0, z1, z2, z3, z4, -⟩ := hh
  have hq := HQ.out
  rw [hq]
  clear hq
  go_wp2
  go_ret2
  exact ⟨ret_pair (by exact cb_or 15 D N M imm (by decide) HG.out.2.2.2) rfl, HH.out.2.2.2.2.2.2⟩
set_option maxRecDepth 20000 in
theorem rencode_cb16 (D N M : Nat) (imm : Int) (w : World) (g : InsA 16 D N M imm)  :
    Calls Tryd.prog 11 #[.agg (insV 16 D N M imm)] w fun e w' => e = .returned (.tuple #[.int .u32 (encF 16 D N M imm : Nat), .int .i64 0]) ∧ Kp w w' := by
  have HO : Hid (16 < 18) := Lib.hid (by decide)
  have hr := g.regs
  have d1 : (D : Int) < 8 := hr.1.2
  have n1 : (N : Int) < 8 := hr.2.1.2
  have m1 : (M : Int) < 8 := hr.2.2.2
  have HQ := Lib.hid (reg_or 16 D N M (by have := HO.out; omega) g.2.2.2)
  have HG := Lib.hid g
  have HC := Lib.hid (IAt.new w 16 D N M imm)
  clear g hr 
  unfold insV at HC
  unfold insV
  go_enter Tryd.func11, Tryd.ntmps11
  go_wp2_with fail
  refine (rcheck_ok 16 D N M imm _ HG.out).mono ?_; rintro e w1 ⟨rfl, hg⟩
  have H1 := Lib.hid hg; clear hg
  have HS := Lib.hid (HC.out.kp H1.out)
  obtain ⟨c0, c1, c2, c3, c4, -⟩ := HC.out.kp H1.out
  go_wp2_with fail
  go_region_held3 (fun w' => w'.cell? ⟨w.heap.size, 0, none⟩ = some (.int .i8 16) ∧ w'.cell? ⟨w.heap.size, 1, none⟩ = some (.int .i8 D) ∧ w'.cell? ⟨w.heap.size, 2, none⟩ = some (.int .i8 N) ∧ w'.cell? ⟨w.heap.size, 3, none⟩ = some (.int .i8 M) ∧ w'.cell? ⟨w.heap.size, 4, none⟩ = some (.int .i64 imm) ∧ w.heap.size < w'.heap.size ∧ Kp w w')
      (first | exact HS.out.drew | assumption | exact IAt.drew (by assumption))
      (first | (go_at_call 22; refine (base_any 16 _ HO.out).mono ?_; rintro e w' ⟨rfl, rfl⟩))
  rename_i hh
  have HH := Lib.hid hh
  obtain ⟨z0, z1, z2, z3, z4, -⟩ := hh
  have hq := HQ.out
  rw [hq]
  clear hq
  go_wp2
  go_ret2
  exact ⟨ret_pair (by exact cb_or 16 D N M imm (by decide) HG.out.2.2.2) rfl, HH.out.2.2.2.2.2.2⟩
theorem rencode_no (op d n m imm : Int) (w : World) (h : ¬ OkA op d n m imm) :
    Calls Tryd.prog 11 #[.agg (insV op d n m imm)] w fun e w' => e = .returned (.tuple #[.int .u32 0, .int .i64 60]) ∧ Kp w w' := by
  by_cases hI : InsA op d n m imm
  · have h18 : op = 18 := Classical.byContradiction fun k => h ⟨hI, k⟩
    subst h18
    have HI := Lib.hid hI
    have HC := Lib.hid (IAt.new w 18 d n m imm)
    unfold insV at HC
    unfold insV
    clear h hI
    go_enter Tryd.func11, Tryd.ntmps11
    go_wp2_with fail
    refine (rcheck_ok 18 d n m imm _ HI.out).mono ?_; rintro e w1 ⟨rfl, hg⟩
    have H1 := Lib.hid hg; clear hg
    obtain ⟨c0, c1, c2, c3, c4, -⟩ := HC.out.kp H1.out
    go_wp2
    go_ret2
    exact ⟨rfl, (by (repeat (first | apply Kp.drew | apply Kp.alloc)); refine Kp.trans ?_ H1.out; (repeat (first | apply Kp.drew | apply Kp.alloc)); exact Kp.refl _)⟩
  · have HI := Lib.hid hI
    unfold insV
    clear h hI
    go_enter Tryd.func11, Tryd.ntmps11
    go_wp2_with fail
    refine (rcheck_bad op d n m imm _ HI.out).mono ?_; rintro e w2 ⟨rfl, hg⟩
    have H2 := Lib.hid hg; clear hg
    go_wp2
    go_ret2
    exact ⟨rfl, (by (repeat (first | apply Kp.drew | apply Kp.alloc)); refine Kp.trans ?_ H2.out; (repeat (first | apply Kp.drew | apply Kp.alloc)); exact Kp.refl _)⟩
theorem rencode_any (op d n m imm : Int) (w : World) :
    Calls Tryd.prog 11 #[.agg (insV op d n m imm)] w fun e w' => e = .returned (.tuple #[.int .u32 (encR op d n m imm), .int .i64 (encE op d n m imm)]) ∧ Kp w w' := by
  by_cases h : OkA op d n m imm
  · rw [show encR op d n m imm = encN op d n m imm from if_pos h, show encE op d n m imm = 0 from if_pos h]
    obtain ⟨g, h18⟩ := h
    have hr := g.regs
    obtain ⟨o, rfl⟩ := Int.eq_ofNat_of_zero_le g.1
    obtain ⟨D, rfl⟩ := Int.eq_ofNat_of_zero_le hr.1.1
    obtain ⟨N, rfl⟩ := Int.eq_ofNat_of_zero_le hr.2.1.1
    obtain ⟨M, rfl⟩ := Int.eq_ofNat_of_zero_le hr.2.2.1
    have e0 : ¬ (o = 7 ∧ imm < 0) → encN (o : Int) D N M imm = encF o D N M imm := fun h => (if_neg fun k => h (by omega)).trans (by rw [Int.toNat_natCast])
    by_cases h1 : o = 1
    · subst h1; rw [e0 (by omega)]; exact rencode_mov D N M imm w g
    by_cases h7 : o = 7
    · subst h7
      by_cases hi : imm < 0
      · rw [show encN ((7 : Nat) : Int) D N M imm = encF 7 D N M (-imm) + 1073741824 from if_pos ⟨rfl, hi⟩]
        exact rencode_addn D N M imm w g hi
      · rw [e0 (by omega)]; exact rencode_addp D N M imm w g (by omega)
    by_cases h14 : o = 14
    · subst h14; rw [e0 (by omega)]; exact rencode_b D N M imm w g
    by_cases h15 : o = 15
    · subst h15; rw [e0 (by omega)]; exact rencode_cb15 D N M imm w g
    by_cases h16 : o = 16
    · subst h16; rw [e0 (by omega)]; exact rencode_cb16 D N M imm w g
    rw [e0 (by omega)]
    exact rencode_plain o D N M imm w g h1 h7 h14 h15 h16 (by omega)
  · rw [show encR op d n m imm = 0 from if_neg h, show encE op d n m imm = 60 from if_neg h]
    exact rencode_no op d n m imm w h
end Go.Proofs.YtfbkppncaampdaaDoor
