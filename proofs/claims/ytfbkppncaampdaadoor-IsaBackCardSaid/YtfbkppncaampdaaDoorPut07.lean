/-
  Package isa: a part of a word put and got, a part's bounds. No condition but the places.
-/
import Derived.Test.YtfbkppncaampdaaDoorChk07
import Derived.Test.YtfbkppncaampdaaDoorWordsN
import Derived.Deep.RegionWith
import Derived.Deep.RegionHeld3
namespace Go.Proofs.YtfbkppncaampdaaDoor
open Go Go.RowKit

def putN (W lo wd : Nat) (v : Int) : Nat := if wd = 0 then W else 2 ^ lo * (2 ^ wd * (W / 2 ^ (lo + wd)) + (v % 2 ^ wd).toNat) + W % 2 ^ lo
theorem putN_lt (W lo wd : Nat) (v : Int) (hW : W < 4294967296) (h : lo + wd ≤ 32) : putN W lo wd v < 4294967296 := by
  unfold putN
  split
  · exact hW
  · have hv : (v % 2 ^ wd).toNat < 2 ^ wd := by
      have h0 : (0 : Int) < 2 ^ wd := Int.pow_pos (by decide)
      have h1 := Int.emod_lt_of_pos v h0
      have h2 := Int.emod_nonneg v (show (2 : Int) ^ wd ≠ 0 by omega)
      have h3 : ((2 ^ wd : Nat) : Int) = 2 ^ wd := by simp
      omega
    have e32 : 2 ^ lo * (2 ^ wd * 2 ^ (32 - (lo + wd))) = 4294967296 := by
      rw [← Nat.pow_add, ← Nat.pow_add, show lo + (wd + (32 - (lo + wd))) = 32 by omega]
    have hq : W / 2 ^ (lo + wd) < 2 ^ (32 - (lo + wd)) := by
      rw [Nat.div_lt_iff_lt_mul (Nat.two_pow_pos _), ← Nat.pow_add, show 32 - (lo + wd) + (lo + wd) = 32 by omega]
      exact hW
    have hm : W % 2 ^ lo < 2 ^ lo := Nat.mod_lt _ (Nat.two_pow_pos _)
    generalize (v % 2 ^ wd).toNat = a at *
    generalize W / 2 ^ (lo + wd) = q at *
    generalize W % 2 ^ lo = r at *
    have a1 : 2 ^ wd * q + a + 1 ≤ 2 ^ wd * 2 ^ (32 - (lo + wd)) := by
      have := Nat.mul_le_mul_left (2 ^ wd) (show q + 1 ≤ _ from hq)
      rw [Nat.mul_add, Nat.mul_one] at this
      omega
    have a2 := Nat.mul_le_mul_left (2 ^ lo) a1
    rw [e32, Nat.mul_add _ _ 1, Nat.mul_one] at a2
    omega
theorem wrap_u32' (z : Int) : IntKind.u32.wrap z = z % 4294967296 := IntKind.wrap_u32 z
theorem put_is (W lo n : Nat) (v : Int) (x y : BitVec 64) (hW : W < 4294967296) (hlo : lo + (n + 1) ≤ 32) (nx : x.toNat = W) (ny : (y.toNat : Int) = v % 18446744073709551616) :
    putN W lo (n + 1) v = (putB x (getB y n 0) (lo + n) lo).toNat ∧ (putB x (getB y n 0) (lo + n) lo).toNat < 4294967296 := by
  have hf : (getB y n 0).toNat ≤ (mask (lo + n - lo + 1)).toNat := by rw [show lo + n - lo + 1 = n - 0 + 1 by omega]; exact get_fits y n 0 (by omega) (by omega)
  have e := putB_nat x (getB y n 0) (lo + n) lo (by omega) (by omega) hf
  rw [getB_nat y n 0 (by omega) (by omega)] at e
  have e2 : (v % 2 ^ (n + 1)).toNat = y.toNat / 2 ^ 0 % 2 ^ (n - 0 + 1) := by
    rw [Nat.pow_zero, Nat.div_one, Nat.sub_zero]
    have d : ((2 : Int) ^ (n + 1)) ∣ 18446744073709551616 := by
      refine ⟨2 ^ (63 - n), ?_⟩
      rw [← Int.pow_add, show n + 1 + (63 - n) = 64 by omega]; rfl
    have : ((y.toNat % 2 ^ (n + 1) : Nat) : Int) = v % 2 ^ (n + 1) := by
      rw [Int.natCast_emod, ny, Int.natCast_pow]
      exact Int.emod_emod_of_dvd v d
    omega
  have e3 : putN W lo (n + 1) v = (putB x (getB y n 0) (lo + n) lo).toNat := by
    rw [e]
    unfold putN
    rw [if_neg (by omega), e2, nx, show lo + (n + 1) = lo + n + 1 by omega, show lo + n - lo + 1 = n + 1 by omega]
  refine ⟨e3, ?_⟩
  rw [← e3]
  exact putN_lt W lo (n + 1) v hW hlo
theorem hi_any (lo wd : Int) (sg : Bool) (w : World) (h : 0 ≤ lo ∧ 0 ≤ wd ∧ lo + wd ≤ 32) :
    Calls Tryd.prog 51 #[.agg #[.int .i64 lo, .int .i64 wd, .bool sg]] w fun e w' => e = .returned (.int .i64 (lo + wd - 1)) ∧ Kp w w' := by
  obtain ⟨h1, h2, h3⟩ := h
  go_enter Tryd.func51, Tryd.ntmps51
  go_wp2
  go_ret
  exact ⟨rfl, kpA _ _ _⟩
theorem cv_u64 (v : Int) : ∃ x : BitVec 64, (IntKind.u64.wrap v) = (x.toNat : Int) ∧ (x.toNat : Int) = v % 18446744073709551616 := by
  have e : IntKind.u64.wrap v = v % 18446744073709551616 := IntKind.wrap_u64 v
  rw [e]
  exact ⟨BitVec.ofNat 64 (v % 18446744073709551616).toNat, by rw [BitVec.toNat_ofNat]; omega, by rw [BitVec.toNat_ofNat]; omega⟩
theorem cv_w64 (W : Nat) (h : W < 4294967296) : ∃ x : BitVec 64, (W : Int) = (x.toNat : Int) ∧ x.toNat = W := 
  ⟨BitVec.ofNat 64 W, by rw [BitVec.toNat_ofNat]; omega, by rw [BitVec.toNat_ofNat]; omega⟩
def PartAt (w w' : World) (lo wd : Int) (sg : Bool) : Prop := w'.cell? ⟨w.heap.size, 0, none⟩ = some (.int .i64 lo) ∧ w'.cell? ⟨w.heap.size, 1, none⟩ = some (.int .i64 wd) ∧ w'.cell? ⟨w.heap.size, 2, none⟩ = some (.bool sg) ∧ w.heap.size < w'.heap.size ∧ Kp w w'
theorem PartAt.kp {w w1 w2 : World} {lo wd : Int} {sg : Bool} (h : PartAt w w1 lo wd sg) (g : Kp w1 w2) : PartAt w w2 lo wd sg := by
  obtain ⟨h0, h1, h2, h6, h7⟩ := h
  exact ⟨(g.cell h6).trans h0, (g.cell h6).trans h1, (g.cell h6).trans h2, Nat.lt_of_lt_of_le h6 g.size, h7.trans g⟩
theorem PartAt.drew {w w1 : World} {lo wd : Int} {sg : Bool} (h : PartAt w w1 lo wd sg) : PartAt w w1.drew lo wd sg := h.kp (Kp.refl _).drew
theorem partAt_new (w : World) (lo wd : Int) (sg : Bool) : PartAt w (w.alloc (.cells #[.int .i64 lo, .int .i64 wd, .bool sg] 60)) lo wd sg := by
  have b := Blk.new w #[.int .i64 lo, .int .i64 wd, .bool sg] 60
  exact ⟨b.cell 0, b.cell 1, b.cell 2, b.lt, kpA _ _ _⟩
theorem put_zero (lo : Nat) (sg : Bool) (W : Nat) (v : Int) (w : World) (hW : W < 4294967296) (hlo : lo < 32) :
    Calls Tryd.prog 37 #[.agg #[.int .i64 lo, .int .i64 0, .bool sg], .int .u32 W, .int .i64 v] w fun e w' => e = .returned (.int .u32 W) ∧ Kp w w' := by
  have HB : Hid (0 ≤ (lo : Int) ∧ 0 ≤ (0 : Int) ∧ (lo : Int) + 0 ≤ 32) := Lib.hid (by omega)
  have HN : Hid ((lo : Int) < 0 ∨ (lo : Int) + 0 - 1 < lo ∨ 63 < (lo : Int) + 0 - 1) := Lib.hid (by omega)
  go_enter Tryd.func37, Tryd.ntmps37
  go_wp2_with fail
  refine (get_no _ _ _ _ (.inr (.inl (by decide)))).mono ?_; rintro e w1 ⟨rfl, hg⟩
  have H1 := Lib.hid hg; clear hg
  have hS : PartAt w w1 lo 0 sg := (partAt_new w lo 0 sg).kp H1.out
  have HS := Lib.hid hS
  obtain ⟨z0, z1, z2, -⟩ := hS
  go_wp2_with fail
  go_region_held3 (fun w' => w'.cell? ⟨w.heap.size, 0, none⟩ = some (.int .i64 lo) ∧ w'.cell? ⟨w.heap.size, 1, none⟩ = some (.int .i64 0) ∧ w'.cell? ⟨w.heap.size, 2, none⟩ = some (.bool sg) ∧ w.heap.size < w'.heap.size ∧ Kp w w')
      (first | exact HS.out.drew | assumption | exact PartAt.drew (by assumption))
      (first | (go_at_call 51; rename_i hh _ _; refine (hi_any _ _ _ _ HB.out).mono ?_; rintro e w' ⟨rfl, hg⟩; have hh' := PartAt.kp hh hg; clear hh hg) | (go_at_call 50; rename_i hh _ _; refine (put_no _ _ _ _ _ HN.out).mono ?_; rintro e w' ⟨rfl, hg⟩; have hh' := PartAt.kp hh hg; clear hh hg))
  rename_i hh
  have HH := Lib.hid hh; clear hh
  go_wp2
  go_ret
  exact ⟨rfl, HH.out.2.2.2.2⟩
theorem put_pos (lo wd : Nat) (sg : Bool) (W : Nat) (v : Int) (w : World) (hW : W < 4294967296) (hp : 0 < wd) (hlo : lo + wd ≤ 32) :
    Calls Tryd.prog 37 #[.agg #[.int .i64 lo, .int .i64 wd, .bool sg], .int .u32 W, .int .i64 v] w fun e w' => e = .returned (.int .u32 (putN W lo wd v)) ∧ Kp w w' := by
  obtain ⟨y, ey, ny⟩ := cv_u64 v
  obtain ⟨x, ex, nx⟩ := cv_w64 W hW
  obtain ⟨n, rfl⟩ : ∃ n, wd = n + 1 := ⟨wd - 1, by omega⟩
  have HP : Hid (putN W lo (n + 1) v = (putB x (getB y n 0) (lo + n) lo).toNat ∧ (putB x (getB y n 0) (lo + n) lo).toNat < 4294967296) := Lib.hid (put_is W lo n v x y hW hlo nx ny)
  have HB : Hid (0 ≤ (lo : Int) ∧ 0 ≤ ((n + 1 : Nat) : Int) ∧ (lo : Int) + ((n + 1 : Nat) : Int) ≤ 32) := Lib.hid (by omega)
  have HF : Hid ((getB y n 0).toNat ≤ (mask (lo + n - lo + 1)).toNat) := Lib.hid (by rw [show lo + n - lo + 1 = n - 0 + 1 by omega]; exact get_fits y n 0 (by omega) (by omega))
  have HL' : Hid (lo + n + 1 ≤ 32) := Lib.hid (by omega)
  have HL : Hid (lo ≤ lo + n ∧ lo + n ≤ 63 ∧ n ≤ 63) := Lib.hid (by omega)
  have e1 : ((n + 1 : Nat) : Int) - 1 = (n : Int) := by omega
  have e2 : (lo : Int) + ((n + 1 : Nat) : Int) - 1 = ((lo + n : Nat) : Int) := by omega
  have e3 : IntKind.u64.wrap (W : Int) = (x.toNat : Int) := by rw [show IntKind.u64.wrap (W : Int) = (W : Int) % 18446744073709551616 from IntKind.wrap_u64 _]; omega
  clear nx ny ex hp hlo hW
  have e4 : 0 < ((n + 1 : Nat) : Int) ∧ ((n + 1 : Nat) : Int) ≤ 32 := by have := HL'.out; omega
  generalize hNs : ((n + 1 : Nat) : Int) = N at e1 e2 e4 HB HP ⊢
  obtain ⟨e4, e5⟩ := e4
  go_enter Tryd.func37, Tryd.ntmps37
  go_wp2_with fail
  refine ((show Calls Tryd.prog 49 #[.int .u64 y.toNat, .int .i64 n, .int .i64 (0 : Nat)] _ _ from get_yes y n 0 _ (Nat.zero_le _) HL.out.2.2)).mono ?_; rintro e w1 ⟨rfl, hg⟩
  have H1 := Lib.hid hg; clear hg
  have hS : PartAt w w1 lo N sg := (partAt_new w lo N sg).kp H1.out
  have HS := Lib.hid hS
  obtain ⟨z0, z1, z2, -⟩ := hS
  go_wp2_with fail
  go_region_held3 (fun w' => w'.cell? ⟨w.heap.size, 0, none⟩ = some (.int .i64 lo) ∧ w'.cell? ⟨w.heap.size, 1, none⟩ = some (.int .i64 N) ∧ w'.cell? ⟨w.heap.size, 2, none⟩ = some (.bool sg) ∧ w.heap.size < w'.heap.size ∧ Kp w w')
      (first | exact HS.out.drew | assumption | exact PartAt.drew (by assumption))
      (first | (go_at_call 51; rename_i hh _ _; refine (hi_any _ _ _ _ HB.out).mono ?_; rintro e w' ⟨rfl, hg⟩; have hh' := PartAt.kp hh hg; clear hh hg) | (go_at_call 50; rename_i hh _ _; refine (put_yes _ _ _ _ _ HL.out.1 HL.out.2.1 HF.out).mono ?_; rintro e w' ⟨rfl, hg⟩; have hh' := PartAt.kp hh hg; clear hh hg))
  rename_i hh
  have HH := Lib.hid hh; clear hh
  go_wp2
  go_ret
  exact ⟨ret_int (by rw [HP.out.1]; have := HP.out.2; omega), HH.out.2.2.2.2⟩
theorem put_any (lo wd : Nat) (sg : Bool) (W : Nat) (v : Int) (w : World) (hW : W < 4294967296) (hlo : lo + wd ≤ 32) (h3 : lo < 32) :
    Calls Tryd.prog 37 #[.agg #[.int .i64 lo, .int .i64 wd, .bool sg], .int .u32 W, .int .i64 v] w fun e w' => e = .returned (.int .u32 (putN W lo wd v)) ∧ Kp w w' := by
  by_cases h : wd = 0
  · subst h
    rw [show putN W lo 0 v = W from if_pos rfl]
    exact put_zero lo sg W v w hW h3
  · exact put_pos lo wd sg W v w hW (by omega) hlo
end Go.Proofs.YtfbkppncaampdaaDoor
