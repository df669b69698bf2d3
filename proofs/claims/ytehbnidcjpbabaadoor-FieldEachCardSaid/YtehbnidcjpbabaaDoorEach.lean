/-
  package field's Each, as it goes over the places of the bits that are 1: a contract for whatever body the rounds have. Condition: the library's table math/bits.deBruijn64tab holds what its initialiser lays.
-/
import Derived.Test.YtehbnidcjpbabaaDoorRows
import Derived.Test.YtehbnidcjpbabaaDoorLow
import Derived.RangeFuncNested
import Derived.RangeFuncBound
import Derived.RangeFuncCalls
import Derived.RangeFuncLeaves
import Derived.Shelf.Abstract
import Derived.OwnWalkIn
import Derived.TacticsInMore
import Derived.LoopNIn
import Derived.LoopIn
namespace Go.Proofs.YtehbnidcjpbabaaDoor
open Go Go.RowKit Go.Shelf
attribute [local go_sem] Oper.semAt_some

def tab : List Nat := [0, 1, 56, 2, 57, 49, 28, 3, 61, 58, 42, 50, 38, 29, 17, 4, 62, 47, 59, 36, 45, 43, 51, 22, 53, 39, 33, 30, 24, 18, 12, 5, 63, 55, 48, 27, 60, 41, 37, 16, 46, 35, 44, 21, 52, 32, 23, 11, 54, 26, 40, 15, 34, 20, 31, 10, 25, 14, 19, 9, 13, 8, 7, 6]
/-- The library's table lies as its initialiser lays it. -/
def TabOk (w : World) : Prop := ∀ i : Nat, i < 64 → w.cell? ⟨0, i, none⟩ = some (.int .u8 (tab.getD i 0 : Nat))
theorem tab_low : ∀ t : Fin 64, tab.getD (2 ^ t.val * 285870213051353865 % 18446744073709551616 / 288230376151711744) 0 = t.val := by decide
theorem idx_lt (t : Nat) : 2 ^ t * 285870213051353865 % 18446744073709551616 / 288230376151711744 < 64 := by omega

theorem neg_num (x : BitVec 64) : IntKind.u64.wrap (-(x.toNat : Int)) = ((-x).toNat : Int) := by
  rw [IntKind.wrap_u64, BitVec.toNat_neg]
  have := x.isLt
  omega
theorem low_num (x : BitVec 64) (t : Nat) (h64 : t < 64) (ht : x.getLsbD t = true) (hl : ∀ j, j < t → x.getLsbD j = false) :
    bits BinOp.and IntKind.u64 (x.toNat : Int) (IntKind.u64.wrap (-(x.toNat : Int))) = (2 : Int) ^ t := by
  rw [neg_num, bv_and, low_word x t h64 ht hl, BitVec.toNat_ofNat, Nat.mod_eq_of_lt (Nat.pow_lt_pow_right (by decide) h64)]
  simp
theorem idx_num (t : Nat) : IntKind.u64.wrap ((2 : Int) ^ t * 285870213051353865) / 288230376151711744 = ((2 ^ t * 285870213051353865 % 18446744073709551616 / 288230376151711744 : Nat) : Int) := by
  rw [IntKind.wrap_u64]
  simp
theorem word_ne {x : BitVec 64} {t : Nat} (ht : x.getLsbD t = true) : ((x.toNat : Int) == 0) = false := by
  rw [beq_eq_false_iff_ne]
  intro h
  have : x = 0#64 := BitVec.eq_of_toNat_eq (by exact_mod_cast h)
  subst this
  simp at ht
theorem tab_at (t : Nat) (h : t < 64) : tab.getD (2 ^ t * 285870213051353865 % 18446744073709551616 / 288230376151711744) 0 = t := tab_low ⟨t, h⟩
theorem tab_idx (t : Nat) (h : t < 64) : ∃ k : Nat, k < 64 ∧ IntKind.u64.wrap ((2 : Int) ^ t * 285870213051353865) / 288230376151711744 = (k : Int) ∧ tab.getD k 0 = t :=
  ⟨_, idx_lt t, idx_num t, tab_at t h⟩
theorem trail_any (x : BitVec 64) (t : Nat) (w : World) (h64 : t < 64) (ht : x.getLsbD t = true) (hl : ∀ j, j < t → x.getLsbD j = false) (hT : TabOk w) :
    Calls Tryd.prog 12 #[.int .u64 x.toNat] w fun e w' => e = .returned (.int .i64 t) ∧ w' = w := by
  have hne := word_ne ht
  have hm := low_num x t h64 ht hl
  obtain ⟨k, hk, hi, htab⟩ := tab_idx t h64
  have hc := hT k hk
  rw [htab] at hc
  clear hT ht hl htab
  go_enter Tryd.func12, Tryd.ntmps12
  go_wp2
  go_ret
  exact ⟨rfl, rfl⟩

/-! Each itself: 'left' loses its lowest bit round by round -/
def rest (x : BitVec 64) (p : Nat) : BitVec 64 := x &&& ~~~(mask p)
theorem rest_bit (x : BitVec 64) (p i : Nat) (hp : p ≤ 64) (hi : i < 64) : (rest x p).getLsbD i = (x.getLsbD i && decide (p ≤ i)) := by
  unfold rest
  rw [BitVec.getLsbD_and, BitVec.getLsbD_not, mask_bit p i hp]
  by_cases c : i < p
  · simp [c, show ¬ p ≤ i by omega]
  · simp [c, hi, show p ≤ i by omega]
theorem rest_0 (x : BitVec 64) : rest x 0 = x := by
  apply BitVec.eq_of_getLsbD_eq
  intro i hi
  rw [rest_bit x 0 i (by omega) hi]; simp
theorem rest_next (x : BitVec 64) (p t : Nat) (hp : p ≤ 64) (h64 : t < 64) (ht : (rest x p).getLsbD t = true) (hl : ∀ j, j < t → (rest x p).getLsbD j = false) :
    rest x p &&& (rest x p - 1#64) = rest x (t + 1) := by
  apply BitVec.eq_of_getLsbD_eq
  intro i hi
  rw [less_word (rest x p) t i hi ht hl, rest_bit x p i hp hi, rest_bit x (t + 1) i (by omega) hi]
  rw [rest_bit x p t hp h64] at ht
  have hpt : p ≤ t := by simp at ht; exact ht.2
  by_cases c : t < i
  · simp [c, show p ≤ i by omega, show t + 1 ≤ i by omega]
  · simp [c, show ¬ t + 1 ≤ i by omega]
theorem rest_places (x : BitVec 64) (p t : Nat) (hp : p ≤ 64) (h64 : t < 64) (ht : (rest x p).getLsbD t = true) (hl : ∀ j, j < t → (rest x p).getLsbD j = false) :
    p ≤ t ∧ upto x (t + 1) = upto x p ++ [t] := by
  rw [rest_bit x p t hp h64] at ht
  have hpt : x.getLsbD t = true ∧ p ≤ t := by simpa using ht
  refine ⟨hpt.2, upto_next x p t hpt.2 hpt.1 fun j a b => ?_⟩
  have := hl j b
  rw [rest_bit x p j hp (by omega)] at this
  simpa [a] using this
theorem rest_none (x : BitVec 64) (p : Nat) (hp : p ≤ 64) (h : rest x p = 0#64) : places x = upto x p := by
  refine upto_skip x p 64 hp fun j a b => ?_
  have := congrArg (fun z : BitVec 64 => z.getLsbD j) h
  simp only [rest_bit x p j hp b] at this
  simpa [a] using this
theorem less_lt (x : BitVec 64) (h : 0 < x.toNat) : (x &&& (x - 1#64)).toNat < x.toNat := by
  have e : (x - 1#64).toNat = x.toNat - 1 := by
    rw [BitVec.toNat_sub]
    have := x.isLt
    simp
    omega
  rw [BitVec.toNat_and]
  have := Nat.and_le_right (n := x.toNat) (m := (x - 1#64).toNat)
  omega
theorem less_num (x : BitVec 64) (h : 0 < x.toNat) : bits BinOp.and IntKind.u64 (x.toNat : Int) ((x.toNat : Int) - 1) = ((x &&& (x - 1#64)).toNat : Int) := by
  have e : ((x.toNat : Int) - 1) = ((x - 1#64).toNat : Int) := by
    rw [BitVec.toNat_sub]
    have := x.isLt
    simp
    omega
  rw [e, bv_and]

set_option maxRecDepth 100000 in
set_option maxHeartbeats 1000000 in
theorem each_in (x : BitVec 64) (l : Nat) (J Jx : List Nat → World → Prop) (W : World) (hT : ∀ pre W1, J pre W1 → TabOk W1)
    (hY : ∀ pre t W1, J pre W1 → pre ++ [t] <+: places x → YieldAt Fence.wide 0 Tryd.prog l #[.int .i64 (t : Nat)] W1 fun e W' => (e = .returned (.bool true) ∧ J (pre ++ [t]) W') ∨ (e = .returned (.bool false) ∧ Jx (pre ++ [t]) W'))
    (h0 : J [] W) :
    CallsIn Fence.wide 0 Tryd.prog 8 #[.int .u64 x.toNat, .func (.yield l) #[] #[]] W fun e W' => (∃ v, e = .returned v) ∧ (J (places x) W' ∨ ∃ pre, pre <+: places x ∧ Jx pre W') := by
  refine callsIn_of_wp Tryd.func8 rfl trivial ?_ rfl
  simp only [Tryd.ntmps8, List.size_toArray, List.length_cons, List.length_nil, Nat.reduceAdd, Nat.reduceSub, Array.replicate_succ, Array.replicate_zero, List.push_toArray, List.append_toArray, List.nil_append, List.cons_append]
  gi_wp2
  gi_loopw [4] (fun v wr => ∃ p : Nat, p ≤ 64 ∧ v = .int .u64 (rest x p).toNat ∧ J (upto x p) wr) (fun v _ => (intOf v).toNat)
  case atStart => exact ⟨0, by omega, by rw [rest_0], h0⟩
  case round =>
    obtain ⟨p, hp, rfl, hJ⟩ := hrel
    by_cases hz : rest x p = 0#64
    · have hpl := rest_none x p hp hz
      have HP := Lib.hid hpl
      have e0 : (((rest x p).toNat : Nat) : Int) = 0 := by rw [hz]; rfl
      clear hpl hz
      rw [e0]
      gi_wp2
      go_end0
      exact ⟨⟨_, rfl⟩, .inl (by rw [HP.out]; exact hJ)⟩
    · obtain ⟨t, h64, ht, hl⟩ := low_of _ hz
      obtain ⟨hpt, hup⟩ := rest_places x p t hp h64 ht hl
      have hne := word_ne ht
      have hpos : 0 < (rest x p).toNat := by
        apply Nat.pos_of_ne_zero
        intro e
        exact hz (BitVec.eq_of_toNat_eq e)
      have hnum := less_num (rest x p) hpos
      rw [rest_next x p t hp h64 ht hl] at hnum
      have HN := Lib.hid hnum
      have hpre : upto x p ++ [t] <+: places x := by rw [← hup]; exact upto_prefix x (t + 1) 64 (by omega)
      have HC := Lib.hid (trail_any (rest x p) t wr h64 ht hl (hT _ _ hJ))
      obtain ⟨fn, tmps, assign, body, hy, hR⟩ := hY (upto x p) t wr hJ hpre
      have HR := Lib.hid hR
      have HU := Lib.hid hup
      have HPR := Lib.hid hpre
      have HJ := Lib.hid hJ
      have HM : Hid ((rest x (t + 1)).toNat < (rest x p).toNat) := Lib.hid (by
        rw [← rest_next x p t hp h64 ht hl]; exact less_lt _ hpos)
      clear hz hl hup hnum hpre hR hJ ht hY hT h0
      gi_wp2_with fail
      refine ⟨trivial, rfl, (callsIn_wide.2 HC.out).mono ?_⟩
      rintro e w' ⟨rfl, rfl⟩
      gi_wp2_with fail
      refine ⟨rfl, HR.out.mono ?_⟩
      rintro e W3 (⟨rfl, hJ3⟩ | ⟨rfl, hJx3⟩)
      · have HJ3 := Lib.hid hJ3; clear hJ3
        gi_wp2
        go_roundw
        case rel => exact ⟨t + 1, by omega, by rw [HN.out], by rw [HU.out]; exact HJ3.out⟩
        case measure => rw [HN.out]; simp only [intOf]; have := HM.out; omega
      · have HJ3 := Lib.hid hJx3; clear hJx3
        gi_wp2
        refine bodyPost_ret (results_none rfl _ _ _) rfl ?_
        exact ⟨⟨_, rfl⟩, .inr ⟨_, HPR.out, HJ3.out⟩⟩
end Go.Proofs.YtehbnidcjpbabaaDoor
