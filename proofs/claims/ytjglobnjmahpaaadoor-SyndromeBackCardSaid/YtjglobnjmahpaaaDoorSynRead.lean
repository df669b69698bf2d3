/-
  The contracts of package syndrome's classOf, faultOf and read, for any words, where the table holds what the program's text lays. No condition.
-/
import Derived.Test.YtjglobnjmahpaaaDoorDecMath
namespace Go.Proofs.YtjglobnjmahpaaaDoor
open Go Go.RowKit

/-! What they come to. -/
def rCls (b : Nat) : Int := if b = 63 then 0 else if b = 21 then 1 else if b = 36 then 2 else if b = 0 then 3 else if b = 62 then 4 else 0
def rIs (b : Nat) : Bool := decide (b = 63 ∨ b = 21 ∨ b = 36 ∨ b = 0 ∨ b = 62)
def rFlt (b : Nat) : Int := if 4 ≤ b ∧ b ≤ 7 then 1 else if b = 15 then 2 else if b = 33 then 3 else 0
def rLev (b : Nat) : Int := if 4 ≤ b ∧ b ≤ 7 then (b : Int) - 4 else if b = 15 then 3 else 0
theorem cls_at (k : Nat) (hk : k < 5) (w : World) :
    (Instr.index 46 (.agg #[.int .u64 63, .int .u64 21, .int .u64 36, .int .u64 0, .int .u64 62]) (.int .i64 k)).run Tryd.prog w = .ok (.int .u64 (clsN k)) w := by
  refine index_one Tryd.underlying46 Tryd.underlying23 rfl (by kernel_rfl) _ k rfl hk ?_ w
  obtain rfl | rfl | rfl | rfl | rfl : k = 0 ∨ k = 1 ∨ k = 2 ∨ k = 3 ∨ k = 4 := by omega
  all_goals rfl
theorem cls_hit {b k : Nat} (hk : k < 5) (h : clsN k = b) : rCls b = (k : Int) ∧ rIs b = true := by
  subst h
  obtain rfl | rfl | rfl | rfl | rfl : k = 0 ∨ k = 1 ∨ k = 2 ∨ k = 3 ∨ k = 4 := by omega
  all_goals exact ⟨rfl, rfl⟩
theorem cls_miss {b : Nat} (h : ∀ i, i < 5 → clsN i ≠ b) : rCls b = 0 ∧ rIs b = false := by
  have h0 : 63 ≠ b := h 0 (by decide)
  have h1 : 21 ≠ b := h 1 (by decide)
  have h2 : 36 ≠ b := h 2 (by decide)
  have h3 : 0 ≠ b := h 3 (by decide)
  have h4 : 62 ≠ b := h 4 (by decide)
  unfold rCls rIs
  refine ⟨?_, by simp; omega⟩
  rw [if_neg (Ne.symm h0), if_neg (Ne.symm h1), if_neg (Ne.symm h2), if_neg (Ne.symm h3), if_neg (Ne.symm h4)]
theorem ret_cls {a a' : Int} {b b' : Bool} (h : a = a' ∧ b = b') : Ending.returned (.tuple #[.int .i8 a', .bool b']) = .returned (.tuple #[.int .i8 a, .bool b]) := by rw [h.1, h.2]
theorem classOf_any (b : Nat) (w : World) (hT : TabsOk w) :
    Calls Tryd.prog 29 #[.int .u64 b] w fun e w' => e = .returned (.tuple #[.int .i8 (rCls b), .bool (rIs b)]) ∧ w = w' := by
  have k0 := hT.at 0 _ rfl
  have k1 := hT.at 1 _ rfl
  have k2 := hT.at 2 _ rfl
  have k3 := hT.at 3 _ rfl
  have k4 := hT.at 4 _ rfl
  go_enter Tryd.func29, Tryd.ntmps29
  go_wp2
  clear k0 k1 k2 k3 k4
  go_loop [7] (fun i => ∃ k : Nat, k ≤ 5 ∧ i = .int .i64 k ∧ Hid (∀ i, i < k → clsN i ≠ b)) (fun i => 5 - (intOf i).toNat)
  case atStart => exact ⟨0, by omega, rfl, Lib.hid fun i hi => by omega⟩
  case round =>
    obtain ⟨k, hk, rfl, hn⟩ := hrel
    by_cases h5 : k = 5
    · subst h5
      have HD := Lib.hid (cls_miss hn.out)
      clear hk hn
      go_wp2_with fail
      go_ret2
      exact ⟨ret_cls HD.out, rfl⟩
    · have hk' : k < 5 := by omega
      have ix := cls_at k hk' w
      have i0 : (0 : Int) ≤ (k : Int) := by omega
      have i1 : (k : Int) < 5 := by omega
      have HI := Lib.hid hk'
      by_cases hb : clsN k = b
      · have HD := Lib.hid (cls_hit hk' hb)
        rw [hb] at ix
        clear hk h5 hk' hb hn
        go_wp2_with fail
        go_ret2
        exact ⟨ret_cls HD.out, rfl⟩
      · have HN : Hid (∀ i, i < k + 1 → clsN i ≠ b) := Lib.hid (by
          intro i hi
          rcases Nat.lt_or_ge i k with g | g
          · exact hn.out i g
          · obtain rfl : i = k := by omega
            exact hb)
        have hb' : ((clsN k : Int) == (b : Int)) = false := by simp; omega
        clear hk h5 hk' hb hn
        go_wp2_with fail
        go_round
        case rel => exact ⟨k + 1, by have := HI.out; omega, by go_num, HN⟩
        case measure => have := HI.out; simp [intOf]; omega
theorem ret_flt {a a' b b' : Int} (h : a = a' ∧ b = b') : Ending.returned (.tuple #[.int .i8 a', .int .i8 b']) = .returned (.tuple #[.int .i8 a, .int .i8 b]) := by rw [h.1, h.2]
theorem faultOf_any (b : Nat) (w : World) :
    Calls Tryd.prog 31 #[.int .u64 b] w fun e w' => e = .returned (.tuple #[.int .i8 (rFlt b), .int .i8 (rLev b)]) ∧ w = w' := by
  obtain ⟨X, hX⟩ : ∃ X : Int, X = (b : Int) := ⟨_, rfl⟩
  rw [← hX]
  by_cases h : 4 ≤ b ∧ b ≤ 7
  · have HD : Hid (rFlt b = 1 ∧ rLev b = X - 4) := Lib.hid ⟨if_pos h, by rw [hX]; exact if_pos h⟩
    have i0 : 4 ≤ X := by omega
    have i1 : X ≤ 7 := by omega
    clear h hX
    go_enter Tryd.func31, Tryd.ntmps31
    go_wp2_with fail
    go_ret2
    exact ⟨ret_flt HD.out, rfl⟩
  · by_cases h2 : b = 15
    · subst h2
      have e : X = 15 := hX
      subst e
      clear h hX
      go_enter Tryd.func31, Tryd.ntmps31
      go_wp2_with fail
      go_ret2
      exact ⟨rfl, rfl⟩
    · by_cases h3 : b = 33
      · subst h3
        have e : X = 33 := hX
        subst e
        clear h h2 hX
        go_enter Tryd.func31, Tryd.ntmps31
        go_wp2_with fail
        go_ret2
        exact ⟨rfl, rfl⟩
      · have HD : Hid (rFlt b = 0 ∧ rLev b = 0) := Lib.hid ⟨by unfold rFlt; rw [if_neg h, if_neg h2, if_neg h3], by unfold rLev; rw [if_neg h, if_neg h2]⟩
        have e2 : (X == 15) = false := by simp; omega
        have e3 : (X == 33) = false := by simp; omega
        by_cases g : 4 ≤ b
        · have i0 : 4 ≤ X := by omega
          have i1 : 7 < X := by omega
          clear h h2 h3 g hX
          go_enter Tryd.func31, Tryd.ntmps31
          go_wp2_with fail
          go_ret2
          exact ⟨ret_flt HD.out, rfl⟩
        · have i0 : X < 4 := by omega
          clear h h2 h3 g hX
          go_enter Tryd.func31, Tryd.ntmps31
          go_wp2_with fail
          go_ret2
          exact ⟨ret_flt HD.out, rfl⟩
end Go.Proofs.YtjglobnjmahpaaaDoor
