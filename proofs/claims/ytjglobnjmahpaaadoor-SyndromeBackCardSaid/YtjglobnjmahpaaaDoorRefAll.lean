/-
  The document's list of all syndromes of an address. No condition.
-/
import Derived.Test.YtjglobnjmahpaaaDoorSynWord
import Derived.Maps.AppendAt
import Derived.Laws.OwnMore
import Derived.OwnWalk
namespace Go.Proofs.YtjglobnjmahpaaaDoor
open Go Go.RowKit

/-! The list. -/
abbrev Q4 := Int × Bool × Int × Int
def allQ : List Q4 := [(0, false, 0, 0), (1, false, 0, 0), (3, false, 0, 0), (4, false, 0, 0),
  (2, false, 1, 0), (2, false, 1, 1), (2, false, 1, 2), (2, false, 1, 3), (2, false, 2, 3), (2, false, 3, 0),
  (2, true, 1, 0), (2, true, 1, 1), (2, true, 1, 2), (2, true, 1, 3), (2, true, 2, 3), (2, true, 3, 0)]
def qVa (q : Q4) (va : Int) : Int := if q.1 = 2 then va else 0
def rowV (q : Q4) (va : Int) : List Value := [.int .i8 q.1, .bool q.2.1, .int .i8 q.2.2.1, .int .i8 q.2.2.2, .int .u64 (qVa q va)]
def cellsV (n : Nat) (va : Int) : List Value := (allQ.take n).flatMap (rowV · va)
theorem cells_trans (i k : Nat) (va : Int) (hi : i < 2) (hk : k < 4) : cellsV (4 + 6 * i + k + 1) va = cellsV (4 + 6 * i + k) va ++ [.int .i8 2, .bool ((i : Int) == 1), .int .i8 1, .int .i8 k, .int .u64 va] := by
  obtain rfl | rfl : i = 0 ∨ i = 1 := by omega
  all_goals
    obtain rfl | rfl | rfl | rfl : k = 0 ∨ k = 1 ∨ k = 2 ∨ k = 3 := by omega
    all_goals rfl
theorem cells_perm (i : Nat) (va : Int) (hi : i < 2) : cellsV (4 + 6 * i + 4 + 1) va = cellsV (4 + 6 * i + 4) va ++ [.int .i8 2, .bool ((i : Int) == 1), .int .i8 2, .int .i8 3, .int .u64 va] := by
  obtain rfl | rfl : i = 0 ∨ i = 1 := by omega
  all_goals rfl
theorem cells_align (i : Nat) (va : Int) (hi : i < 2) : cellsV (4 + 6 * i + 5 + 1) va = cellsV (4 + 6 * i + 5) va ++ [.int .i8 2, .bool ((i : Int) == 1), .int .i8 3, .int .i8 0, .int .u64 va] := by
  obtain rfl | rfl : i = 0 ∨ i = 1 := by omega
  all_goals rfl
theorem syn_info : (Tryd.prog.info? 25).map (fun i => (i.zero, i.size, i.bytes)) = some (some (.agg #[.int .i8 0, .bool false, .int .i8 0, .int .i8 0, .int .u64 0]), 5, 16) := by kernel_rfl

theorem maxl {n : Nat} (h : n ≤ 100) : n ≤ maxLen := by unfold maxLen; omega
theorem news_cells (W : World) (cs : Array Value) (t : TypeId) : ∀ j u, cs.toList[j]? = some u → (W.alloc (.cells cs t)).cell? ((⟨W.heap.size, 0, none⟩ : Addr).add j) = some u := by
  intro j u h
  have e : (⟨W.heap.size, 0, none⟩ : Addr).add j = ⟨W.heap.size, j, none⟩ := by unfold Addr.add; split <;> simp_all
  rw [e, (Blk.new W cs t).cell]
  simpa using h
theorem ints_one (st : Bool) (a b c d : Int) : ∀ u ∈ (#[.int .i8 a, .bool st, .int .i8 b, .int .i8 c, .int .u64 d] : Array Value).toList, u.oneCell' = true := by
  intro u hu
  simp at hu
  rcases hu with rfl | rfl | rfl | rfl | rfl <;> rfl
theorem fits {n : Nat} (h : n ≤ 50) : n + 1 ≤ maxLen ∧ (n + 1) * 16 ≤ 140737488355328 := ⟨maxl (by omega), by omega⟩
theorem own_next {w wr w1 : World} {o : Obj} {v v' : Value} {n m : Nat} {xs ys : List Value} (h : wr.ownsRow w.heap.size 25 5 v n xs) (hk : Kp w wr) (h1 : w1.ownsRow w.heap.size 25 5 v' m ys) (hg : (wr.alloc o).grownBy w1 v.ownBlock) :
    w1.ownsRow w.heap.size 25 5 v' m ys ∧ Kp w w1 :=
  ⟨h1, Kp.grown (Below.alloc hk hk.size o) hg fun k e => (h.lt k e).1⟩
set_option maxHeartbeats 2000000 in
theorem all_any (va : Int) (w : World) :
    Calls Tryd.prog 23 #[.int .u64 va] w fun e w' => ∃ v, e = .returned v ∧ w'.ownsRow w.heap.size 25 5 v 16 (cellsV 16 va) ∧ Kp w w' := by
  obtain ⟨i0, hi0, hz0, hz1, hz2⟩ := info_parts syn_info
  go_enter Tryd.func23, Tryd.ntmps23
  go_wp2
  go_loopw [3, 4] (fun l i wr => ∃ j : Nat, j ≤ 2 ∧ i = .int .i64 j ∧ wr.ownsRow w.heap.size 25 5 l (4 + 6 * j) (cellsV (4 + 6 * j) va) ∧ Kp w wr) (fun _ i _ => 2 - (intOf i).toNat)
  case atStart => exact ⟨0, by omega, rfl, World.ownsRow_lit (base := w.heap.size) (size := 5) w _ 4 (Nat.le_refl _) (by decide) rfl, kpA _ _ _⟩
  case round =>
    obtain ⟨j, hj, rfl, hown, hk⟩ := hrel
    by_cases h2 : j = 2
    · subst h2
      go_wp2_with fail
      go_ret
      exact ⟨_, rfl, hown, hk⟩
    · have hj2 : j < 2 := by omega
      have j0 : (0 : Int) ≤ (j : Int) := by omega
      have j1 : (j : Int) < 2 := by omega
      have HJ := Lib.hid hj2
      clear hj h2 hj2
      go_wp2_with fail
      obtain ⟨wo, rfl⟩ : ∃ wo : World, wo = wr := ⟨_, rfl⟩
      rename_i l0 _
      go_loopw [3, 5] (fun l x wr => ∃ k : Nat, k ≤ 4 ∧ x = .int .i64 k ∧ wr.ownsRow w.heap.size 25 5 l (4 + 6 * j + k) (cellsV (4 + 6 * j + k) va) ∧ Kp w wr) (fun _ x _ => 4 - (intOf x).toNat)
      case atStart => exact ⟨0, by omega, rfl, hown, hk⟩
      case round =>
        obtain ⟨k, hk4, rfl, hown, hk⟩ := hrel
        by_cases h4 : k = 4
        · subst h4
          have HQ := Lib.hid (cells_perm j va HJ.out)
          have HR := Lib.hid (cells_align j va HJ.out)
          have HM := Lib.hid (fits (n := 4 + 6 * j + 4) (by have := HJ.out; omega))
          have HM' := Lib.hid (fits (n := 4 + 6 * j + 4 + 1) (by have := HJ.out; omega))
          have HZ : Hid (w.heap.size ≤ (wr.alloc (.cells #[.int .i8 2, .bool ((j : Int) == 1), .int .i8 2, .int .i8 3, .int .u64 va] 25)).heap.size) := Lib.hid ((hk.alloc _ _).size)
          have HK := Lib.hid hk; clear hk
          have HO := Lib.hid hown; clear hown hk4
          have tok1 : True := trivial
          go_wp2_with (first | (at_builtin; have _t := tok1; refine wpList_append_own_at _ rfl (.tmp 28) (.tmp 33) _ rfl w.heap.size 25 i0 _ 5 16 Tryd.underlying44 hi0 hz0 hz1 hz2 rfl (by decide) _ _ _ rfl (HO.out.alloc _) ⟨wr.heap.size, 0, none⟩ 1 1 (#[.int .i8 2, .bool ((j : Int) == 1), .int .i8 2, .int .i8 3, .int .u64 va] : Array Value).toList rfl rfl (news_cells wr _ _) (ints_one _ _ _ _ _) HM.out.1 HM.out.2 HZ.out ?_; clear tok1; intro v' w1 hown1 hg1 hn1 hat1; have HA := Lib.hid (own_next HO.out HK.out (HQ.out ▸ hown1) hg1); clear hown1 hg1 hn1 hat1) | (at_builtin; refine wpList_append_own_at _ rfl (.tmp 35) (.tmp 40) _ rfl w.heap.size 25 i0 _ 5 16 Tryd.underlying44 hi0 hz0 hz1 hz2 rfl (by decide) _ _ _ rfl (HA.out.1.alloc _) ⟨w1.heap.size, 0, none⟩ 1 1 (#[.int .i8 2, .bool ((j : Int) == 1), .int .i8 3, .int .i8 0, .int .u64 va] : Array Value).toList rfl rfl (news_cells w1 _ _) (ints_one _ _ _ _ _) HM'.out.1 HM'.out.2 (HA.out.2.alloc _ _).size ?_; intro v'' w2 hown1 hg1 hn1 hat1; have HE := Lib.hid (own_next HA.out.1 HA.out.2 (HR.out ▸ hown1) hg1); clear hown1 hg1 hn1 hat1))
          go_roundw
          case rel => exact ⟨j + 1, by have := HJ.out; omega, by go_num, HE.out.1, HE.out.2⟩
          case measure => have := HJ.out; simp [intOf]; omega
        · have hk3 : k < 4 := by omega
          have k0 : (0 : Int) ≤ (k : Int) := by omega
          have k1 : (k : Int) < 4 := by omega
          have HK := Lib.hid hk3
          have HC := Lib.hid (cells_trans j k va HJ.out hk3)
          clear hk4 h4 hk3
          have HM := Lib.hid (fits (n := 4 + 6 * j + k) (by have := HJ.out; omega))
          have HZ : Hid (w.heap.size ≤ (wr.alloc (.cells #[.int .i8 2, .bool ((j : Int) == 1), .int .i8 1, .int .i8 k, .int .u64 va] 25)).heap.size) := Lib.hid ((hk.alloc _ _).size)
          have HK := Lib.hid hk; clear hk
          have HO := Lib.hid hown; clear hown
          go_wp2_with (at_builtin; refine wpList_append_own_at _ rfl (.tmp 19) (.tmp 26) _ rfl w.heap.size 25 i0 _ 5 16 Tryd.underlying44 hi0 hz0 hz1 hz2 rfl (by decide) _ _ _ rfl (HO.out.alloc _) ⟨wr.heap.size, 0, none⟩ 1 1 (#[.int .i8 2, .bool ((j : Int) == 1), .int .i8 1, .int .i8 k, .int .u64 va] : Array Value).toList rfl rfl (news_cells wr _ _) (ints_one _ _ _ _ _) HM.out.1 HM.out.2 HZ.out ?_; intro v' w1 hown1 hg1 hn1 hat1; have HA := Lib.hid (own_next HO.out HK.out (HC.out ▸ hown1) hg1); clear hown1 hg1 hn1 hat1)
          go_roundw
          case rel => exact ⟨k + 1, by omega, by go_num, HA.out.1, HA.out.2⟩
          case measure => simp [intOf]; omega
end Go.Proofs.YtjglobnjmahpaaaDoor
