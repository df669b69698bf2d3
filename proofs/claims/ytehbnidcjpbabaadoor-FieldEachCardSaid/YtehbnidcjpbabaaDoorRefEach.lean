/-
  The document's own answer for Each: the row of places, made by appending. No condition.
-/
import Derived.Test.YtehbnidcjpbabaaDoorRows
import Derived.Test.YtehbnidcjpbabaaDoorLow
import Derived.Test.YtehbnidcjpbabaaDoorRefBit
import Derived.Maps.AppendAt
namespace Go.Proofs.YtehbnidcjpbabaaDoor
open Go Go.RowKit

theorem int_info : (Tryd.prog.info? 3).map (fun i => (i.zero, i.size, i.bytes)) = some (some (.int .i64 0), 1, 8) := by kernel_rfl
def encs (l : List Nat) : List Value := l.map fun t => Value.int .i64 (t : Nat)
theorem encs_snoc (l : List Nat) (t : Nat) : encs (l ++ [t]) = encs l ++ [.int .i64 (t : Nat)] := by simp [encs]
theorem own_from {w : World} {base : Nat} {e : TypeId} {size n : Nat} {v : Value} {xs : List Value} (h : w.ownsRow base e size v n xs) : ∀ k, v.ownBlock = some k → base ≤ k := by
  intro k hk
  rcases h.2 with ⟨rfl, _⟩ | ⟨g, cap, cur, rfl, hb, _⟩
  · cases hk
  · simp [Value.ownBlock] at hk
    omega
set_option maxHeartbeats 1000000 in
theorem reach_any (x : BitVec 64) (w : World) :
    Calls Tryd.prog 4 #[.int .u64 x.toNat] w fun e w' => ∃ v, e = .returned v ∧ w'.ownsRow w.heap.size 3 1 v (places x).length (encs (places x)) ∧ Below w.heap.size w w' := by
  obtain ⟨i0, hi, hz0, hz1, hz2⟩ := info_parts int_info
  go_enter Tryd.func4, Tryd.ntmps4
  go_wp2
  go_loopw [3, 4] (fun v i wr => ∃ k : Nat, k ≤ 64 ∧ i = .int .i64 k ∧ wr.ownsRow w.heap.size 3 1 v (upto x k).length (encs (upto x k)) ∧ Below w.heap.size w wr) (fun _ i _ => 64 - (intOf i).toNat)
  case atStart => exact ⟨0, by omega, rfl, World.ownsRow_nil _ _ _ _, Below.refl _ _⟩
  case round =>
    obtain ⟨k, hk, rfl, hown, hb⟩ := hrel
    by_cases hlt : k ≤ 63
    · by_cases hbit : x.getLsbD k
      · have hz : bitB x k = 1#64 := by rw [bitB_eq, if_pos hbit]
        have hup := upto_next x k k (Nat.le_refl _) hbit (fun j a b => by omega)
        have hlen := upto_length x k
        have HU := Lib.hid hup
        clear hup hbit
        go_wp2_with fail
        refine (bit_any x k _ (by omega)).mono ?_; rintro e w' ⟨rfl, rfl⟩
        go_wp2_with (at_builtin; refine wpList_append_own _ rfl _ _ 23 rfl w.heap.size 3 i0 (.int .i64 0) 1 8 Tryd.underlying23 hi hz0 hz1 hz2 rfl (by decide) _ _ _ rfl (hown.alloc _) ⟨w'.heap.size, 0, none⟩ 1 1 [.int .i64 (k : Nat)] rfl rfl (cell_one_new _ _ _) (by simp [Value.oneCell']) (by unfold maxLen; omega) (by omega) (by have := hb.size; simp; omega) ?_)
        intro v' w1 hown' hgrow _
        have hb1 : Below w.heap.size w w1 := (hb.alloc hb.size _).grown hgrow (by have := hb.size; simp; omega) (own_from hown)
        have hown1 : w1.ownsRow w.heap.size 3 1 v' (upto x (k + 1)).length (encs (upto x (k + 1))) := by
          rw [HU.out, encs_snoc, List.length_append]; exact hown'
        clear hown hgrow hown' hb
        go_wp2
        go_roundw
        case rel => exact ⟨k + 1, by omega, by go_num, hown1, hb1⟩
        case measure => simp [intOf]; omega
      · have hz : bitB x k = 0#64 := by rw [bitB_eq, if_neg hbit]
        have hup := upto_skip x k (k + 1) (by omega) (fun j a b => by obtain rfl : j = k := by omega
                                                                      simpa using hbit)
        have HU := Lib.hid hup
        clear hup hbit
        go_wp2_with fail
        refine (bit_any x k _ (by omega)).mono ?_; rintro e w' ⟨rfl, rfl⟩
        go_wp2
        go_roundw
        case rel => exact ⟨k + 1, by omega, by go_num, by rw [HU.out]; exact hown, hb⟩
        case measure => simp [intOf]; omega
    · obtain rfl : k = 64 := by omega
      go_wp2
      go_ret
      exact ⟨_, rfl, hown, hb⟩
end Go.Proofs.YtehbnidcjpbabaaDoor
