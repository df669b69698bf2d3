/-
  Two rows of words held against each other. No condition.
-/
import Derived.Test.YtnjdglejcfdonaaRefWords08
namespace Go.Proofs.Ytnjdglejcfdonaa
open Go Go.RowKit

theorem pair_at (F : Nat → List Value) (hF : ∀ p, (F p).length = 2) : ∀ (l : List Nat) (p x : Nat), l[p]? = some x → (l.flatMap F)[p * 2]? = (F x)[0]? ∧ (l.flatMap F)[p * 2 + 1]? = (F x)[1]?
  | [], p, x, h => by simp at h
  | a :: l, 0, x, h => by
    simp at h
    subst h
    rw [List.flatMap_cons]
    have := hF a
    exact ⟨List.getElem?_append_left (by omega), List.getElem?_append_left (by omega)⟩
  | a :: l, p + 1, x, h => by
    have q := pair_at F hF l p x (by simpa using h)
    have hl := hF a
    rw [List.flatMap_cons, List.getElem?_append_right (by omega), List.getElem?_append_right (by omega), hl, show (p + 1) * 2 - 2 = p * 2 by omega, show (p + 1) * 2 + 1 - 2 = p * 2 + 1 by omega]
    exact q
theorem OwnsC.parts {w : World} {B : Nat} {v : Value} {U : Nat → Nat} {k : Nat} (h : OwnsC w B v U k) :
    (v = .slice none 0 0 ∧ cwl U k = []) ∨ ∃ g cap, v = .slice (some ⟨g, 0, none⟩) (cwl U k).length cap ∧ g < w.heap.size ∧ ∀ (p x : Nat), (cwl U k)[p]? = some x → w.cell? ⟨g, p * 2, none⟩ = some (.int .i64 x) ∧ w.cell? ⟨g, p * 2 + 1, none⟩ = some (.int .u64 (U x : Nat)) := by
  rcases h.2 with ⟨hv, hn⟩ | ⟨g, cap, cur, rfl, hb, hg, hn, hm, hs, ht⟩
  · exact .inl ⟨hv, List.eq_nil_of_length_eq_zero hn⟩
  · have hB : Blk w g cur 66 := hg
    refine .inr ⟨g, cap, rfl, hB.lt, fun p x hp => ?_⟩
    have hlt : p < (cwl U k).length := (List.getElem?_eq_some_iff.1 hp).1
    have q := pair_at (fun (p : Nat) => [.int .i64 (p : Int), .int .u64 (U p : Nat)]) (fun _ => rfl) _ p x hp
    have e : (cwl U k).flatMap (fun (p : Nat) => [Value.int .i64 (p : Int), .int .u64 (U p : Nat)]) = cwC U k := rfl
    rw [e, ← ht, List.getElem?_take, List.getElem?_take, if_pos (by omega), if_pos (by omega)] at q
    rw [hB.cell, hB.cell]
    exact ⟨by simpa using q.1, by simpa using q.2⟩
theorem OwnsC.kp {w w' : World} {B : Nat} {v : Value} {U : Nat → Nat} {k : Nat} (h : OwnsC w B v U k) (g : Kp w w') : OwnsC w' B v U k := by
  refine ⟨h.1, ?_⟩
  rcases h.2 with hn | ⟨g', cap, cur, e, hb, hg, r⟩
  · exact .inl hn
  · exact .inr ⟨g', cap, cur, e, hb, (Below.block g g' (lt_of_block hg)).trans hg, r⟩
theorem OwnsC.off {S : Nat → Prop} {w w' : World} {B : Nat} {v : Value} {U : Nat → Nat} {k : Nat} (h : OwnsC w B v U k) (g : Off S w w') (hS : ∀ i, S i → i < B) : OwnsC w' B v U k := by
  refine ⟨h.1, ?_⟩
  rcases h.2 with hn | ⟨g', cap, cur, e, hb, hg, r⟩
  · exact .inl hn
  · exact .inr ⟨g', cap, cur, e, hb, (g.block g' (lt_of_block hg) (fun q => by have := hS _ q; omega)).trans hg, r⟩
theorem same_nil (v v' : Value) (w : World) (hv : v = .slice none 0 0 ∨ ∃ g c, v = .slice (some ⟨g, 0, none⟩) 0 c) (hv' : v' = .slice none 0 0 ∨ ∃ g c, v' = .slice (some ⟨g, 0, none⟩) 0 c) :
    Calls Try.prog 13 #[v, v'] w fun e w' => e = .returned (.bool true) ∧ Kp w w' := by
  rcases hv with rfl | ⟨g, c, rfl⟩
  all_goals
    rcases hv' with rfl | ⟨g', c', rfl⟩
    all_goals
      go_enter Try.func13, Try.ntmps13
      go_wp2
      refine wp_loop_rounds 1 ?_
      rw [rounds_succ]
      go_wp2
      go_ret
      exact ⟨rfl, Kp.refl w⟩
set_option maxRecDepth 20000 in
theorem same_rows (v v' : Value) (w : World) (B B' k : Nat) (U : Nat → Nat) (h : OwnsC w B v U k) (h' : OwnsC w B' v' U k) (hk : k ≤ 512) :
    Calls Try.prog 13 #[v, v'] w fun e w' => e = .returned (.bool true) ∧ Kp w w' := by
  have p1 := h.parts
  have p2 := h'.parts
  have hl := Nat.le_trans (cwl_len U k) hk
  clear h h' hk
  cases hc : cwl U k with
  | nil =>
    rw [hc] at p1 p2
    exact same_nil v v' w (p1.imp (·.1) (fun ⟨g, c, e, _⟩ => ⟨g, c, e⟩)) (p2.imp (·.1) (fun ⟨g, c, e, _⟩ => ⟨g, c, e⟩))
  | cons a r =>
    rcases p1 with ⟨-, e⟩ | ⟨g, c, rfl, hg, hcell⟩
    · rw [e] at hc; cases hc
    rcases p2 with ⟨-, e⟩ | ⟨g', c', rfl, hg', hcell'⟩
    · rw [e] at hc; cases hc
    clear hc
    generalize cwl U k = l at hl hcell hcell'
    obtain ⟨N, hN⟩ : ∃ N, N = l.length := ⟨_, rfl⟩
    rw [← hN] at hl ⊢
    have hNI : (N : Int) ≤ 512 := by omega
    have HL := Lib.hid hl
    have HE := Lib.hid hN
    have HC := Lib.hid hcell
    have HC' := Lib.hid hcell'
    clear hl hN hcell hcell'
    go_enter Try.func13, Try.ntmps13
    go_wp2_with fail
    go_loopw [5] (fun i wr => ∃ j : Nat, j ≤ N ∧ i = .int .i64 j ∧ Kp w wr) (fun i _ => N - (intOf i).toNat)
    case atStart => exact ⟨0, by omega, rfl, Kp.refl w⟩
    case round =>
      obtain ⟨j, hj, rfl, hk⟩ := hrel
      obtain ⟨w3, rfl⟩ : ∃ w3, w3 = wr := ⟨_, rfl⟩
      have HK := Lib.hid hk
      clear hk
      by_cases hjN : j = N
      · subst hjN
        clear hj
        go_wp2_with fail
        go_ret
        exact ⟨rfl, HK.out⟩
      · have hjl : j < N := by omega
        have j0 : (0 : Int) ≤ (j : Int) := by omega
        have j1 : (j : Int) < (N : Int) := by omega
        have hx : l[j]? = some (l[j]'(by have := HE.out; omega)) := List.getElem?_eq_getElem _
        generalize l[j]'(by have := HE.out; omega) = x at hx
        have c0 := cell_kp (HC.out j x hx).1 HK.out
        have c1 := cell_kp (HC.out j x hx).2 HK.out
        have c2 := cell_kp (HC'.out j x hx).1 HK.out
        have c3 := cell_kp (HC'.out j x hx).2 HK.out
        have HJ := Lib.hid hjl
        clear hj hjN hjl hx
        go_wp2_with fail
        go_region
        go_wp2_with fail
        go_roundw
        case rel => exact ⟨j + 1, HJ.out, by go_num, HK.out.drew⟩
        case measure => have := HJ.out; simp [intOf]; omega
end Go.Proofs.Ytnjdglejcfdonaa
