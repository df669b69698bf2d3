/-
  wakes returns true; two rows of the same numbers are alike. No condition but the table.
-/
import Derived.Test.YtieffpgiliebmaaDoorRefDo06
import Derived.BigRegion
namespace Go.Proofs.YtieffpgiliebmaaDoor
open Go Go.RowKit

abbrev rg0 : Array Value := #[.int .u64 0, .int .u64 5, .int .u64 7, .int .u64 0, .int .u64 0, .int .u64 0, .int .u64 0, .int .u64 0]
abbrev rg1 : Array Value := #[.int .u64 18446744073709551614, .int .u64 5, .int .u64 7, .int .u64 0, .int .u64 0, .int .u64 0, .int .u64 0, .int .u64 0]
def R0 : Regs := upd (upd (fun _ => 0#64) 1 5#64) 2 7#64
theorem rg0_eq : regV R0 = rg0 := rfl
theorem rg1_eq : regV (upd R0 0 (R0 1 - R0 2)) = rg1 := rfl
theorem wk_sub (w : World) (hT : TabsOk w) :
    Calls Tryd.prog 17 #[.agg #[.int .i8 3, .int .i8 0, .int .i8 1, .int .i8 2, .int .i64 0], .agg rg0, .int .i64 0] w fun e w' => e = .returned (.tuple #[.agg rg1, .int .i64 1, .int .i64 0]) ∧ Kp w w' := by
  have h := do_sub 0 1 2 0 R0 0 w hT (by decide)
  rw [rg0_eq, rg1_eq, show wrap64 (0 + 1) = 1 by decide +kernel] at h
  exact h
theorem wk_jz (w : World) (hT : TabsOk w) :
    Calls Tryd.prog 17 #[.agg #[.int .i8 15, .int .i8 0, .int .i8 0, .int .i8 0, .int .i64 (-3)], .agg rg0, .int .i64 5] w fun e w' => e = .returned (.tuple #[.agg rg0, .int .i64 2, .int .i64 0]) ∧ Kp w w' := by
  have h := do_jz 0 0 0 (-3) R0 5 w hT (by decide)
  rw [rg0_eq, show wrap64 (5 + if R0 0 = 0#64 then -3 else 1) = 2 by decide +kernel] at h
  exact h
theorem wk_ldr (w : World) (hT : TabsOk w) :
    Calls Tryd.prog 17 #[.agg #[.int .i8 8, .int .i8 0, .int .i8 0, .int .i8 0, .int .i64 0], .agg rg0, .int .i64 0] w fun e w' => e = .returned (.tuple #[.agg rg0, .int .i64 0, .int .i64 21]) ∧ Kp w w' := by
  have h := do_not 8 0 0 0 0 R0 0 w hT (by decide) (by decide)
  rw [rg0_eq] at h
  exact h
set_option maxHeartbeats 1000000 in
theorem wakes_any (w : World) (hT : TabsOk w) :
    Calls Tryd.prog 16 #[] w fun e w' => e = .returned (.bool true) ∧ Kp w w' := by
  have HT := Lib.hid hT; clear hT
  go_enter Tryd.func16, Tryd.ntmps16
  go_wp2_with fail
  refine (wk_sub _ (HT.out.kp (kpA _ _ _))).mono ?_; rintro e w1 ⟨rfl, hg⟩
  have B1 := Lib.hid ((Blk.new w rg0 35).kp hg)
  have K1 := Lib.hid ((kpA w _ _).trans hg)
  clear hg
  go_wp2_with (refine wpList_load_row rfl 35 (.tmp 1) rfl w.heap.size rfl _ _ _ _ (B1.out.alloc _) Tryd.underlying35 rfl (by kernel_rfl) ?_)
  refine (wk_jz _ (HT.out.kp (K1.out.alloc _ _))).mono ?_; rintro e w2 ⟨rfl, hg⟩
  have B2 := Lib.hid ((B1.out.alloc (.cells rg1 35)).kp hg)
  have C2 := Lib.hid ((Blk.new w1 rg1 35).kp hg)
  have K2 := Lib.hid ((K1.out.alloc _ _).trans hg)
  clear hg
  go_wp2_with (refine wpList_load_row rfl 35 (.tmp 1) rfl w.heap.size rfl _ _ _ _ (B2.out.alloc _) Tryd.underlying35 rfl (by kernel_rfl) ?_)
  refine (wk_ldr _ (HT.out.kp (K2.out.alloc _ _))).mono ?_; rintro e w3 ⟨rfl, hg⟩
  have C3 := (C2.out.alloc (.cells rg0 35)).kp hg
  have K3 := Lib.hid ((K2.out.alloc _ _).trans hg)
  have hlt := C3.lt
  have hc := C3.cell 0
  clear hg C3
  go_wp2
  go_ret
  exact ⟨rfl, K3.out.alloc _ _⟩

/-- Two rows of the same numbers. -/
theorem OwnsI.at {w : World} {B : Nat} {g n cap : Nat} {zs : List Int} (h : OwnsI w B (.slice (some ⟨g, 0, none⟩) n cap) zs) (k : Nat) (hk : k < zs.length) : w.cell? ⟨g, k, none⟩ = some (.int .i64 (zs.getD k 0)) := by
  rcases h.parts with ⟨h1, -⟩ | ⟨g', cap', cur, h1, -, hg, -, -, -, ht⟩
  · cases h1
  · simp only [Value.slice.injEq, Option.some.injEq, Addr.mk.injEq, and_true] at h1
    obtain ⟨rfl, -, -⟩ := h1
    have := (holds_own hg ht k (by simpa using hk)).1
    rw [Nat.zero_add] at this
    rw [this, getElem!_pos _ k (by simpa using hk)]
    simp [hk]
set_option maxHeartbeats 1000000 in
theorem ints_same (B : Nat) (u v : Value) (zs : List Int) (w : World) (hu : OwnsI w B u zs) (hv : OwnsI w B v zs) (hn : zs.length ≤ 100) :
    Calls Tryd.prog 13 #[u, v] w fun e w' => e = .returned (.bool true) ∧ Kp w w' := by
  by_cases h0 : zs = []
  · subst h0
    have hu' : u = .slice none 0 0 ∨ ∃ g cap, u = .slice (some ⟨g, 0, none⟩) 0 cap := by
      rcases hu.parts with ⟨rfl, _⟩ | ⟨g, cap, cur, rfl, _⟩
      · exact .inl rfl
      · exact .inr ⟨g, cap, rfl⟩
    have hv' : v = .slice none 0 0 ∨ ∃ g cap, v = .slice (some ⟨g, 0, none⟩) 0 cap := by
      rcases hv.parts with ⟨rfl, _⟩ | ⟨g, cap, cur, rfl, _⟩
      · exact .inl rfl
      · exact .inr ⟨g, cap, rfl⟩
    clear hu hv hn
    rcases hu' with rfl | ⟨g, cap, rfl⟩ <;> rcases hv' with rfl | ⟨g', cap', rfl⟩
    all_goals
      go_enter Tryd.func13, Tryd.ntmps13
      go_wp2
      refine wp_loop_rounds 1 ?_
      rw [rounds_succ]
      go_wp2
      go_ret
      exact ⟨rfl, Kp.refl _⟩
  · obtain ⟨g, cap, rfl⟩ : ∃ g cap, u = .slice (some ⟨g, 0, none⟩) zs.length cap := by
      rcases hu.parts with ⟨_, h⟩ | ⟨g, cap, cur, rfl, _⟩
      · exact absurd h h0
      · exact ⟨g, cap, rfl⟩
    obtain ⟨g', cap', rfl⟩ : ∃ g cap, v = .slice (some ⟨g, 0, none⟩) zs.length cap := by
      rcases hv.parts with ⟨_, h⟩ | ⟨g, cap, cur, rfl, _⟩
      · exact absurd h h0
      · exact ⟨g, cap, rfl⟩
    have HU := Lib.hid hu; clear hu
    have HV := Lib.hid hv; clear hv
    have HN := Lib.hid hn; clear hn h0
    go_enter Tryd.func13, Tryd.ntmps13
    go_wp2
    go_loopw [5] (fun x wr => ∃ k : Nat, k ≤ zs.length ∧ x = .int .i64 k ∧ Kp w wr) (fun x _ => zs.length - (intOf x).toNat)
    case atStart => exact ⟨0, by omega, rfl, Kp.refl _⟩
    case round =>
      obtain ⟨k, hk, rfl, hkp⟩ := hrel
      by_cases he : k = zs.length
      · subst he
        go_wp2
        go_ret
        exact ⟨rfl, hkp⟩
      · have hlt : k < zs.length := by omega
        have HK := Lib.hid hkp; clear hkp
        have k0 : (0 : Int) ≤ (k : Int) := by omega
        have k1 : (k : Int) < (zs.length : Int) := by omega
        have k2 : (k : Int) < 100 := by have := HN.out; omega
        have cu := (HU.out.kp HK.out).at k hlt
        have cv := (HV.out.kp HK.out).at k hlt
        clear hk he
        go_wp2
        go_region
        have hk' : Kp w wr.drew := HK.out.drew
        clear cu cv
        go_wp2
        go_roundw
        case rel => exact ⟨k + 1, by omega, by go_num, hk'⟩
        case measure => simp [intOf]; omega
end Go.Proofs.YtieffpgiliebmaaDoor
