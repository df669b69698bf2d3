/-
  Package mem: the words of a frame that are not nought; no memory. No condition.
-/
import Derived.Test.YtnjdglejcfdonaaPTop08
import Derived.Maps.AppendAt
import Derived.Laws.OwnMore
import Derived.OwnWalk
namespace Go.Proofs.Ytnjdglejcfdonaa
open Go Go.RowKit Go.Maps

/-- A frame's words, of any number. -/
def atV (n : Nat) (V : Nat → Nat → Nat) (x : Int) : Nat → Nat := if okF n x = true then V x.toNat else fun _ => 0
theorem OwnsC.none (w : World) (B : Nat) (U : Nat → Nat) (h : ∀ p, p < 512 → U p = 0) : OwnsC w B (.slice none 0 0) U 512 := by
  unfold OwnsC cwC
  rw [cwl_nil U 512 h]
  exact World.ownsRow_nil _ _ _ _
theorem rwords_any (x : Int) (w : World) (S : Nat → Prop) (b n : Nat) (V : Nat → Nat → Nat) (h : RMem w S b n V) :
    Calls Try.prog 15 #[.pointer (some ⟨b, 0, none⟩), .int .i64 x] w fun e w' => ∃ v, e = .returned v ∧ OwnsC w' w.heap.size v (atV n V x) 512 ∧ Kp w w' := by
  unfold atV
  by_cases c : okF n x = true
  · rw [if_pos c]
    obtain ⟨f, rfl, hf, e⟩ := okF_nat c
    rw [e]
    exact rwords_yes f w S b n V h hf
  · rw [if_neg c]
    exact (rwords_no x w S b n V h (by simpa using c)).mono fun _ _ q => ⟨_, q.1, OwnsC.none _ _ _ (fun _ _ => rfl), q.2⟩
theorem pwords_none (x : Int) (w : World) (b mb n : Nat) (L : Nat → Option Nat) (V : Nat → Nat → Nat) (h : PM w b mb n L V) (hi : -9223372036854775808 ≤ x ∧ x < 9223372036854775808) (hx : atO n L x = none) :
    Calls Try.prog 14 #[.pointer (some ⟨b, 0, none⟩), .int .i64 x] w fun e w' => e = .returned (.slice none 0 0) ∧ Kp w w' := by
  have d0 := h.hb.cell 1
  have d1 := h.lookI x hi
  rw [hx] at d1
  clear h hx hi
  go_enter Try.func14, Try.ntmps14
  go_wp2
  go_ret
  exact ⟨rfl, Kp.refl w⟩
set_option maxRecDepth 20000 in
set_option maxHeartbeats 1000000 in
theorem pwords_some (f g : Nat) (w : World) (b mb n : Nat) (L : Nat → Option Nat) (V : Nat → Nat → Nat) (h : PM w b mb n L V) (hf : f < n) (hL : L f = some g) :
    Calls Try.prog 14 #[.pointer (some ⟨b, 0, none⟩), .int .i64 f] w fun e w' => ∃ v, e = .returned v ∧ OwnsC w' w.heap.size v (V f) 512 ∧ Kp w w' := by
  have d0 := h.hb.cell 1
  have d1 := h.look f hf
  rw [hL] at d1
  have HRow := Lib.hid (h.row f g hf hL).2.2
  obtain ⟨i0, hi0, hz0, hz1, hz2⟩ := info_parts cw_info
  clear h hf hL
  go_enter Try.func14, Try.ntmps14
  go_wp2_with fail
  clear d0 d1
  go_loopw [5, 6, 7, 25] (fun l s6 s7 i wr => ∃ k : Nat, k ≤ 512 ∧ i = .int .i64 k ∧ OwnsC wr w.heap.size l (V f) k ∧ Kp w wr) (fun _ _ _ i _ => 512 - (intOf i).toNat)
  case atStart => exact ⟨0, by omega, rfl, show World.ownsRow _ _ _ _ _ 0 [] from World.ownsRow_nil _ _ _ _, Kp.refl w⟩
  case round =>
    obtain ⟨k, hk512, rfl, hown, hk⟩ := hrel
    by_cases h5 : k = 512
    · subst h5
      go_wp2_with fail
      go_ret
      exact ⟨_, rfl, hown, hk⟩
    · have hk5 : k < 512 := by omega
      have k0 : (0 : Int) ≤ (k : Int) := by omega
      have k1 : (k : Int) < 512 := by omega
      have c0 := ((HRow.out.kp hk).cell k).trans (rowU_at (V f) k hk5)
      have HK5 := Lib.hid hk5
      clear hk512 h5 hk5
      by_cases hz : V f k = 0
      · have HO := Lib.hid ((OwnsC.stay hown hz).kp (Kp.refl _).drew)
        have HK := Lib.hid hk.drew
        rw [hz] at c0
        clear hown hk hz
        go_wp2_with fail
        go_region
        go_wp2_with fail
        go_roundw
        case rel => exact ⟨k + 1, HK5.out, by go_num, HO.out, HK.out⟩
        case measure => simp [intOf]; omega
      · have d : (((V f k : Nat) : Int) != 0) = true := by simp; omega
        have HM := Lib.hid (fits2 (n := (cwl (V f) k).length) (Nat.le_trans (cwl_len _ _) (by omega)))
        have HZ : Hid (w.heap.size ≤ (wr.drew.alloc (.cells #[.int .i64 k, .int .u64 (V f k : Nat)] 66)).heap.size) := Lib.hid ((hk.drew.alloc _ _).size)
        have HK := Lib.hid hk.drew
        have HO := Lib.hid (hown.kp (Kp.refl _).drew)
        have HNZ := Lib.hid hz
        clear hown hk hz
        go_wp2_with fail
        go_region
        go_wp2_with (at_builtin; refine wpList_append_own_at _ rfl (.tmp 33) (.tmp 37) _ rfl w.heap.size 66 i0 _ 2 16 Try.underlying41 hi0 hz0 hz1 hz2 rfl (by decide) _ _ _ rfl (World.ownsRow.alloc HO.out _) ⟨wr.drew.heap.size, 0, none⟩ 1 1 (#[.int .i64 k, .int .u64 (V f k : Nat)] : Array Value).toList rfl rfl (news_at2 wr.drew _ _) (one2 _ _) HM.out.1 HM.out.2 HZ.out ?_; intro v' w9 hown1 hg1 hn1 hat1; have HA := Lib.hid (OwnsC.next HO.out HK.out HNZ.out hown1 hg1); clear hown1 hg1 hn1 hat1)
        go_roundw
        case rel => exact ⟨k + 1, HK5.out, by go_num, HA.out.1, HA.out.2⟩
        case measure => simp [intOf]; omega
theorem pwords_any (x : Int) (w : World) (S : Nat → Prop) (b n : Nat) (V : Nat → Nat → Nat) (h : PMem w S b n V) (hi : -9223372036854775808 ≤ x ∧ x < 9223372036854775808) :
    Calls Try.prog 14 #[.pointer (some ⟨b, 0, none⟩), .int .i64 x] w fun e w' => ∃ v, e = .returned v ∧ OwnsC w' w.heap.size v (atV n V x) 512 ∧ Kp w w' := by
  obtain ⟨mb, L, h, -⟩ := h
  unfold atV
  by_cases c : okF n x = true
  · rw [if_pos c]
    obtain ⟨f, rfl, hf, e⟩ := okF_nat c
    rw [e]
    cases hL : L f with
    | none => exact (pwords_none f w b mb n L V h hi (by rw [atO_nat n L f hf]; exact hL)).mono fun _ _ q => ⟨_, q.1, OwnsC.none _ _ _ (h.no f hf hL), q.2⟩
    | some g => exact pwords_some f g w b mb n L V h hf hL
  · rw [if_neg c]
    refine (pwords_none x w b mb n L V h hi (atO_no n L x (fun q => c ?_))).mono fun _ _ q => ⟨_, q.1, OwnsC.none _ _ _ (fun _ _ => rfl), q.2⟩
    unfold okF
    simp
    omega
/-! No memory. -/
theorem wants_nil (W : Int) (w : World) : Calls Try.prog 24 #[.pointer none, .int .u64 W] w fun e w' => e = .returned (.int .i64 1) ∧ Kp w w' := by
  go_enter Try.func24, Try.ntmps24
  go_wp2
  go_ret
  exact ⟨rfl, Kp.refl w⟩
theorem pread_nil (W : Int) (w : World) : Calls Try.prog 17 #[.pointer none, .int .u64 W] w fun e w' => e = .returned (.tuple #[.int .u64 0, .int .i64 1]) ∧ Kp w w' := by
  have HT := Lib.hid (wants_nil W w)
  go_enter Try.func17, Try.ntmps17
  go_wp2_with fail
  refine (HT.out).mono ?_; rintro e w1 ⟨rfl, hg⟩
  have H1 := Lib.hid hg; clear hg
  go_wp2
  go_ret2
  exact ⟨rfl, H1.out⟩
theorem pwrite_nil (W X : Int) (w : World) : Calls Try.prog 12 #[.pointer none, .int .u64 W, .int .u64 X] w fun e w' => e = .returned (.int .i64 1) ∧ Kp w w' := by
  have HT := Lib.hid (wants_nil W w)
  go_enter Try.func12, Try.ntmps12
  go_wp2_with fail
  refine (HT.out).mono ?_; rintro e w1 ⟨rfl, hg⟩
  have H1 := Lib.hid hg; clear hg
  go_wp2
  go_ret
  exact ⟨rfl, H1.out⟩
theorem padd_nil (W X : Int) (w : World) : Calls Try.prog 18 #[.pointer none, .int .u64 W, .int .u64 X] w fun e w' => e = .returned (.tuple #[.int .u64 0, .int .i64 1]) ∧ Kp w w' := by
  have HT := Lib.hid (wants_nil W w)
  go_enter Try.func18, Try.ntmps18
  go_wp2_with fail
  refine (HT.out).mono ?_; rintro e w1 ⟨rfl, hg⟩
  have H1 := Lib.hid hg; clear hg
  go_wp2
  go_ret2
  exact ⟨rfl, H1.out⟩
theorem preach_nil (k W X fr fm : Int) (w : World) : Calls Try.prog 19 #[.pointer none, .agg (entV k W X fr fm)] w fun e w' => e = .returned (.int .i64 1) ∧ Kp w w' := by
  unfold entV
  go_enter Try.func19, Try.ntmps19
  go_wp2
  go_ret
  exact ⟨rfl, (Kp.refl w).alloc (entV k W X fr fm) 35⟩
theorem pframes_nil (w : World) : Calls Try.prog 16 #[.pointer none] w fun e w' => e = .returned (.int .i64 0) ∧ Kp w w' := by
  go_enter Try.func16, Try.ntmps16
  go_wp2
  go_ret
  exact ⟨rfl, Kp.refl w⟩
theorem pwords_nil (x : Int) (w : World) : Calls Try.prog 14 #[.pointer none, .int .i64 x] w fun e w' => e = .returned (.slice none 0 0) ∧ Kp w w' := by
  go_enter Try.func14, Try.ntmps14
  go_wp2
  go_ret
  exact ⟨rfl, Kp.refl w⟩
theorem pcopy_nil (w : World) : Calls Try.prog 11 #[.pointer none] w fun e w' => e = .returned (.pointer none) ∧ Kp w w' := by
  go_enter Try.func11, Try.ntmps11
  go_wp2
  go_ret
  exact ⟨rfl, Kp.refl w⟩
end Go.Proofs.Ytnjdglejcfdonaa
