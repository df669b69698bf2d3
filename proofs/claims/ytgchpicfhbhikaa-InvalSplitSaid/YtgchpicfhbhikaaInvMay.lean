/-
  The contracts of package inval's may, word and Encode, and of the document's May and Encode, for every invalidation. No condition.
-/
import Derived.Test.YtgchpicfhbhikaaChecked
import Derived.Test.YtgchpicfhbhikaaBlk
namespace Go.Proofs.Ytgchpicfhbhikaa
open Go Go.RowKit

def MayP (k a : Int) (X : Nat) : Prop := 0 ≤ a ∧ a < 256 ∧ X < 34359738368 ∧ ((k = 0 ∧ a = 0 ∧ X = 0) ∨ (k = 1 ∧ X = 0) ∨ k = 2)
instance (k a : Int) (X : Nat) : Decidable (MayP k a X) := by unfold MayP; infer_instance
def mayB (k a : Int) (X : Nat) : Bool := decide (MayP k a X)
theorem may_yes {k a : Int} {X : Nat} (h : MayP k a X) : mayB k a X = true := decide_eq_true h
theorem may_no {k a : Int} {X : Nat} (h : ¬ MayP k a X) : mayB k a X = false := decide_eq_false h
theorem kpA (w : World) (c : Array Value) (t : TypeId) : Kp w (w.alloc (.cells c t)) := (Kp.refl w).alloc c t
theorem may0 {a : Int} {X : Nat} : (a = 0 → ((X : Int) == 0) = mayB 0 a X) ∧ (¬ a = 0 → false = mayB 0 a X) := by
  refine ⟨fun h => ?_, fun h => (may_no (by unfold MayP; omega)).symm⟩
  rw [Bool.eq_iff_iff]; simp [mayB, MayP]; omega
theorem may1 {a : Int} {X : Nat} (a0 : ¬ a < 0) (a1 : ¬ 255 < a) : ((X : Int) == 0) = mayB 1 a X := by
  rw [Bool.eq_iff_iff]; simp [mayB, MayP]; omega
theorem may2 {k a : Int} {X : Nat} (a0 : ¬ a < 0) (a1 : ¬ 255 < a) (x : X < 34359738368) (h0 : ¬ k = 0) (h1 : ¬ k = 1) : (k == 2) = mayB k a X := by
  show decide (k = 2) = mayB k a X
  exact decide_eq_decide.2 (by unfold MayP; omega)
theorem may_any (k a : Int) (X : Nat) (w : World) :
    Calls Try.prog 18 #[.agg #[.int .i8 k, .int .i64 a, .int .u64 X]] w fun e w' => e = .returned (.bool (mayB k a X)) ∧ Kp w w' := by
  by_cases a0 : a < 0
  · rw [may_no (by unfold MayP; omega)]
    go_enter Try.func18, Try.ntmps18
    go_wp2
    go_ret
    exact ⟨rfl, kpA _ _ _⟩
  · by_cases a1 : 255 < a
    · rw [may_no (by unfold MayP; omega)]
      go_enter Try.func18, Try.ntmps18
      go_wp2
      go_ret
      exact ⟨rfl, kpA _ _ _⟩
    · by_cases x : X < 34359738368
      · have x' : decide (34359738368 ≤ (X : Int)) = false := by simp only [decide_eq_false_iff_not]; omega
        by_cases k0 : k = 0
        · subst k0
          have r := Lib.hid (may0 (a := a) (X := X))
          clear x
          go_enter Try.func18, Try.ntmps18
          go_wp2
          all_goals (go_ret; refine ⟨ret_bool (by first | exact r.out.1 (by assumption) | exact r.out.2 (by assumption) | (have hh : a = 0 := by assumption); subst hh; exact r.out.1 rfl), kpA _ _ _⟩)
        · by_cases k1 : k = 1
          · subst k1
            have r := Lib.hid (may1 (X := X) a0 a1)
            clear x k0
            go_enter Try.func18, Try.ntmps18
            go_wp2
            go_ret
            exact ⟨ret_bool r.out, kpA _ _ _⟩
          · have r := Lib.hid (may2 a0 a1 x k0 k1)
            have k0' : (k == 0) = false := by simpa using k0
            have k1' : (k == 1) = false := by simpa using k1
            clear x k0 k1
            go_enter Try.func18, Try.ntmps18
            go_wp2
            all_goals (go_ret; first | exact ⟨ret_bool r.out, kpA _ _ _⟩ | exact ⟨ret_bool (by rw [← r.out]; simp_all), kpA _ _ _⟩)
      · have x' : decide (34359738368 ≤ (X : Int)) = true := by simp only [decide_eq_true_eq]; omega
        rw [may_no (by unfold MayP; omega)]
        clear x
        go_enter Try.func18, Try.ntmps18
        go_wp2
        go_ret
        exact ⟨rfl, kpA _ _ _⟩
theorem rmay_any (k a : Int) (X : Nat) (w : World) :
    Calls Try.prog 20 #[.agg #[.int .i8 k, .int .i64 a, .int .u64 X]] w fun e w' => e = .returned (.bool (mayB k a X)) ∧ Kp w w' := by
  by_cases a0 : a < 0
  · rw [may_no (by unfold MayP; omega)]
    go_enter Try.func20, Try.ntmps20
    go_wp2
    go_ret
    exact ⟨rfl, kpA _ _ _⟩
  · by_cases a1 : 255 < a
    · rw [may_no (by unfold MayP; omega)]
      go_enter Try.func20, Try.ntmps20
      go_wp2
      go_ret
      exact ⟨rfl, kpA _ _ _⟩
    · by_cases x : X < 34359738368
      · have x' : decide (34359738368 ≤ (X : Int)) = false := by simp only [decide_eq_false_iff_not]; omega
        by_cases k0 : k = 0
        · subst k0
          have r := Lib.hid (may0 (a := a) (X := X))
          clear x
          go_enter Try.func20, Try.ntmps20
          go_wp2
          all_goals (go_ret; refine ⟨ret_bool (by first | exact r.out.1 (by assumption) | exact r.out.2 (by assumption) | (have hh : a = 0 := by assumption); subst hh; exact r.out.1 rfl), kpA _ _ _⟩)
        · by_cases k1 : k = 1
          · subst k1
            have r := Lib.hid (may1 (X := X) a0 a1)
            clear x k0
            go_enter Try.func20, Try.ntmps20
            go_wp2
            go_ret
            exact ⟨ret_bool r.out, kpA _ _ _⟩
          · have r := Lib.hid (may2 a0 a1 x k0 k1)
            have k0' : (k == 0) = false := by simpa using k0
            have k1' : (k == 1) = false := by simpa using k1
            clear x k0 k1
            go_enter Try.func20, Try.ntmps20
            go_wp2
            all_goals (go_ret; first | exact ⟨ret_bool r.out, kpA _ _ _⟩ | exact ⟨ret_bool (by rw [← r.out]; simp_all), kpA _ _ _⟩)
      · have x' : decide (34359738368 ≤ (X : Int)) = true := by simp only [decide_eq_true_eq]; omega
        rw [may_no (by unfold MayP; omega)]
        clear x
        go_enter Try.func20, Try.ntmps20
        go_wp2
        go_ret
        exact ⟨rfl, kpA _ _ _⟩

/-! The word. -/
def encN (a : Int) (X : Nat) : Nat := a.toNat * 281474976710656 + X
theorem or_num (n X : Nat) (hn : n < 256) (hX : X < 34359738368) : bits .or .u64 ((n : Int) * 281474976710656) (X : Int) = ((n * 281474976710656 + X : Nat) : Int) := by
  have := bits_or_u64_nat (n * 281474976710656) X (by omega) (by omega)
  rw [show ((n : Int) * 281474976710656) = ((n * 281474976710656 : Nat) : Int) by omega, this]
  have e := Nat.two_pow_add_eq_or_of_lt (i := 48) (b := X) (by omega) n
  rw [show n * 281474976710656 = 2 ^ 48 * n by omega, ← e]
theorem may_lim {k a : Int} {X : Nat} (h : MayP k a X) : ∃ n : Nat, a = n ∧ n < 256 ∧ X < 34359738368 := by
  unfold MayP at h
  exact ⟨a.toNat, by omega, by omega, by omega⟩
theorem word_any (k a : Int) (X : Nat) (w : World) (h : MayP k a X) :
    Calls Try.prog 19 #[.agg #[.int .i8 k, .int .i64 a, .int .u64 X]] w fun e w' => e = .returned (.int .u64 (encN a X)) ∧ Kp w w' := by
  obtain ⟨n, rfl, hn, hX⟩ := may_lim h
  have r := Lib.hid (or_num n X hn hX)
  have hn' : (n : Int) < 256 := by omega
  clear h hX hn
  go_enter Try.func19, Try.ntmps19
  go_wp2
  go_ret
  exact ⟨ret_int r.out, kpA _ _ _⟩

/-! Encode. -/
def encE (k a : Int) (X : Nat) : Int := if MayP k a X then 0 else 2
def encW (k a : Int) (X : Nat) : Nat := if MayP k a X then encN a X else 0
theorem enc_yes {k a : Int} {X : Nat} (h : MayP k a X) : encE k a X = 0 ∧ encW k a X = encN a X := ⟨if_pos h, if_pos h⟩
theorem enc_no {k a : Int} {X : Nat} (h : ¬ MayP k a X) : encE k a X = 2 ∧ encW k a X = 0 := ⟨if_neg h, if_neg h⟩
def InvAt (w w' : World) (k a : Int) (X : Nat) : Prop := Blk w' w.heap.size #[.int .i8 k, .int .i64 a, .int .u64 X] 25 ∧ Kp w w'
theorem InvAt.kp {w w1 w2 : World} {k a : Int} {X : Nat} (h : InvAt w w1 k a X) (g : Kp w1 w2) : InvAt w w2 k a X := ⟨h.1.kp g, h.2.trans g⟩
theorem InvAt.new (w : World) (k a : Int) (X : Nat) : InvAt w (w.alloc (.cells #[.int .i8 k, .int .i64 a, .int .u64 X] 25)) k a X := ⟨Blk.new _ _ _, kpA _ _ _⟩
theorem InvAt.cells {w w' : World} {k a : Int} {X : Nat} (h : InvAt w w' k a X) : w'.cell? ⟨w.heap.size, 0, none⟩ = some (.int .i8 k) ∧ w'.cell? ⟨w.heap.size, 1, none⟩ = some (.int .i64 a) ∧ w'.cell? ⟨w.heap.size, 2, none⟩ = some (.int .u64 X) := ⟨h.1.cell 0, h.1.cell 1, h.1.cell 2⟩
theorem encode_any (k a : Int) (X : Nat) (w : World) :
    Calls Try.prog 7 #[.agg #[.int .i8 k, .int .i64 a, .int .u64 X]] w fun e w' => e = .returned (.tuple #[.int .u64 (encW k a X), .int .i64 (encE k a X)]) ∧ Kp w w' := by
  by_cases h : MayP k a X
  · rw [(enc_yes h).1, (enc_yes h).2]
    have HM := Lib.hid h
    have r := Lib.hid (may_yes h)
    clear h
    go_enter Try.func7, Try.ntmps7
    go_wp2_with fail
    refine (may_any k a X _).mono ?_; rintro e w1 ⟨rfl, hg⟩
    have H1 := Lib.hid hg; clear hg
    rw [r.out]
    have hS := (InvAt.new w k a X).kp H1.out
    have HS := Lib.hid hS
    obtain ⟨z0, z1, z2⟩ := hS.cells
    clear hS
    go_wp2_with fail
    refine (word_any k a X _ HM.out).mono ?_; rintro e w2 ⟨rfl, hg⟩
    have H2 := Lib.hid hg; clear hg
    go_wp2_with fail
    go_ret2
    exact ⟨rfl, HS.out.2.trans H2.out⟩
  · rw [(enc_no h).1, (enc_no h).2]
    have r := Lib.hid (may_no h)
    clear h
    go_enter Try.func7, Try.ntmps7
    go_wp2_with fail
    refine (may_any k a X _).mono ?_; rintro e w3 ⟨rfl, hg⟩
    have H3 := Lib.hid hg; clear hg
    rw [r.out]
    go_wp2_with fail
    go_ret2
    exact ⟨rfl, (by (repeat (first | apply Kp.drew | apply Kp.alloc)); refine Kp.trans ?_ H3.out; (repeat (first | apply Kp.drew | apply Kp.alloc)); exact Kp.refl _)⟩
theorem rencode_any (k a : Int) (X : Nat) (w : World) :
    Calls Try.prog 8 #[.agg #[.int .i8 k, .int .i64 a, .int .u64 X]] w fun e w' => e = .returned (.tuple #[.int .u64 (encW k a X), .int .i64 (encE k a X)]) ∧ Kp w w' := by
  by_cases h : MayP k a X
  · rw [(enc_yes h).1, (enc_yes h).2]
    obtain ⟨n, rfl, hn, hX⟩ := may_lim h
    have r' := Lib.hid (or_num n X hn hX)
    have hn' : (n : Int) < 256 := by omega
    have r := Lib.hid (may_yes h)
    clear h hX hn
    go_enter Try.func8, Try.ntmps8
    go_wp2_with fail
    refine (rmay_any k n X _).mono ?_; rintro e w1 ⟨rfl, hg⟩
    have H1 := Lib.hid hg; clear hg
    rw [r.out]
    have hS := (InvAt.new w k n X).kp H1.out
    have HS := Lib.hid hS
    obtain ⟨z0, z1, z2⟩ := hS.cells
    clear hS
    go_wp2_with fail
    go_ret2
    exact ⟨ret_pair r'.out rfl, HS.out.2⟩
  · rw [(enc_no h).1, (enc_no h).2]
    have r := Lib.hid (may_no h)
    clear h
    go_enter Try.func8, Try.ntmps8
    go_wp2_with fail
    refine (rmay_any k a X _).mono ?_; rintro e w2 ⟨rfl, hg⟩
    have H2 := Lib.hid hg; clear hg
    rw [r.out]
    go_wp2_with fail
    go_ret2
    exact ⟨rfl, (by (repeat (first | apply Kp.drew | apply Kp.alloc)); refine Kp.trans ?_ H2.out; (repeat (first | apply Kp.drew | apply Kp.alloc)); exact Kp.refl _)⟩
end Go.Proofs.Ytgchpicfhbhikaa
