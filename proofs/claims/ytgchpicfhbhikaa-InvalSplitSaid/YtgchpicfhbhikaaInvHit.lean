/-
  The contracts of package inval's hitter, begins and of what they give back, and of Hits, HitsStep and Covers. No condition.
-/
import Derived.Test.YtgchpicfhbhikaaInvMay
import Derived.Deep.RegionHeld3
namespace Go.Proofs.Ytgchpicfhbhikaa
open Go Go.RowKit

/-! The way of hitting, as a value. -/
def hitN (k a : Int) (X : Nat) : Nat := if MayP k a X then if k = 0 then 25 else if k = 1 then 26 else 27 else 24
def hitV (k a : Int) (X : Nat) : Value := .func (.func (hitN k a X)) #[.agg #[.int .i8 k, .int .i64 a, .int .u64 X]] #[]
theorem hit_no {k a : Int} {X : Nat} (h : ¬ MayP k a X) : hitV k a X = .func (.func 24) #[.agg #[.int .i8 k, .int .i64 a, .int .u64 X]] #[] := by
  unfold hitV hitN; rw [if_neg h]
theorem hit_all {k a : Int} {X : Nat} (h : MayP k a X) (h0 : k = 0) : hitV k a X = .func (.func 25) #[.agg #[.int .i8 k, .int .i64 a, .int .u64 X]] #[] := by
  unfold hitV hitN; rw [if_pos h, if_pos h0]
theorem hit_asid {k a : Int} {X : Nat} (h : MayP k a X) (h1 : k = 1) : hitV k a X = .func (.func 26) #[.agg #[.int .i8 k, .int .i64 a, .int .u64 X]] #[] := by
  unfold hitV hitN; rw [if_pos h, if_neg (by omega), if_pos h1]
theorem hit_page {k a : Int} {X : Nat} (h : MayP k a X) (h2 : k = 2) : hitV k a X = .func (.func 27) #[.agg #[.int .i8 k, .int .i64 a, .int .u64 X]] #[] := by
  unfold hitV hitN; rw [if_pos h, if_neg (by omega), if_neg (by omega)]
theorem hitter_any (k a : Int) (X : Nat) (w : World) :
    Calls Try.prog 21 #[.agg #[.int .i8 k, .int .i64 a, .int .u64 X]] w fun e w' => e = .returned (hitV k a X) ∧ Kp w w' := by
  by_cases m : MayP k a X
  · have r := Lib.hid (may_yes m)
    by_cases k0 : k = 0
    · rw [hit_all m k0]
      subst k0
      clear m
      go_enter Try.func21, Try.ntmps21
      go_wp2_with fail
      refine (may_any 0 a X _).mono ?_; rintro e w1 ⟨rfl, hg⟩
      rw [r.out]
      have HS := Lib.hid ((InvAt.new w 0 a X).kp hg)
      clear hg
      obtain ⟨z0, z1, z2⟩ := HS.out.cells
      go_wp2_with fail
      go_ret
      exact ⟨rfl, HS.out.2⟩
    · by_cases k1 : k = 1
      · rw [hit_asid m k1]
        subst k1
        clear m k0
        go_enter Try.func21, Try.ntmps21
        go_wp2_with fail
        refine (may_any 1 a X _).mono ?_; rintro e w1 ⟨rfl, hg⟩
        rw [r.out]
        have HS := Lib.hid ((InvAt.new w 1 a X).kp hg)
        clear hg
        obtain ⟨z0, z1, z2⟩ := HS.out.cells
        go_wp2_with fail
        go_ret
        exact ⟨rfl, HS.out.2⟩
      · have k2 : k = 2 := by unfold MayP at m; omega
        rw [hit_page m k2]
        subst k2
        clear m k0 k1
        go_enter Try.func21, Try.ntmps21
        go_wp2_with fail
        refine (may_any 2 a X _).mono ?_; rintro e w1 ⟨rfl, hg⟩
        rw [r.out]
        have HS := Lib.hid ((InvAt.new w 2 a X).kp hg)
        clear hg
        obtain ⟨z0, z1, z2⟩ := HS.out.cells
        go_wp2_with fail
        go_ret
        exact ⟨rfl, HS.out.2⟩
  · have r := Lib.hid (may_no m)
    rw [hit_no m]
    clear m
    go_enter Try.func21, Try.ntmps21
    go_wp2_with fail
    refine (may_any k a X _).mono ?_; rintro e w1 ⟨rfl, hg⟩
    rw [r.out]
    have HS := Lib.hid ((InvAt.new w k a X).kp hg)
    clear hg
    obtain ⟨z0, z1, z2⟩ := HS.out.cells
    go_wp2_with fail
    go_ret
    exact ⟨rfl, HS.out.2⟩

/-! What it gives back. -/
theorem nothing_any (r h : Array Value) (w : World) :
    Calls Try.prog 24 #[.agg r, .agg h] w fun e w' => e = .returned (.bool false) ∧ Kp w w' := by
  go_enter Try.func24, Try.ntmps24
  go_wp2_with fail
  go_ret
  exact ⟨rfl, (kpA _ _ _).alloc _ _⟩
theorem each_any (r h : Array Value) (w : World) :
    Calls Try.prog 25 #[.agg r, .agg h] w fun e w' => e = .returned (.bool true) ∧ Kp w w' := by
  go_enter Try.func25, Try.ntmps25
  go_wp2_with fail
  go_ret
  exact ⟨rfl, (kpA _ _ _).alloc _ _⟩
theorem ofAsid_any (k a b : Int) (X : Nat) (v : Value) (w : World) :
    Calls Try.prog 26 #[.agg #[.int .i8 k, .int .i64 a, .int .u64 X], .agg #[.int .i64 b, v]] w fun e w' => e = .returned (.bool (b == a)) ∧ Kp w w' := by
  go_enter Try.func26, Try.ntmps26
  go_wp2_with fail
  go_ret
  exact ⟨rfl, (kpA _ _ _).alloc _ _⟩

/-! How a page begins, as a function's value. -/
def BegAt (w : World) (v : Value) (p L : Nat) : Prop :=
  ∃ A B, v = .func (.func 28) #[] #[.pointer (some ⟨B, 0, none⟩), .pointer (some ⟨A, 0, none⟩)] ∧ Blk w A #[.int .u64 p] 23 ∧ Blk w B #[.int .i8 L] 22
theorem BegAt.kp {w w' : World} {v : Value} {p L : Nat} (h : BegAt w v p L) (g : Kp w w') : BegAt w' v p L := by
  obtain ⟨A, B, e, hA, hB⟩ := h
  exact ⟨A, B, e, hA.kp g, hB.kp g⟩
theorem BegAt.drew {w : World} {v : Value} {p L : Nat} (h : BegAt w v p L) : BegAt w.drew v p L := h.kp (Kp.refl _).drew
theorem begins_any (p : Nat) (l : Int) (L : Nat) (w : World) (h1 : 1 ≤ l) (h3 : l ≤ 3) (hL : (L : Int) = 9 * (3 - l)) :
    Calls Try.prog 22 #[.int .u64 p, .int .i8 l] w fun e w' => (∃ A B, e = .returned (.func (.func 28) #[] #[.pointer (some ⟨B, 0, none⟩), .pointer (some ⟨A, 0, none⟩)]) ∧ BegAt w' (.func (.func 28) #[] #[.pointer (some ⟨B, 0, none⟩), .pointer (some ⟨A, 0, none⟩)]) p L) ∧ Kp w w' := by
  have HL := Lib.hid hL
  clear hL
  go_enter Try.func22, Try.ntmps22
  go_wp2_with fail
  rw [← HL.out]
  go_ret
  refine ⟨⟨w.heap.size, w.heap.size + 1, rfl, w.heap.size, w.heap.size + 1, rfl, (Blk.new _ _ _).alloc _, Blk.new2 _ _ _ _⟩, (kpA _ _ _).alloc _ _⟩
def begB (X L p : Nat) : Bool := decide (X / 2 ^ L = p)
theorem beg_num (X L p : Nat) : ((X : Int) / 2 ^ L == (p : Int)) = begB X L p := by
  unfold begB
  rw [Bool.eq_iff_iff, beq_iff_eq, decide_eq_true_eq, show ((2 : Int) ^ L) = ((2 ^ L : Nat) : Int) by simp]
  omega
theorem beg_any (p X A B L : Nat) (w : World) (h : L ≤ 18) (hA : Blk w A #[.int .u64 p] 23) (hB : Blk w B #[.int .i8 L] 22) :
    Calls Try.prog 28 #[.int .u64 X, .pointer (some ⟨B, 0, none⟩), .pointer (some ⟨A, 0, none⟩)] w fun e w' => e = .returned (.bool (begB X L p)) ∧ Kp w w' := by
  have z0 := hA.cell 0
  have z1 := hB.cell 0
  simp at z0 z1
  have h0 : (0 : Int) ≤ (L : Int) := by omega
  have h1 : (L : Int) ≤ 63 := by omega
  clear hA hB h
  go_enter Try.func28, Try.ntmps28
  go_wp2_with fail
  go_region
  all_goals
    go_wp2
    go_ret
    exact ⟨ret_bool (beg_num X L p), (Kp.refl _).drew⟩
theorem ofPage_any (k a b : Int) (X p L : Nat) (v : Value) (w : World) (h : L ≤ 18) (hv : BegAt w v p L) :
    Calls Try.prog 27 #[.agg #[.int .i8 k, .int .i64 a, .int .u64 X], .agg #[.int .i64 b, v]] w fun e w' => e = .returned (.bool (b == a && begB X L p)) ∧ Kp w w' := by
  have hk : Kp w ((w.alloc (.cells #[.int .i8 k, .int .i64 a, .int .u64 X] 53)).alloc (.cells #[.int .i64 b, v] 51)) := (kpA _ _ _).alloc _ _
  obtain ⟨A, B, rfl, hA, hB⟩ := hv.kp hk
  have HA := Lib.hid hA
  have HB := Lib.hid hB
  have HL := Lib.hid h
  have HK := Lib.hid hk
  clear hA hB hv h hk
  by_cases c : b = a
  · subst c
    go_enter Try.func27, Try.ntmps27
    go_wp2_with fail
    refine (beg_any p X A B L _ HL.out HA.out HB.out).mono ?_; rintro e w1 ⟨rfl, hg⟩
    have HK1 := Lib.hid (HK.out.trans hg)
    clear hg
    go_wp2_with fail
    go_ret
    exact ⟨ret_bool (by simp), HK1.out⟩
  · have c' : (b == a) = false := by simpa using c
    rw [c']
    go_enter Try.func27, Try.ntmps27
    go_wp2_with fail
    go_ret
    exact ⟨rfl, HK.out⟩

/-! Two boxed structs, carried through calls. -/
def H2 (w w' : World) (k a : Int) (X : Nat) (v0 v1 v2 : Value) : Prop :=
  w'.cell? ⟨w.heap.size, 0, none⟩ = some (.int .i8 k) ∧ w'.cell? ⟨w.heap.size, 1, none⟩ = some (.int .i64 a) ∧ w'.cell? ⟨w.heap.size, 2, none⟩ = some (.int .u64 X) ∧
  w'.cell? ⟨w.heap.size + 1, 0, none⟩ = some v0 ∧ w'.cell? ⟨w.heap.size + 1, 1, none⟩ = some v1 ∧ w'.cell? ⟨w.heap.size + 1, 2, none⟩ = some v2 ∧
  w.heap.size + 1 < w'.heap.size ∧ Kp w w'
section
variable {w w1 w2 : World} {k a : Int} {X : Nat} {v0 v1 v2 : Value}
theorem H2.kp (h : H2 w w1 k a X v0 v1 v2) (g : Kp w1 w2) : H2 w w2 k a X v0 v1 v2 := by
  obtain ⟨h0, h1, h2, h3, h4, h5, hs, hk⟩ := h
  have hs' : w.heap.size < w1.heap.size := by omega
  exact ⟨(g.cell hs').trans h0, (g.cell hs').trans h1, (g.cell hs').trans h2, (g.cell hs).trans h3, (g.cell hs).trans h4, (g.cell hs).trans h5, Nat.lt_of_lt_of_le hs g.size, hk.trans g⟩
theorem H2.drew (h : H2 w w1 k a X v0 v1 v2) : H2 w w1.drew k a X v0 v1 v2 := h.kp (Kp.refl _).drew
theorem h2_new (w : World) (k a : Int) (X : Nat) (ys : Array Value) (t : TypeId) (h0 : ys[0]? = some v0) (h1 : ys[1]? = some v1) (h2 : ys[2]? = some v2) :
    H2 w ((w.alloc (.cells #[.int .i8 k, .int .i64 a, .int .u64 X] 25)).alloc (.cells ys t)) k a X v0 v1 v2 := by
  have b := (Blk.new w #[.int .i8 k, .int .i64 a, .int .u64 X] 25).alloc (.cells ys t)
  have c := Blk.new2 w (.cells #[.int .i8 k, .int .i64 a, .int .u64 X] 25) ys t
  exact ⟨b.cell 0, b.cell 1, b.cell 2, (c.cell 0).trans h0, (c.cell 1).trans h1, (c.cell 2).trans h2, c.lt, (kpA _ _ _).alloc _ _⟩
end
end Go.Proofs.Ytgchpicfhbhikaa
