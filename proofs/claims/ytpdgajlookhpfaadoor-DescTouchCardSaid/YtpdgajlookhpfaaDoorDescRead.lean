/-
  The contract of package desc's read, for every word, where the tables hold what the program's text lays. No condition.
-/
import Derived.Test.YtpdgajlookhpfaaDoorDesc
import Derived.Test.YtpdgajlookhpfaaDoorIdx
namespace Go.Proofs.YtpdgajlookhpfaaDoor
open Go Go.RowKit

def valsAt (x : BitVec 64) : Nat → Array Value
  | 0 => #[.int .u64 0, .int .u64 0, .int .u64 0, .int .u64 0, .int .u64 0]
  | 1 => #[.int .u64 (getB x 47 12).toNat, .int .u64 0, .int .u64 0, .int .u64 0, .int .u64 0]
  | 2 => #[.int .u64 (getB x 47 12).toNat, .int .u64 (getB x 6 6).toNat, .int .u64 0, .int .u64 0, .int .u64 0]
  | 3 => #[.int .u64 (getB x 47 12).toNat, .int .u64 (getB x 6 6).toNat, .int .u64 (getB x 7 7).toNat, .int .u64 0, .int .u64 0]
  | 4 => #[.int .u64 (getB x 47 12).toNat, .int .u64 (getB x 6 6).toNat, .int .u64 (getB x 7 7).toNat, .int .u64 (getB x 10 10).toNat, .int .u64 0]
  | _ => #[.int .u64 (getB x 47 12).toNat, .int .u64 (getB x 6 6).toNat, .int .u64 (getB x 7 7).toNat, .int .u64 (getB x 10 10).toNat, .int .u64 (getB x 11 11).toNat]
def noDesc : Array Value := #[.int .i8 0, .int .i64 0, .bool false, .bool false, .bool false, .bool false]
/-! What a word's fields are. -/
def frN (x : BitVec 64) : Nat := x.toNat / 4096 % 68719476736
def flg (x : BitVec 64) (j : Nat) : Bool := decide (x.toNat / 2 ^ j % 2 = 1)
theorem fr_num (x : BitVec 64) : wrap64 ((getB x 47 12).toNat : Int) = (frN x : Int) := by
  rw [getB_nat x 47 12 (by decide) (by decide)]
  unfold wrap64 frN
  omega
theorem flg_num (x : BitVec 64) (j : Nat) (h : j ≤ 63) : (((getB x j j).toNat : Int) == 1) = flg x j := by
  rw [getB_nat x j j (by omega) h, Nat.sub_self]
  unfold flg
  generalize x.toNat / 2 ^ j = q
  rw [Bool.eq_iff_iff]; simp
  omega
theorem TabsOk.spots {w : World} (h : TabsOk w) (i : Nat) (v : Value) (hv : spotsL[i]? = some v) : w.cell? ⟨1, i, none⟩ = some v := h.1.at i v hv
theorem spot_at (K : Int) (k : Nat) (e : K = (k : Int)) (hk : k < 5) (hi lo : Int) (h : [((47 : Int), (12 : Int)), (6, 6), (7, 7), (10, 10), (11, 11)][k]? = some (hi, lo)) (w : World) :
    (Instr.index 44 (.agg #[.int .i64 47, .int .i64 12, .int .i64 6, .int .i64 6, .int .i64 7, .int .i64 7, .int .i64 10, .int .i64 10, .int .i64 11, .int .i64 11]) (.int .i64 K)).run Tryd.prog w = .ok (.agg #[.int .i64 hi, .int .i64 lo]) w := by
  obtain rfl | rfl | rfl | rfl | rfl : k = 0 ∨ k = 1 ∨ k = 2 ∨ k = 3 ∨ k = 4 := by omega
  all_goals
    simp at h
    obtain ⟨rfl, rfl⟩ := h
    refine index_agg (s := 2) Tryd.underlying44 Tryd.underlying43 rfl (by kernel_rfl) _ _ e (by decide) ?_ w
    simp
theorem read_any (x : BitVec 64) (k : Int) (w : World) (hT : TabsOk w) :
    Calls Tryd.prog 18 #[.int .u64 x.toNat, .int .i8 k] w fun e w' => e = .returned (.agg #[.int .i8 k, .int .i64 (frN x), .bool (flg x 10), .bool (flg x 7), .bool (flg x 6), .bool (flg x 11)]) ∧ Kp w w' := by
  have hT2 : TabsOk ((w.alloc (.cells #[.int .i8 0, .int .i64 0, .bool false, .bool false, .bool false, .bool false] 24)).alloc (.cells #[.int .u64 0, .int .u64 0, .int .u64 0, .int .u64 0, .int .u64 0] 38)) := hT.kp (((Kp.refl _).alloc _ _).alloc _ _)
  have s0 := hT2.spots 0 _ rfl
  have s1 := hT2.spots 1 _ rfl
  have s2 := hT2.spots 2 _ rfl
  have s3 := hT2.spots 3 _ rfl
  have s4 := hT2.spots 4 _ rfl
  have s5 := hT2.spots 5 _ rfl
  have s6 := hT2.spots 6 _ rfl
  have s7 := hT2.spots 7 _ rfl
  have s8 := hT2.spots 8 _ rfl
  have s9 := hT2.spots 9 _ rfl
  clear hT2
  go_enter Tryd.func18, Tryd.ntmps18
  go_wp2
  go_loopw [9] (fun i wr => ∃ k : Nat, k ≤ 5 ∧ i = .int .i64 k ∧ Kp w wr ∧ Blk wr w.heap.size noDesc 24 ∧ Blk wr (w.heap.size + 1) (valsAt x k) 38) (fun i _ => 5 - (intOf i).toNat)
  case atStart => exact ⟨0, by omega, rfl, ((Kp.refl _).alloc _ _).alloc _ _, (Blk.new _ _ _).alloc _, Blk.new2 _ _ _ _⟩
  case round =>
    clear s0 s1 s2 s3 s4 s5 s6 s7 s8 s9
    obtain ⟨k, hk, rfl, hg, hB, hC⟩ := hrel
    by_cases h5 : k = 5
    · subst h5
      have c0 := hC.cell 0
      have c1 := hC.cell 1
      have c2 := hC.cell 2
      have c3 := hC.cell 3
      have c4 := hC.cell 4
      simp [valsAt] at c0 c1 c2 c3 c4
      have d0 := hB.cell 0
      have d1 := hB.cell 1
      have d2 := hB.cell 2
      have d3 := hB.cell 3
      have d4 := hB.cell 4
      have d5 := hB.cell 5
      simp [noDesc] at d0 d1 d2 d3 d4 d5
      have e0 := hB.frozen 0
      have e1 := hB.frozen 1
      have e2 := hB.frozen 2
      have e3 := hB.frozen 3
      have e4 := hB.frozen 4
      have e5 := hB.frozen 5
      have HG := Lib.hid hg; clear hg
      have HB := Lib.hid hB; clear hB
      clear hC hk
      go_wp2_with fail
      have B := (((((HB.out.set 0 (.int .i8 k)).set 1 (.int .i64 (wrap64 ((getB x 47 12).toNat : Int)))).set 2 (.bool (((getB x 10 10).toNat : Int) == 1))).set 3 (.bool (((getB x 7 7).toNat : Int) == 1))).set 4 (.bool (((getB x 6 6).toNat : Int) == 1))).set 5 (.bool (((getB x 11 11).toNat : Int) == 1))
      have B : Blk _ _ #[.int .i8 k, .int .i64 (wrap64 ((getB x 47 12).toNat : Int)), .bool (((getB x 10 10).toNat : Int) == 1), .bool (((getB x 7 7).toNat : Int) == 1), .bool (((getB x 6 6).toNat : Int) == 1), .bool (((getB x 11 11).toNat : Int) == 1)] _ := B
      refine bodyPost_ret (results_cell_row rfl _ _ _ _ _ _ _ rfl B Tryd.underlying24 rfl (by kernel_rfl)) rfl ?_
      refine ⟨?_, (((((HG.out.setCell (Nat.le_refl _) _).setCell (Nat.le_refl _) _).setCell (Nat.le_refl _) _).setCell (Nat.le_refl _) _).setCell (Nat.le_refl _) _).setCell (Nat.le_refl _) _⟩
      rw [fr_num, flg_num x 10 (by decide), flg_num x 7 (by decide), flg_num x 6 (by decide), flg_num x 11 (by decide)]
    · have HG := Lib.hid hg; clear hg
      have HB := Lib.hid hB; clear hB
      have HC := Lib.hid hC; clear hC
      obtain rfl | rfl | rfl | rfl | rfl : k = 0 ∨ k = 1 ∨ k = 2 ∨ k = 3 ∨ k = 4 := by omega
      · have ix := spot_at 0 0 rfl (by decide) _ _ rfl wr
        go_wp2_with fail
        refine (get_yes x 47 12 _ (by decide) (by decide)).mono ?_; rintro e w2 ⟨rfl, hg⟩
        have h2 := Kp.trans (((Kp.refl wr).alloc _ _)) hg
        have B2 := HB.out.kp h2
        have C2 := HC.out.kp h2
        have H2 := Lib.hid h2; clear h2 hg
        have c := C2.cell 0
        simp [valsAt] at c
        have z := C2.frozen 0
        have HB2 := Lib.hid B2; clear B2
        have HC2 := Lib.hid C2; clear C2
        go_wp2_with fail
        go_roundw
        case rel => exact ⟨1, by omega, by go_num, (HG.out.trans H2.out).setCell (Nat.le_succ _) _, HB2.out.other (by simp) _, HC2.out.set 0 _⟩
        case measure => simp [intOf]
      · have ix := spot_at 1 1 rfl (by decide) _ _ rfl wr
        go_wp2_with fail
        refine (get_yes x 6 6 _ (by decide) (by decide)).mono ?_; rintro e w2 ⟨rfl, hg⟩
        have h2 := Kp.trans (((Kp.refl wr).alloc _ _)) hg
        have B2 := HB.out.kp h2
        have C2 := HC.out.kp h2
        have H2 := Lib.hid h2; clear h2 hg
        have c := C2.cell 1
        simp [valsAt] at c
        have z := C2.frozen 1
        have HB2 := Lib.hid B2; clear B2
        have HC2 := Lib.hid C2; clear C2
        go_wp2_with fail
        go_roundw
        case rel => exact ⟨2, by omega, by go_num, (HG.out.trans H2.out).setCell (Nat.le_succ _) _, HB2.out.other (by simp) _, HC2.out.set 1 _⟩
        case measure => simp [intOf]
      · have ix := spot_at 2 2 rfl (by decide) _ _ rfl wr
        go_wp2_with fail
        refine (get_yes x 7 7 _ (by decide) (by decide)).mono ?_; rintro e w2 ⟨rfl, hg⟩
        have h2 := Kp.trans (((Kp.refl wr).alloc _ _)) hg
        have B2 := HB.out.kp h2
        have C2 := HC.out.kp h2
        have H2 := Lib.hid h2; clear h2 hg
        have c := C2.cell 2
        simp [valsAt] at c
        have z := C2.frozen 2
        have HB2 := Lib.hid B2; clear B2
        have HC2 := Lib.hid C2; clear C2
        go_wp2_with fail
        go_roundw
        case rel => exact ⟨3, by omega, by go_num, (HG.out.trans H2.out).setCell (Nat.le_succ _) _, HB2.out.other (by simp) _, HC2.out.set 2 _⟩
        case measure => simp [intOf]
      · have ix := spot_at 3 3 rfl (by decide) _ _ rfl wr
        go_wp2_with fail
        refine (get_yes x 10 10 _ (by decide) (by decide)).mono ?_; rintro e w2 ⟨rfl, hg⟩
        have h2 := Kp.trans (((Kp.refl wr).alloc _ _)) hg
        have B2 := HB.out.kp h2
        have C2 := HC.out.kp h2
        have H2 := Lib.hid h2; clear h2 hg
        have c := C2.cell 3
        simp [valsAt] at c
        have z := C2.frozen 3
        have HB2 := Lib.hid B2; clear B2
        have HC2 := Lib.hid C2; clear C2
        go_wp2_with fail
        go_roundw
        case rel => exact ⟨4, by omega, by go_num, (HG.out.trans H2.out).setCell (Nat.le_succ _) _, HB2.out.other (by simp) _, HC2.out.set 3 _⟩
        case measure => simp [intOf]
      · have ix := spot_at 4 4 rfl (by decide) _ _ rfl wr
        go_wp2_with fail
        refine (get_yes x 11 11 _ (by decide) (by decide)).mono ?_; rintro e w2 ⟨rfl, hg⟩
        have h2 := Kp.trans (((Kp.refl wr).alloc _ _)) hg
        have B2 := HB.out.kp h2
        have C2 := HC.out.kp h2
        have H2 := Lib.hid h2; clear h2 hg
        have c := C2.cell 4
        simp [valsAt] at c
        have z := C2.frozen 4
        have HB2 := Lib.hid B2; clear B2
        have HC2 := Lib.hid C2; clear C2
        go_wp2_with fail
        go_roundw
        case rel => exact ⟨5, by omega, by go_num, (HG.out.trans H2.out).setCell (Nat.le_succ _) _, HB2.out.other (by simp) _, HC2.out.set 4 _⟩
        case measure => simp [intOf]
end Go.Proofs.YtpdgajlookhpfaaDoor
