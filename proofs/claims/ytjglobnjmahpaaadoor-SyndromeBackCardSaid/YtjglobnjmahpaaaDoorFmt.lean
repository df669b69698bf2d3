/-
  The contracts of the library's FormatUint in base 16 and of its Itoa at 0 to 3, where its table holds what its text lays. No condition.
-/
import Derived.Test.YtjglobnjmahpaaaDoorHexRef
import Derived.Test.YtjglobnjmahpaaaDoorSynWord
import Derived.Laws.IdiomStrings
import Derived.KernelRfl
namespace Go.Proofs.YtjglobnjmahpaaaDoor
open Go Go.RowKit

def Bru (w : World) : Prop := w.cell? ⟨3, 15, none⟩ = some (.int .u8 4)
theorem tz64_16 (w : World) (h : Bru w) :
    Calls Tryd.prog 48 #[.int .u64 16] w fun e w' => e = .returned (.int .i64 4) ∧ w = w' := by
  unfold Bru at h
  have e1 : bits BinOp.and IntKind.u64 16 (IntKind.u64.wrap (-16)) = 16 := by decide
  have e2 : IntKind.u64.wrap (16 * 285870213051353865) / 288230376151711744 = 15 := by decide
  go_enter Tryd.func48, Tryd.ntmps48
  go_wp2
  go_ret
  exact ⟨rfl, rfl⟩
theorem tz_16 (w : World) (h : Bru w) :
    Calls Tryd.prog 46 #[.int .u64 16] w fun e w' => e = .returned (.int .i64 4) ∧ w = w' := by
  have H := Lib.hid h; clear h
  go_enter Tryd.func46, Tryd.ntmps46
  go_wp2_with fail
  refine (tz64_16 _ H.out).mono ?_; rintro e w1 ⟨rfl, rfl⟩
  go_wp2
  go_ret
  exact ⟨rfl, rfl⟩
theorem pow2_16 (w : World) :
    Calls Tryd.prog 45 #[.int .i64 16] w fun e w' => e = .returned (.bool true) ∧ w = w' := by
  go_enter Tryd.func45, Tryd.ntmps45
  go_wp2
  go_ret
  exact ⟨rfl, rfl⟩

/-! The digits, written from behind. -/
def FI (u base : Nat) (wr : World) (j X : Nat) : Prop :=
  ∃ (low : List UInt8) (cs : Array Value), low.length = j ∧ hexL u = hexL X ++ low ∧ cs.size = 65 ∧ (∀ m (h : m < low.length), cs[65 - j + m]? = some (.int .u8 (low[m].toNat))) ∧ Blk wr base cs 75
theorem hexL_pos (n : Nat) : 1 ≤ (hexL n).length := by
  by_cases c : n < 16
  · rw [hexL_low c]; simp
  · rw [hexL_more c]; simp
theorem FI.bound {u base : Nat} {wr : World} {j X : Nat} (h : FI u base wr j X) (hu : u < 18446744073709551616) : j ≤ 15 := by
  obtain ⟨low, cs, hl, hx, -⟩ := h
  have h1 := hexL_16 u hu
  have h2 := hexL_pos X
  rw [hx, List.length_append] at h1
  omega
theorem FI.blk {u base : Nat} {wr : World} {j X : Nat} (h : FI u base wr j X) (hj : j < 65) : (∃ v, wr.cell? ⟨base, 64 - j, none⟩ = some v) ∧ wr.frozen? ⟨base, 64 - j, none⟩ = false := by
  obtain ⟨low, cs, hl, hx, hs, hc, hb⟩ := h
  refine ⟨?_, hb.frozen _⟩
  rw [hb.cell]
  exact ⟨cs[64 - j]'(by omega), Array.getElem?_eq_getElem _⟩
theorem FI.put {cs : Array Value} {low : List UInt8} {j : Nat} (d : UInt8) (hl : low.length = j) (hj : j < 65) (hs : cs.size = 65) (hc : ∀ m (h : m < low.length), cs[65 - j + m]? = some (.int .u8 (low[m].toNat))) :
    ∀ m (h : m < (d :: low).length), (cs.setIfInBounds (64 - j) (.int .u8 d.toNat))[65 - (j + 1) + m]? = some (.int .u8 ((d :: low)[m].toNat)) := by
  intro m h
  rw [Array.getElem?_setIfInBounds]
  cases m with
  | zero => rw [if_pos (by omega), if_pos (by omega)]; rfl
  | succ m =>
    rw [if_neg (by omega), show 65 - (j + 1) + (m + 1) = 65 - j + m by omega]
    exact hc m (by simpa using h)
theorem FI.next {u base : Nat} {wr : World} {j X : Nat} (h : FI u base wr j X) (hj : j < 64) (hX : ¬ X < 16) : FI u base (wr.setCell ⟨base, 64 - j, none⟩ (.int .u8 (digU (X % 16)).toNat)) (j + 1) (X / 16) := by
  obtain ⟨low, cs, hl, hx, hs, hc, hb⟩ := h
  refine ⟨digU (X % 16) :: low, cs.setIfInBounds (64 - j) (.int .u8 (digU (X % 16)).toNat), by simp [hl], ?_, by simpa using hs, FI.put _ hl (by omega) hs hc, hb.set _ _⟩
  rw [hx, hexL_more hX]; simp
theorem FI.last {u base : Nat} {wr : World} {j X : Nat} (h : FI u base wr j X) (hj : j < 64) (hX : X < 16) :
    (hexL u).length = j + 1 ∧ ∀ i (hi : i < (hexL u).length), (wr.setCell ⟨base, 64 - j, none⟩ (.int .u8 (digU X).toNat)).cell? ((⟨base, 64 - j, none⟩ : Addr).add i) = some (.int .u8 ((hexL u)[i].toNat : Int)) := by
  obtain ⟨low, cs, hl, hx, hs, hc, hb⟩ := h
  rw [hexL_low hX] at hx
  have e : hexL u = digU X :: low := by rw [hx]; rfl
  refine ⟨by rw [e]; simp [hl], ?_⟩
  intro i hi
  have ea : (⟨base, 64 - j, none⟩ : Addr).add i = ⟨base, 64 - j + i, none⟩ := by unfold Addr.add; split <;> simp_all
  rw [ea, (hb.set (64 - j) _).cell]
  have := FI.put (digU X) hl (by omega) hs hc i (by rw [← e]; exact hi)
  rw [show 65 - (j + 1) + i = 64 - j + i by omega] at this
  rw [this]
  simp [e]
theorem digit_at (d : Nat) (hd : d < 16) (w : World) :
    (Instr.index 9 (.string { data := #[48, 49, 50, 51, 52, 53, 54, 55, 56, 57, 97, 98, 99, 100, 101, 102, 103, 104, 105, 106, 107, 108, 109, 110, 111, 112, 113, 114, 115, 116, 117, 118, 119, 120, 121, 122] }) (.int .u64 (d : Int))).run Tryd.prog w = .ok (.int .u8 (digU d).toNat) w := by
  obtain rfl | rfl | rfl | rfl | rfl | rfl | rfl | rfl | rfl | rfl | rfl | rfl | rfl | rfl | rfl | rfl : d = 0 ∨ d = 1 ∨ d = 2 ∨ d = 3 ∨ d = 4 ∨ d = 5 ∨ d = 6 ∨ d = 7 ∨ d = 8 ∨ d = 9 ∨ d = 10 ∨ d = 11 ∨ d = 12 ∨ d = 13 ∨ d = 14 ∨ d = 15 := by omega
  all_goals
    rfl
theorem dig_eq (d : Nat) (hd : d < 16) (h : d < ByteArray.size { data := #[48, 49, 50, 51, 52, 53, 54, 55, 56, 57, 97, 98, 99, 100, 101, 102, 103, 104, 105, 106, 107, 108, 109, 110, 111, 112, 113, 114, 115, 116, 117, 118, 119, 120, 121, 122] }) :
    (ByteArray.mk #[48, 49, 50, 51, 52, 53, 54, 55, 56, 57, 97, 98, 99, 100, 101, 102, 103, 104, 105, 106, 107, 108, 109, 110, 111, 112, 113, 114, 115, 116, 117, 118, 119, 120, 121, 122])[d]'h = digU d := by
  obtain rfl | rfl | rfl | rfl | rfl | rfl | rfl | rfl | rfl | rfl | rfl | rfl | rfl | rfl | rfl | rfl : d = 0 ∨ d = 1 ∨ d = 2 ∨ d = 3 ∨ d = 4 ∨ d = 5 ∨ d = 6 ∨ d = 7 ∨ d = 8 ∨ d = 9 ∨ d = 10 ∨ d = 11 ∨ d = 12 ∨ d = 13 ∨ d = 14 ∨ d = 15 := by omega
  all_goals
    rfl
theorem and15 (n : Nat) (h : n < 18446744073709551616) : bits BinOp.and IntKind.u64 (n : Int) 15 = ((n % 16 : Nat) : Int) := by
  have := bv_and (BitVec.ofNat 64 n) 15#64
  rw [BitVec.toNat_ofNat, Nat.mod_eq_of_lt h] at this
  have e : (((15#64).toNat : Nat) : Int) = 15 := rfl
  rw [e] at this
  rw [this, BitVec.toNat_and, BitVec.toNat_ofNat, Nat.mod_eq_of_lt h]
  have : n &&& 15 = n % 16 := Nat.and_two_pow_sub_one_eq_mod n 4
  exact congrArg _ this
theorem zero65 : ∃ cs : Array Value, cs.size = 65 ∧ ∀ w, (zeroValue 75).run Tryd.prog w = .ok (.agg cs) w := ⟨Array.replicate 65 (.int .u8 0), by simp, fun w => by kernel_rfl⟩
set_option maxHeartbeats 2000000 in
theorem fbits_any (u : Nat) (w : World) (hu : u < 18446744073709551616) (hB : Bru w) :
    Calls Tryd.prog 38 #[.slice none 0 0, .int .u64 u, .int .i64 16, .bool false, .bool false] w fun e w' => e = .returned (.tuple #[.slice none 0 0, .string (strB (hexL u))]) ∧ Kp w w' := by
  have HB := Lib.hid hB; clear hB
  have HU := Lib.hid hu; clear hu
  obtain ⟨cs, hcs, hz⟩ := zero65
  have HZ := Lib.hid hcs; clear hcs
  go_enter Tryd.func38, Tryd.ntmps38
  go_wp2_with fail
  refine (pow2_16 _).mono ?_; rintro e w1 ⟨rfl, rfl⟩
  go_wp2_with fail
  refine (tz_16 _ ((kpA _ _ _).cell (lt_of_cell HB.out) |>.trans HB.out)).mono ?_; rintro e w2 ⟨rfl, rfl⟩
  have hF : FI u w.heap.size (w.alloc (.cells cs 75)) 0 u := ⟨[], cs, rfl, by simp, HZ.out, fun m h => absurd h (by simp), Blk.new _ _ _⟩
  have HF := Lib.hid hF; clear hF hz
  go_wp2
  go_loopw [1, 13] (fun x i wr => ∃ j I X : Nat, I + j = 64 ∧ X < 18446744073709551616 ∧ x = .int .u64 X ∧ i = .int .i64 ((I : Int) + 1) ∧ FI u w.heap.size wr j X ∧ Kp w wr) (fun x _ _ => (intOf x).toNat)
  case atStart => exact ⟨0, 64, u, rfl, HU.out, rfl, rfl, HF.out, kpA _ _ _⟩
  case round =>
    obtain ⟨j, I, X, hI, hX, rfl, rfl, hf, hk⟩ := hrel
    have hj := hf.bound HU.out
    obtain ⟨⟨v, hv⟩, hfr⟩ := hf.blk (by omega)
    have eI : 64 - j = I := by omega
    rw [eI] at hv hfr
    have hb := hk.size
    have hlt : w.heap.size < wr.heap.size := lt_of_cell hv
    have i0 : (0 : Int) ≤ (I : Int) := by omega
    have i1 : (I : Int) < 65 := by omega
    have i2 : (I : Int) ≤ 65 := by omega
    have HK := Lib.hid hk
    by_cases c : X < 16
    · have hL := hf.last (by omega) c
      rw [eI] at hL
      have hconv := run_convert_bytes_back (P := Tryd.prog) (wr.setCell ⟨w.heap.size, I, none⟩ (.int .u8 (digU X).toNat)) 66 9 5 ⟨w.heap.size, I, none⟩ (65 - I) (hexL u) Tryd.underlying66 Tryd.underlying5 Tryd.underlying9 hL.2
      rw [hL.1, show j + 1 = 65 - I by omega] at hconv
      clear hL
      have hconv : _ = Result.ok (Value.string (strB (hexL u))) _ := hconv
      have hd := digit_at X c
      have x1 : (X : Int) < 16 := by omega
      clear hf hk eI hX
      go_wp2_with fail
      go_ret2
      exact ⟨rfl, HK.out.setCell (Nat.le_refl _) _⟩
    · have hN := hf.next (by omega) c
      rw [eI] at hN
      have HN := Lib.hid hN; clear hN
      have hd := digit_at (X % 16) (by omega)
      have ha := and15 X hX
      have x1 : 16 ≤ (X : Int) := by omega
      have HX : Hid (X < 18446744073709551616) := Lib.hid hX
      have HC := Lib.hid c
      have HI := Lib.hid hI
      have HJ := Lib.hid hj
      obtain ⟨Y, hY⟩ : ∃ Y : Int, (X : Int) = Y := ⟨_, rfl⟩
      rw [hY] at ha x1 ⊢
      have x2 : Y < 18446744073709551616 := by omega
      have HY := Lib.hid hY
      clear hf hk eI hX c hI hj hY
      go_wp2_with fail
      go_roundw
      case rel => exact ⟨j + 1, I - 1, X / 16, by have := HI.out; have := HJ.out; omega, by have := HX.out; omega, by rw [← HY.out]; rfl, by have := HI.out; have := HJ.out; congr 1; omega, by rw [dig_eq _ (Nat.mod_lt _ (by decide))]; exact HN.out, HK.out.setCell (Nat.le_refl _) _⟩
      case measure => have := HC.out; simp [intOf]; omega
theorem fuint_int (u : Nat) (w : World) (hu : u < 18446744073709551616) (hB : Bru w) :
    Calls Tryd.prog 28 #[.int .u64 u, .int .i64 16] w fun e w' => e = .returned (.string (strB (hexL u))) ∧ Kp w w' := by
  have HB := Lib.hid hB; clear hB
  have HU := Lib.hid hu; clear hu
  go_enter Tryd.func28, Tryd.ntmps28
  go_wp2_with fail
  refine (fbits_any _ _ HU.out HB.out).mono ?_; rintro e w1 ⟨rfl, hg⟩
  have H1 := Lib.hid hg; clear hg
  go_wp2
  go_ret
  exact ⟨rfl, (by (repeat (first | apply Kp.drew | apply Kp.alloc)); refine Kp.trans ?_ H1.out; (repeat (first | apply Kp.drew | apply Kp.alloc)); exact Kp.refl _)⟩
theorem fuint_any (u : Nat) (w : World) (hu : u < 18446744073709551616) (hB : Bru w) :
    Calls Tryd.prog 19 #[.int .u64 u, .int .i64 16] w fun e w' => e = .returned (.string (strB (hexL u))) ∧ Kp w w' := by
  have HB := Lib.hid hB; clear hB
  have HU := Lib.hid hu; clear hu
  go_enter Tryd.func19, Tryd.ntmps19
  go_wp2_with fail
  refine (fuint_int _ _ HU.out HB.out).mono ?_; rintro e w1 ⟨rfl, hg⟩
  have H1 := Lib.hid hg; clear hg
  go_wp2
  go_ret
  exact ⟨rfl, (by (repeat (first | apply Kp.drew | apply Kp.alloc)); refine Kp.trans ?_ H1.out; (repeat (first | apply Kp.drew | apply Kp.alloc)); exact Kp.refl _)⟩
theorem Bru.kp {w w' : World} (h : Bru w) (g : Kp w w') : Bru w' := (g.cell (lt_of_cell h)).trans h

theorem small_any (l : Nat) (w : World) (hl : l ≤ 3) :
    Calls Tryd.prog 35 #[.int .i64 l] w fun e w' => e = .returned (.string (strB (hexL l))) ∧ w = w' := by
  rw [hexL_low (by omega)]
  obtain rfl | rfl | rfl | rfl : l = 0 ∨ l = 1 ∨ l = 2 ∨ l = 3 := by omega
  all_goals
    go_enter Tryd.func35, Tryd.ntmps35
    go_wp2
    go_ret
    exact ⟨rfl, rfl⟩
theorem fint_any (l : Nat) (w : World) (hl : l ≤ 3) :
    Calls Tryd.prog 41 #[.int .i64 l, .int .i64 10] w fun e w' => e = .returned (.string (strB (hexL l))) ∧ w = w' := by
  have h0 : (0 : Int) ≤ (l : Int) := by omega
  have h1 : (l : Int) ≤ 3 := by omega
  have HL := Lib.hid hl; clear hl
  go_enter Tryd.func41, Tryd.ntmps41
  go_wp2_with fail
  refine (small_any _ _ HL.out).mono ?_; rintro e w1 ⟨rfl, rfl⟩
  go_wp2
  go_ret
  exact ⟨rfl, rfl⟩
theorem itoa_int (l : Nat) (w : World) (hl : l ≤ 3) :
    Calls Tryd.prog 34 #[.int .i64 l] w fun e w' => e = .returned (.string (strB (hexL l))) ∧ w = w' := by
  go_enter Tryd.func34, Tryd.ntmps34
  go_wp2_with fail
  refine (fint_any _ _ hl).mono ?_; rintro e w1 ⟨rfl, rfl⟩
  go_wp2
  go_ret
  exact ⟨rfl, rfl⟩
theorem itoa_any (l : Nat) (w : World) (hl : l ≤ 3) :
    Calls Tryd.prog 27 #[.int .i64 l] w fun e w' => e = .returned (.string (strB (hexL l))) ∧ w = w' := by
  go_enter Tryd.func27, Tryd.ntmps27
  go_wp2_with fail
  refine (itoa_int _ _ hl).mono ?_; rintro e w1 ⟨rfl, rfl⟩
  go_wp2
  go_ret
  exact ⟨rfl, rfl⟩
end Go.Proofs.YtjglobnjmahpaaaDoor
