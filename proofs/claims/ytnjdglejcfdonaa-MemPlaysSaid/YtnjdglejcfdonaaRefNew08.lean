/-
  The document's memory: made, added to. No condition.
-/
import Derived.Test.YtnjdglejcfdonaaRefMem08
namespace Go.Proofs.Ytnjdglejcfdonaa
open Go Go.RowKit

theorem info_row : (Try.prog.info? 51).map (fun i => (i.zero, i.size, i.bytes)) = some (some (.slice none 0 0), 1, 24) := by kernel_rfl
theorem rowsA_new (n : Nat) : madeCells #[.slice none 0 0] n = rowsA (fun _ => none) n := by
  apply Array.ext'
  rw [toList_madeCells_one]
  apply List.ext_getElem?
  intro i
  by_cases h : i < n
  · simp [rowsA, rowV, h]
  · simp [rowsA, rowV, h]
theorem rnew_yes (n : Nat) (w : World) (h1 : 1 ≤ n) (h2 : n ≤ 64) :
    Calls Try.prog 9 #[.int .i64 n] w fun e w' => ∃ b S, e = .returned (.tuple #[.pointer (some ⟨b, 0, none⟩), .int .i64 0]) ∧ RMem w' S b n (fun _ _ => 0) ∧ (∀ k, S k → w.heap.size ≤ k) ∧ Kp w w' := by
  have hmk : ∀ w, (Instr.makeSlice 56 (.int .i64 n) (.int .i64 n)).run Try.prog w = .ok (.slice (some ⟨w.heap.size, 0, none⟩) n n) (w.alloc (.cells (madeCells #[.slice none 0 0] n) 51)) := run_make_row' (P := Try.prog) 56 51 _ 24 Try.underlying56 info_row rfl .i64 .i64 n (by omega) (by omega)
  have d1 : decide ((n : Int) < 1) = false := decide_eq_false (by omega)
  have d2 : decide ((64 : Int) < (n : Int)) = false := decide_eq_false (by omega)
  have H1 := Lib.hid h1
  have H2 := Lib.hid h2
  clear h1 h2
  go_enter Try.func9, Try.ntmps9
  go_wp2
  go_ret2
  have h2 := Blk.new2 w (.cells (madeCells #[.slice none 0 0] n) 51) #[.slice (some ⟨w.heap.size, 0, none⟩) n n] 58
  have h1 := (Blk.new w (madeCells #[.slice none 0 0] n) 51).alloc (.cells #[.slice (some ⟨w.heap.size, 0, none⟩) n n] 58)
  have ea := rowsA_new n
  generalize madeCells #[.slice none 0 0] n = A at h1 h2 ea ⊢
  subst ea
  refine ⟨w.heap.size + 1, _, rfl, ⟨w.heap.size, fun _ => none, ⟨h2, h1, fun _ _ _ _ _ e => (by cases e), fun _ _ _ _ _ _ _ _ _ e => (by cases e), fun _ _ _ _ _ => rfl, fun _ _ => by decide, by omega, H2.out⟩, rfl⟩, fun k hk => ?_, ((Kp.refl w).alloc _ _).alloc _ _⟩
  rcases hk with rfl | rfl | ⟨_, _, _, _, e⟩
  · omega
  · omega
  · cases e
theorem rnew_no (x : Int) (w : World) (h : x < 1 ∨ 64 < x) :
    Calls Try.prog 9 #[.int .i64 x] w fun e w' => e = .returned (.tuple #[.pointer none, .int .i64 2]) ∧ Kp w w' := by
  by_cases c : x < 1
  · have d1 : decide (x < 1) = true := decide_eq_true c
    go_enter Try.func9, Try.ntmps9
    go_wp2
    go_ret2
    exact ⟨rfl, Kp.refl w⟩
  · have d1 : decide (x < 1) = false := decide_eq_false c
    have d2 : decide (64 < x) = true := decide_eq_true (by omega)
    clear h
    go_enter Try.func9, Try.ntmps9
    go_wp2
    go_ret2
    exact ⟨rfl, Kp.refl w⟩
set_option maxRecDepth 20000 in
theorem radd_any (W X : Nat) (w : World) (S : Nat → Prop) (b n : Nat) (V : Nat → Nat → Nat) (h : RMem w S b n V) (hW : W < 18446744073709551616) :
    Calls Try.prog 21 #[.pointer (some ⟨b, 0, none⟩), .int .u64 W, .int .u64 X] w fun e w' => e = .returned (.tuple #[.int .u64 ((if W / 512 < n then V (W / 512) (W % 512) else 0 : Nat) : Int), .int .i64 (if W / 512 < n then 0 else 80)]) ∧
      ∃ S', RMem w' S' b n (if W / 512 < n then putV V (W / 512) (W % 512) ((V (W / 512) (W % 512) + X) % 18446744073709551616) else V) ∧ Grew w S S' ∧ Off S w w' := by
  have HR := Lib.hid (rread_any W w S b n V h hW)
  have HWr := Lib.hid (fun w1 (g : Kp w w1) => rwrite_any W ((V (W / 512) (W % 512) + X) % 18446744073709551616) w1 S b n V (h.kp g) hW (Nat.mod_lt _ (by decide)))
  have HH := Lib.hid h
  clear h hW
  have e3 : IntKind.u64.wrap ((V (W / 512) (W % 512) : Int) + (X : Int)) = (((V (W / 512) (W % 512) + X) % 18446744073709551616 : Nat) : Int) := by
    rw [show ∀ z, IntKind.u64.wrap z = z % 18446744073709551616 from IntKind.wrap_u64]
    omega
  by_cases c : W / 512 < n
  · rw [if_pos c, if_pos c, if_pos c]
    rw [if_pos c, if_pos c] at HR
    have HWr2 : Hid (∀ w1, Kp w w1 → Calls Try.prog 20 #[.pointer (some ⟨b, 0, none⟩), .int .u64 W, .int .u64 (((V (W / 512) (W % 512) + X) % 18446744073709551616 : Nat) : Int)] w1 fun e w' => e = .returned (.int .i64 0) ∧
      ∃ S', RMem w' S' b n (putV V (W / 512) (W % 512) ((V (W / 512) (W % 512) + X) % 18446744073709551616)) ∧ Grew w1 S S' ∧ Off S w1 w') := Lib.hid (fun w1 g => by have q := HWr.out w1 g; rw [if_pos c, if_pos c] at q; exact q)
    clear HWr c
    generalize W / 512 = f at *
    generalize W % 512 = p at *
    generalize (V f p + X) % 18446744073709551616 = Y at *
    generalize V f p = z at *
    go_enter Try.func21, Try.ntmps21
    go_wp2_with fail
    refine (HR.out).mono ?_; rintro e w1 ⟨rfl, hg⟩
    have H1 := Lib.hid hg; clear hg
    go_wp2_with fail
    refine (HWr2.out w1 H1.out).mono ?_; rintro e w2 ⟨rfl, S', r, g, o⟩
    have R := Lib.hid r
    have G := Lib.hid g
    have O := Lib.hid o
    clear r g o
    go_wp2
    go_ret2
    exact ⟨rfl, S', R.out, fun k hk => (G.out k hk).imp id (fun z => Nat.le_trans H1.out.size z), (Off.of_kp H1.out).trans O.out (Grew.refl _ _)⟩
  · rw [if_neg c, if_neg c, if_neg c]
    rw [if_neg c, if_neg c] at HR
    clear HWr c
    go_enter Try.func21, Try.ntmps21
    go_wp2_with fail
    refine (HR.out).mono ?_; rintro e w2 ⟨rfl, hg⟩
    have H2 := Lib.hid hg; clear hg
    go_wp2
    go_ret2
    exact ⟨rfl, S, HH.out.kp H2.out, Grew.refl _ _, Off.of_kp H2.out⟩
end Go.Proofs.Ytnjdglejcfdonaa
