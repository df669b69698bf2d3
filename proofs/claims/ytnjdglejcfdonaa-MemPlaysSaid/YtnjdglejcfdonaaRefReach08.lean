/-
  The document's memory: what an entry does. No condition.
-/
import Derived.Test.YtnjdglejcfdonaaRefNew08
namespace Go.Proofs.Ytnjdglejcfdonaa
open Go Go.RowKit

def entV (k W X fr fm : Int) : Array Value := #[.int .i8 k, .int .u64 W, .int .u64 X, .int .i64 fr, .int .i64 fm]
/-- The frame is there. -/
def okF (n : Nat) (x : Int) : Bool := decide (0 ≤ x) && decide (x < n)
theorem rreach_word (W X : Nat) (fr fm : Int) (w : World) (S : Nat → Prop) (b n : Nat) (V : Nat → Nat → Nat) (h : RMem w S b n V) (hW : W < 18446744073709551616) (hX : X < 18446744073709551616) :
    Calls Try.prog 22 #[.pointer (some ⟨b, 0, none⟩), .agg (entV 0 W X fr fm)] w fun e w' => e = .returned (.int .i64 (if W / 512 < n then 0 else 80)) ∧
      ∃ S', RMem w' S' b n (if W / 512 < n then putV V (W / 512) (W % 512) X else V) ∧ Grew w S S' ∧ Off S w w' := by
  have K1 : Kp w (w.alloc (.cells (entV 0 W X fr fm) 35)) := (Kp.refl w).alloc _ _
  have HWr := Lib.hid (rwrite_any W X _ S b n V (h.kp K1) hW hX)
  have HK := Lib.hid K1
  clear h hW hX K1
  generalize hr : (if W / 512 < n then putV V (W / 512) (W % 512) X else V) = U at *
  generalize hE : (if W / 512 < n then (0 : Int) else 80) = E at *
  unfold entV at HWr HK ⊢
  go_enter Try.func22, Try.ntmps22
  go_wp2_with fail
  refine HWr.out.mono ?_; rintro e w2 ⟨rfl, S', r, g, o⟩
  have R := Lib.hid r
  have G := Lib.hid g
  have O := Lib.hid o
  clear r g o
  go_wp2
  go_ret
  exact ⟨rfl, S', R.out, fun k hk => (G.out k hk).imp id (fun z => Nat.le_trans HK.out.size z), (Off.of_kp HK.out).trans O.out (Grew.refl _ _)⟩
theorem rreach_bar (W X fr fm : Int) (w : World) (S : Nat → Prop) (b n : Nat) (V : Nat → Nat → Nat) (h : RMem w S b n V) :
    Calls Try.prog 22 #[.pointer (some ⟨b, 0, none⟩), .agg (entV 1 W X fr fm)] w fun e w' => e = .returned (.int .i64 0) ∧ RMem w' S b n V ∧ Kp w w' := by
  have HH := Lib.hid h
  clear h
  unfold entV
  go_enter Try.func22, Try.ntmps22
  go_wp2
  go_ret
  have k := (Kp.refl w).alloc (entV 1 W X fr fm) 35
  exact ⟨rfl, HH.out.kp k, k⟩
theorem rreach_bad (k W X fr fm : Int) (w : World) (S : Nat → Prop) (b n : Nat) (V : Nat → Nat → Nat) (h : RMem w S b n V) (h0 : k ≠ 0) (h1 : k ≠ 1) (h2 : k ≠ 2) (h3 : k ≠ 3) :
    Calls Try.prog 22 #[.pointer (some ⟨b, 0, none⟩), .agg (entV k W X fr fm)] w fun e w' => e = .returned (.int .i64 2) ∧ RMem w' S b n V ∧ Kp w w' := by
  have HH := Lib.hid h
  clear h
  have d0 : (k == 0) = false := by simp [h0]
  have d1 : (k == 1) = false := by simp [h1]
  have d2 : (k == 2) = false := by simp [h2]
  have d3 : (k == 3) = false := by simp [h3]
  unfold entV
  go_enter Try.func22, Try.ntmps22
  go_wp2
  go_ret
  have g := (Kp.refl w).alloc (entV k W X fr fm) 35
  exact ⟨rfl, HH.out.kp g, g⟩
theorem rreach_zero_no (W X fr fm : Int) (w : World) (S : Nat → Prop) (b n : Nat) (V : Nat → Nat → Nat) (h : RMem w S b n V) (hf : okF n fm = false) :
    Calls Try.prog 22 #[.pointer (some ⟨b, 0, none⟩), .agg (entV 2 W X fr fm)] w fun e w' => e = .returned (.int .i64 80) ∧ RMem w' S b n V ∧ Kp w w' := by
  have K1 : Kp w (w.alloc (.cells (entV 2 W X fr fm) 35)) := (Kp.refl w).alloc _ _
  have HH := Lib.hid h
  obtain ⟨lb, L, h, hS⟩ := h
  have HC := Lib.hid (rframe_any fm _ b lb n L V (h.kp K1))
  unfold okF at hf
  rw [hf] at HC
  have HK := Lib.hid K1
  clear h hS hf K1
  unfold entV at HC HK ⊢
  go_enter Try.func22, Try.ntmps22
  go_wp2_with fail
  refine (HC.out).mono ?_; rintro e w1 ⟨rfl, hg⟩
  have H1 := Lib.hid hg; clear hg
  go_wp2
  go_ret
  exact ⟨rfl, HH.out.kp (HK.out.trans H1.out), HK.out.trans H1.out⟩
theorem rreach_zero (W X fr : Int) (f : Nat) (w : World) (S : Nat → Prop) (b n : Nat) (V : Nat → Nat → Nat) (h : RMem w S b n V) (hf : f < n) :
    Calls Try.prog 22 #[.pointer (some ⟨b, 0, none⟩), .agg (entV 2 W X fr f)] w fun e w' => e = .returned (.int .i64 0) ∧ ∃ S', RMem w' S' b n (setF V f fun _ => 0) ∧ Grew w S S' ∧ Off S w w' := by
  have K1 : Kp w (w.alloc (.cells (entV 2 W X fr f) 35)) := (Kp.refl w).alloc _ _
  obtain ⟨lb, L, h, rfl⟩ := h
  have HC := Lib.hid (rframe_any f _ b lb n L V (h.kp K1))
  have hok : (decide (0 ≤ (f : Int)) && decide ((f : Int) < n)) = true := by simp; omega
  rw [hok] at HC
  have B := Lib.hid (Blk.new w (entV 2 W X fr f) 35)
  have HK := Lib.hid K1
  have HH := Lib.hid h
  have HF := Lib.hid hf
  clear h hok K1
  unfold entV at HC HK B ⊢
  go_enter Try.func22, Try.ntmps22
  go_wp2_with fail
  refine (HC.out).mono ?_; rintro e w1 ⟨rfl, hg⟩
  have H1 := Lib.hid hg; clear hg
  have HR := Lib.hid (HH.out.kp (HK.out.trans H1.out))
  have d0 := HR.out.hb.cell 0
  have d1 := (HR.out.hl.cell f).trans (rowsA_at L n f HF.out)
  have d2 := HR.out.hl.frozen f
  have d3 := (B.out.kp H1.out).cell 4
  go_wp2_with fail
  go_region
  go_wp2
  go_ret
  have R0 := HR.out.setRow HF.out none (fun _ => 0) (fun _ _ => rfl) (fun _ => by decide)
  exact ⟨rfl, _, ⟨lb, _, R0.same (by simp) (fun _ _ => rfl), rfl⟩, fun k hk => .inl ((feet_setL hk).elim id (fun ⟨_, _, e⟩ => by cases e)), ((Off.of_kp (HK.out.trans H1.out)).setCell (p := ⟨lb, f, none⟩) (.inl (.inr (.inl rfl))) _).drew⟩
theorem rreach_copy_no (W X fr fm : Int) (w : World) (S : Nat → Prop) (b n : Nat) (V : Nat → Nat → Nat) (h : RMem w S b n V) (hf : okF n fm = false ∨ okF n fr = false) :
    Calls Try.prog 22 #[.pointer (some ⟨b, 0, none⟩), .agg (entV 3 W X fr fm)] w fun e w' => e = .returned (.int .i64 80) ∧ RMem w' S b n V ∧ Kp w w' := by
  have K1 : Kp w (w.alloc (.cells (entV 3 W X fr fm) 35)) := (Kp.refl w).alloc _ _
  have HH := Lib.hid h
  obtain ⟨lb, L, h, hS⟩ := h
  have HC := Lib.hid (rframe_any fm _ b lb n L V (h.kp K1))
  have HD : Hid (∀ w1, Kp w w1 → Calls Try.prog 26 #[.pointer (some ⟨b, 0, none⟩), .int .i64 fr] w1 fun e w' => e = .returned (.bool (okF n fr)) ∧ Kp w1 w') := Lib.hid (fun w1 g => rframe_any fr w1 b lb n L V (h.kp g))
  have HC' : Hid (Calls Try.prog 26 #[.pointer (some ⟨b, 0, none⟩), .int .i64 fm] _ fun e w' => e = .returned (.bool (okF n fm)) ∧ Kp _ w') := HC
  clear HC
  have B := Lib.hid (Blk.new w (entV 3 W X fr fm) 35)
  have HK := Lib.hid K1
  clear h hS K1
  by_cases c : okF n fm = false
  · rw [c] at HC'
    clear hf c HD B
    unfold entV at HC' HK ⊢
    go_enter Try.func22, Try.ntmps22
    go_wp2_with fail
    refine (HC'.out).mono ?_; rintro e w1 ⟨rfl, hg⟩
    have H1 := Lib.hid hg; clear hg
    go_wp2
    go_ret
    exact ⟨rfl, HH.out.kp (HK.out.trans H1.out), HK.out.trans H1.out⟩
  · have c2 : okF n fr = false := hf.resolve_left c
    have c1 : okF n fm = true := by simpa using c
    rw [c1] at HC'
    rw [c2] at HD
    clear hf c c1 c2
    unfold entV at HC' HK B ⊢
    go_enter Try.func22, Try.ntmps22
    go_wp2_with fail
    refine (HC'.out).mono ?_; rintro e w2 ⟨rfl, hg⟩
    have H2 := Lib.hid hg; clear hg
    have d3 := (B.out.kp H2.out).cell 3
    go_wp2_with fail
    refine (HD.out w2 (HK.out.trans H2.out)).mono ?_; rintro e w3 ⟨rfl, hg⟩
    have H3 := Lib.hid hg; clear hg
    go_wp2
    go_ret
    exact ⟨rfl, HH.out.kp ((HK.out.trans H2.out).trans H3.out), (HK.out.trans H2.out).trans H3.out⟩
end Go.Proofs.Ytnjdglejcfdonaa
