/-
  An entry reaches the document's memory; two memories side by side, in blocks apart. No condition.
-/
import Derived.Test.YtnjdglejcfdonaaPWords08
namespace Go.Proofs.Ytnjdglejcfdonaa
open Go Go.RowKit Go.Maps

theorem rof_kp {w w' : World} {S : Nat → Prop} {b n : Nat} {V : Nat → Nat → Nat} (h : RMem w S b n V) (g : Kp w w') : ∃ S', RMem w' S' b n V ∧ Grew w S S' ∧ Off S w w' := ⟨S, h.kp g, Grew.refl _ _, Off.of_kp g⟩
theorem rreach_any (k : Int) (W X : Nat) (fr fm : Int) (w : World) (S : Nat → Prop) (b n : Nat) (V : Nat → Nat → Nat) (h : RMem w S b n V) (hW : W < 18446744073709551616) (hX : X < 18446744073709551616) :
    Calls Try.prog 22 #[.pointer (some ⟨b, 0, none⟩), .agg (entV k W X fr fm)] w fun e w' => e = .returned (.int .i64 (rE n k W fr fm)) ∧ ∃ S', RMem w' S' b n (rV n V k W X fr fm) ∧ Grew w S S' ∧ Off S w w' := by
  unfold rE rV
  by_cases c0 : k = 0
  · subst c0
    rw [if_pos rfl, if_pos rfl]
    exact rreach_word W X fr fm w S b n V h hW hX
  rw [if_neg c0, if_neg c0]
  by_cases c1 : k = 1
  · subst c1
    rw [if_pos rfl, if_pos rfl]
    exact (rreach_bar _ _ _ _ w S b n V h).mono fun _ _ q => ⟨q.1, rof_kp h q.2.2⟩
  rw [if_neg c1, if_neg c1]
  by_cases c2 : k = 2
  · subst c2
    rw [if_pos rfl, if_pos rfl]
    by_cases d : okF n fm = true
    · rw [if_pos d, if_pos d]
      obtain ⟨f, rfl, hf, e⟩ := okF_nat d
      rw [e]
      exact rreach_zero _ _ _ f w S b n V h hf
    · rw [if_neg d, if_neg d]
      exact (rreach_zero_no _ _ _ fm w S b n V h (by simpa using d)).mono fun _ _ q => ⟨q.1, rof_kp h q.2.2⟩
  rw [if_neg c2, if_neg c2]
  by_cases c3 : k = 3
  · subst c3
    rw [if_pos rfl, if_pos rfl]
    by_cases d : okF n fm = true ∧ okF n fr = true
    · rw [if_pos d, if_pos d]
      obtain ⟨f, rfl, hf, e⟩ := okF_nat d.1
      obtain ⟨r, rfl, hr, e'⟩ := okF_nat d.2
      rw [e, e']
      exact rreach_copy _ _ r f w S b n V h hf hr
    · rw [if_neg d, if_neg d]
      refine (rreach_copy_no _ _ fr fm w S b n V h ?_).mono fun _ _ q => ⟨q.1, rof_kp h q.2.2⟩
      by_cases a : okF n fm = true
      · exact .inr (by simpa using fun q => d ⟨a, q⟩)
      · exact .inl (by simpa using a)
  rw [if_neg c3, if_neg c3]
  exact (rreach_bad k _ _ fr fm w S b n V h c0 c1 c2 c3).mono fun _ _ q => ⟨q.1, rof_kp h q.2.2⟩

/-! Two memories, in blocks apart. -/
abbrev MemP := World → (Nat → Prop) → Prop
structure Stable (P : MemP) : Prop where
  lt : ∀ {w T}, P w T → ∀ k, T k → k < w.heap.size
  off : ∀ {w w' T U}, P w T → Off U w w' → (∀ k, T k → ¬ U k) → P w' T
theorem Stable.kp {P : MemP} (s : Stable P) {w w' : World} {T : Nat → Prop} (h : P w T) (g : Kp w w') : P w' T := s.off h (Off.of_kp (S := fun _ => False) g) (fun _ _ q => q)
theorem pm_stable (b n : Nat) (V : Nat → Nat → Nat) : Stable fun w T => PMem w T b n V := ⟨fun h _ hk => PMem.lt h hk, fun h g d => PMem.off h g d⟩
theorem rm_stable (b n : Nat) (V : Nat → Nat → Nat) : Stable fun w T => RMem w T b n V := ⟨fun h _ hk => RMem.lt h hk, fun h g d => RMem.off h g d⟩
def Two (P Q : MemP) (S1 S2 : Nat → Prop) (wb w : World) : Prop := ∃ T1 T2, P w T1 ∧ Q w T2 ∧ (∀ k, T1 k → ¬ T2 k) ∧ Grew wb S1 T1 ∧ Grew wb S2 T2 ∧ Off (fun k => S1 k ∨ S2 k) wb w
theorem Two.size {P Q : MemP} {S1 S2 : Nat → Prop} {wb w : World} (h : Two P Q S1 S2 wb w) : wb.heap.size ≤ w.heap.size := by
  obtain ⟨_, _, _, _, _, _, _, o⟩ := h; exact o.size
theorem Two.kp {P Q : MemP} {S1 S2 : Nat → Prop} {wb w w' : World} (h : Two P Q S1 S2 wb w) (sP : Stable P) (sQ : Stable Q) (g : Kp w w') : Two P Q S1 S2 wb w' := by
  obtain ⟨T1, T2, p, q, d, g1, g2, o⟩ := h
  exact ⟨T1, T2, sP.kp p g, sQ.kp q g, d, g1, g2, o.trans (Off.of_kp g) (Grew.refl _ _)⟩
/-- What a call on the first leaves. -/
theorem Two.fst {P P' Q : MemP} {S1 S2 : Nat → Prop} {wb w : World} (h : Two P Q S1 S2 wb w) (sQ : Stable Q) : ∃ T1, P w T1 ∧ ∀ w', (∃ T', P' w' T' ∧ Grew w T1 T' ∧ Off T1 w w') → Two P' Q S1 S2 wb w' := by
  obtain ⟨T1, T2, p, q, d, g1, g2, o⟩ := h
  refine ⟨T1, p, fun w' ⟨T', p', g, o'⟩ => ⟨T', T2, p', sQ.off q o' (fun k h2 h1 => d k h1 h2), fun k h' h2 => ?_, fun k h' => ?_, g2, o.trans o' (fun k hk => ?_)⟩⟩
  · rcases g k h' with h1 | h1
    · exact d k h1 h2
    · have := sQ.lt q k h2; omega
  · rcases g k h' with h1 | h1
    · exact g1 k h1
    · exact .inr (Nat.le_trans o.size h1)
  · exact (g1 k hk).imp .inl id
theorem Two.symm {P Q : MemP} {S1 S2 : Nat → Prop} {wb w : World} (h : Two P Q S1 S2 wb w) : Two Q P S2 S1 wb w := by
  obtain ⟨T1, T2, p, q, d, g1, g2, o⟩ := h
  refine ⟨T2, T1, q, p, fun k h2 h1 => d k h1 h2, g2, g1, ?_⟩
  have e : (fun k => S2 k ∨ S1 k) = (fun k => S1 k ∨ S2 k) := by funext k; exact propext or_comm
  rw [e]; exact o
theorem Two.snd {P Q Q' : MemP} {S1 S2 : Nat → Prop} {wb w : World} (h : Two P Q S1 S2 wb w) (sP : Stable P) : ∃ T2, Q w T2 ∧ ∀ w', (∃ T', Q' w' T' ∧ Grew w T2 T' ∧ Off T2 w w') → Two P Q' S1 S2 wb w' := by
  obtain ⟨T2, q, f⟩ := h.symm.fst (P' := Q') sP
  exact ⟨T2, q, fun w' hx => (f w' hx).symm⟩
/-- Blocks of neither. -/
theorem Two.blk {P Q : MemP} {S1 S2 : Nat → Prop} {wb w : World} (h : Two P Q S1 S2 wb w) {b : Nat} {cs : Array Value} {t : TypeId} (hb : Blk wb b cs t) (h1 : ¬ S1 b) (h2 : ¬ S2 b) : Blk w b cs t := by
  obtain ⟨_, _, _, _, _, _, _, o⟩ := h
  exact hb.off o (fun q => q.elim h1 h2)
theorem Two.below {P Q : MemP} {S1 S2 : Nat → Prop} {w0 wb w : World} (h : Two P Q S1 S2 wb w) (g : Kp w0 wb) (h1 : ∀ k, S1 k → w0.heap.size ≤ k) (h2 : ∀ k, S2 k → w0.heap.size ≤ k) : Kp w0 w := by
  obtain ⟨_, _, _, _, _, _, _, o⟩ := h
  exact o.kp g (fun k hk => hk.elim (h1 k) (h2 k))
/-- One memory of the call's own. -/
def One (P : MemP) (w0 w : World) : Prop := ∃ T, P w T ∧ (∀ k, T k → w0.heap.size ≤ k) ∧ Kp w0 w
theorem One.kp {P : MemP} {w0 w w' : World} (h : One P w0 w) (s : Stable P) (g : Kp w w') : One P w0 w' := by
  obtain ⟨T, p, l, k⟩ := h
  exact ⟨T, s.kp p g, l, k.trans g⟩
theorem One.step {P P' : MemP} {w0 w : World} (h : One P w0 w) : ∃ T, P w T ∧ ∀ w', (∃ T', P' w' T' ∧ Grew w T T' ∧ Off T w w') → One P' w0 w' := by
  obtain ⟨T, p, l, k⟩ := h
  refine ⟨T, p, fun w' ⟨T', p', g, o⟩ => ⟨T', p', fun j hj => ?_, o.kp k l⟩⟩
  rcases g j hj with h1 | h1
  · exact l j h1
  · exact Nat.le_trans k.size h1
theorem One.below {P : MemP} {w0 w : World} (h : One P w0 w) : Kp w0 w := by obtain ⟨_, _, _, k⟩ := h; exact k
/-! Calls on a memory of the call's own. -/
abbrev OM (b n : Nat) (V : Nat → Nat → Nat) : World → World → Prop := One fun w T => PMem w T b n V
theorem own_write (W X : Nat) (w0 w : World) (b n : Nat) (V : Nat → Nat → Nat) (h : OM b n V w0 w) (hW : W < 18446744073709551616) (hX : X < 18446744073709551616) :
    Calls Try.prog 12 #[.pointer (some ⟨b, 0, none⟩), .int .u64 W, .int .u64 X] w fun e w' => e = .returned (.int .i64 (if W / 512 < n then 0 else 80)) ∧ OM b n (if W / 512 < n then putV V (W / 512) (W % 512) X else V) w0 w' := by
  obtain ⟨T, p, f⟩ := h.step (P' := fun w T => PMem w T b n (if W / 512 < n then putV V (W / 512) (W % 512) X else V))
  exact (pwrite_any W X w T b n V p hW hX).mono fun _ _ q => ⟨q.1, f _ q.2⟩
theorem own_add (W X : Nat) (w0 w : World) (b n : Nat) (V : Nat → Nat → Nat) (h : OM b n V w0 w) (hW : W < 18446744073709551616) :
    Calls Try.prog 18 #[.pointer (some ⟨b, 0, none⟩), .int .u64 W, .int .u64 X] w fun e w' => e = .returned (.tuple #[.int .u64 ((if W / 512 < n then V (W / 512) (W % 512) else 0 : Nat) : Int), .int .i64 (if W / 512 < n then 0 else 80)]) ∧
      OM b n (if W / 512 < n then putV V (W / 512) (W % 512) ((V (W / 512) (W % 512) + X) % 18446744073709551616) else V) w0 w' := by
  obtain ⟨T, p, f⟩ := h.step (P' := fun w T => PMem w T b n (if W / 512 < n then putV V (W / 512) (W % 512) ((V (W / 512) (W % 512) + X) % 18446744073709551616) else V))
  exact (padd_any W X w T b n V p hW).mono fun _ _ q => ⟨q.1, f _ q.2⟩
theorem own_reach (k : Int) (W X : Nat) (fr fm : Int) (w0 w : World) (b n : Nat) (V : Nat → Nat → Nat) (h : OM b n V w0 w) (hW : W < 18446744073709551616) (hX : X < 18446744073709551616) (hi : -128 ≤ k ∧ k < 128) :
    Calls Try.prog 19 #[.pointer (some ⟨b, 0, none⟩), .agg (entV k W X fr fm)] w fun e w' => e = .returned (.int .i64 (rE n k W fr fm)) ∧ OM b n (rV n V k W X fr fm) w0 w' := by
  obtain ⟨T, p, f⟩ := h.step (P' := fun w T => PMem w T b n (rV n V k W X fr fm))
  exact (preach_any k W X fr fm w T b n V p hW hX hi).mono fun _ _ q => ⟨q.1, f _ q.2⟩
theorem own_read (W : Nat) (w0 w : World) (b n : Nat) (V : Nat → Nat → Nat) (h : OM b n V w0 w) (hW : W < 18446744073709551616) :
    Calls Try.prog 17 #[.pointer (some ⟨b, 0, none⟩), .int .u64 W] w fun e w' => e = .returned (.tuple #[.int .u64 ((if W / 512 < n then V (W / 512) (W % 512) else 0 : Nat) : Int), .int .i64 (if W / 512 < n then 0 else 80)]) ∧ OM b n V w0 w' := by
  have h' := h
  obtain ⟨T, p, l, k⟩ := h
  exact (pread_any W w T b n V p hW).mono fun _ _ q => ⟨q.1, h'.kp (pm_stable b n V) q.2⟩
theorem own_new (n : Nat) (w : World) (h1 : 1 ≤ n) (h2 : n ≤ 64) :
    Calls Try.prog 8 #[.int .i64 n] w fun e w' => ∃ b, e = .returned (.tuple #[.pointer (some ⟨b, 0, none⟩), .int .i64 0]) ∧ OM b n (fun _ _ => 0) w w' :=
  (pnew_yes n w h1 h2).mono fun _ _ ⟨b, S, e, p, l, k⟩ => ⟨b, e, S, p, l, k⟩
end Go.Proofs.Ytnjdglejcfdonaa
