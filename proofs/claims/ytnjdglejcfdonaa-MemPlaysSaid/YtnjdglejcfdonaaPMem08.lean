/-
  Package mem (a struct of a number and a map of pointers to frames): what it holds, what its functions answer. No condition.
-/
import Derived.Test.YtnjdglejcfdonaaSame08
namespace Go.Proofs.Ytnjdglejcfdonaa
open Go Go.RowKit Go.Maps

def rowU (U : Nat → Nat) : Array Value := ((List.range 512).map fun p => Value.int .u64 (U p : Nat)).toArray
theorem rowU_at (U : Nat → Nat) (p : Nat) (h : p < 512) : (rowU U)[p]? = some (.int .u64 (U p : Nat)) := by simp [rowU, h]
def frC (n : Nat) (L : Nat → Option Nat) : Value → Option Value
  | .int .i64 i => if 0 ≤ i ∧ i < n then (L i.toNat).map (fun g => .pointer (some ⟨g, 0, none⟩)) else none
  | _ => none
theorem frC_at (n : Nat) (L : Nat → Option Nat) (f : Nat) (h : f < n) : frC n L (.int .i64 f) = (L f).map (fun g => .pointer (some ⟨g, 0, none⟩)) := by
  show (if 0 ≤ (f : Int) ∧ (f : Int) < n then (L (f : Int).toNat).map (fun g => Value.pointer (some ⟨g, 0, none⟩)) else none) = _
  rw [if_pos (by omega)]
  rfl
def pfeet (b mb n : Nat) (L : Nat → Option Nat) : Nat → Prop := fun k => k = b ∨ k = mb ∨ ∃ f, f < n ∧ L f = some k
structure PM (w : World) (b mb n : Nat) (L : Nat → Option Nat) (V : Nat → Nat → Nat) : Prop where
  hb : Blk w b #[.int .i64 n, .map (some mb)] 55
  hm : KMap Try.prog 3 w mb (frC n L)
  row : ∀ f g, f < n → L f = some g → g ≠ b ∧ g ≠ mb ∧ Blk w g (rowU (V f)) 61
  one : ∀ f f' g, f < n → f' < n → L f = some g → L f' = some g → f = f'
  no : ∀ f, f < n → L f = none → ∀ p, p < 512 → V f p = 0
  wf : ∀ f p, V f p < 18446744073709551616
  bl : b ≠ mb
  n64 : n ≤ 64
def PMem (w : World) (S : Nat → Prop) (b n : Nat) (V : Nat → Nat → Nat) : Prop := ∃ mb L, PM w b mb n L V ∧ S = pfeet b mb n L
theorem PM.lt {w : World} {b mb n : Nat} {L : Nat → Option Nat} {V : Nat → Nat → Nat} (h : PM w b mb n L V) {k : Nat} (hk : pfeet b mb n L k) : k < w.heap.size := by
  rcases hk with rfl | rfl | ⟨f, hf, hL⟩
  · exact h.hb.lt
  · exact h.hm.lt
  · exact (h.row f k hf hL).2.2.lt
theorem PM.same {w w' : World} {b mb n : Nat} {L : Nat → Option Nat} {V : Nat → Nat → Nat} (h : PM w b mb n L V) (e : ∀ k, pfeet b mb n L k → w'.heap[k]? = w.heap[k]?) : PM w' b mb n L V := by
  obtain ⟨h1, h2, h3, h4, h5, h6, h7, h8⟩ := h
  exact ⟨(e b (.inl rfl)).trans h1, h2.same (e mb (.inr (.inl rfl))), fun f g hf hL => ⟨(h3 f g hf hL).1, (h3 f g hf hL).2.1, (e g (.inr (.inr ⟨f, hf, hL⟩))).trans (h3 f g hf hL).2.2⟩, h4, h5, h6, h7, h8⟩
theorem PM.kp {w w' : World} {b mb n : Nat} {L : Nat → Option Nat} {V : Nat → Nat → Nat} (h : PM w b mb n L V) (g : Kp w w') : PM w' b mb n L V := h.same fun k hk => Below.block g k (h.lt hk)
theorem PMem.kp {w w' : World} {S : Nat → Prop} {b n : Nat} {V : Nat → Nat → Nat} (h : PMem w S b n V) (g : Kp w w') : PMem w' S b n V := by
  obtain ⟨mb, L, h, rfl⟩ := h; exact ⟨mb, L, h.kp g, rfl⟩
theorem PMem.lt {w : World} {S : Nat → Prop} {b n : Nat} {V : Nat → Nat → Nat} (h : PMem w S b n V) {k : Nat} (hk : S k) : k < w.heap.size := by
  obtain ⟨mb, L, h, rfl⟩ := h; exact h.lt hk
theorem PMem.off {w w' : World} {S T : Nat → Prop} {b n : Nat} {V : Nat → Nat → Nat} (h : PMem w S b n V) (g : Off T w w') (hT : ∀ k, S k → ¬ T k) : PMem w' S b n V := by
  obtain ⟨mb, L, h, rfl⟩ := h
  exact ⟨mb, L, h.same fun k hk => g.block k (h.lt hk) (hT k hk), rfl⟩
theorem keyI : Keyed Try.prog 3 := int_keyed Try.underlying3
theorem key_i64 (i : Int) (h : -9223372036854775808 ≤ i ∧ i < 9223372036854775808) : keyOf Try.prog 3 (.int .i64 i) = some (.int .i64 i) := keyOf_int_mk Try.underlying3 (by simp [Lit.wf, IntKind.min, IntKind.max, IntKind.bits, IntKind.signed]; omega)
theorem key_int (f : Nat) (h : f < 64) : keyOf Try.prog 3 (.int .i64 f) = some (.int .i64 f) := keyOf_int_mk Try.underlying3 (by simp [Lit.wf, IntKind.min, IntKind.max, IntKind.bits, IntKind.signed]; omega)
theorem zero_ptr (w : World) : (zeroValue 59).run Try.prog w = .ok (.pointer none) w := by kernel_rfl
theorem PM.look {w : World} {b mb n : Nat} {L : Nat → Option Nat} {V : Nat → Nat → Nat} (h : PM w b mb n L V) (f : Nat) (hf : f < n) :
    (Instr.lookup 53 (.map (some mb)) (.int .i64 f) false).run Try.prog w = .ok (.pointer ((L f).map fun g => ⟨g, 0, none⟩)) w := by
  have q := h.hm.look keyI Try.underlying53 (zero_ptr w) (key_int f (by have := h.n64; omega))
  rw [q, frC_at n L f hf]
  cases L f <;> rfl
/-- What a frame's number finds: any number. -/
def atO (n : Nat) (L : Nat → Option Nat) (i : Int) : Option Nat := if 0 ≤ i ∧ i < n then L i.toNat else none
theorem atO_nat (n : Nat) (L : Nat → Option Nat) (f : Nat) (h : f < n) : atO n L f = L f := by
  unfold atO
  rw [if_pos (by omega)]
  rfl
theorem atO_no (n : Nat) (L : Nat → Option Nat) (i : Int) (h : ¬ (0 ≤ i ∧ i < n)) : atO n L i = none := if_neg h
theorem PM.lookI {w : World} {b mb n : Nat} {L : Nat → Option Nat} {V : Nat → Nat → Nat} (h : PM w b mb n L V) (i : Int) (hi : -9223372036854775808 ≤ i ∧ i < 9223372036854775808) :
    (Instr.lookup 53 (.map (some mb)) (.int .i64 i) false).run Try.prog w = .ok (.pointer ((atO n L i).map fun g => ⟨g, 0, none⟩)) w := by
  have q := h.hm.look keyI Try.underlying53 (zero_ptr w) (key_i64 i hi)
  rw [q]
  unfold atO
  show Result.ok ((if 0 ≤ i ∧ i < n then (L i.toNat).map (fun g => Value.pointer (some ⟨g, 0, none⟩)) else none).getD (.pointer none)) w = _
  by_cases c : 0 ≤ i ∧ i < n
  · rw [if_pos c, if_pos c]
    cases L i.toNat <;> rfl
  · rw [if_neg c, if_neg c]
    rfl
theorem PM.put {w : World} {b mb n : Nat} {L : Nat → Option Nat} {V : Nat → Nat → Nat} (h : PM w b mb n L V) {f p g : Nat} (x : Nat) (hf : f < n) (hp : p < 512) (hL : L f = some g) (hx : x < 18446744073709551616) :
    PM (w.setCell ⟨g, p, none⟩ (.int .u64 x)) b mb n L (putV V f p x) := by
  obtain ⟨h1, h2, h3, h4, h5, h6, h7, h8⟩ := h
  obtain ⟨r1, r2, r3⟩ := h3 f g hf hL
  refine ⟨h1.other (fun e => r1 e.symm) _, h2.setCell (fun e => r2 e.symm) _, fun f' g' hf' hL' => ?_, h4, fun f' hf' hL' p' hp' => ?_, fun f' p' => ?_, h7, h8⟩
  · obtain ⟨q1, q2, q3⟩ := h3 f' g' hf' hL'
    refine ⟨q1, q2, ?_⟩
    by_cases e : f' = f
    · subst e
      rw [hL] at hL'
      cases hL'
      have q := r3.set p (.int .u64 x)
      have ea : (rowU (V f')).setIfInBounds p (.int .u64 x) = rowU (putV V f' p x f') := by
        apply Array.ext_getElem?
        intro i
        rw [Array.getElem?_setIfInBounds]
        by_cases hi : i < 512
        · rw [rowU_at _ _ hi, rowU_at _ _ hi]
          unfold putV
          by_cases e : p = i
          · subst e
            rw [if_pos rfl, if_pos (by simp [rowU]; exact hi), if_pos ⟨rfl, rfl⟩]
          · rw [if_neg e, if_neg (fun q => e q.2.symm)]
        · rw [if_neg (by omega)]
          simp [rowU, hi]
      rw [ea] at q
      exact q
    · have hg : g' ≠ g := fun q => by subst q; exact e (h4 _ _ _ hf' hf hL' hL)
      have ev : putV V f p x f' = V f' := by
        funext p'
        unfold putV
        rw [if_neg (fun q => e q.1)]
      rw [ev]
      exact q3.other hg _
  · unfold putV
    rw [if_neg (fun q => by rw [q.1, hL] at hL'; cases hL')]
    exact h5 f' hf' hL' p' hp'
  · unfold putV
    split
    · exact hx
    · exact h6 f' p'
def setO (L : Nat → Option Nat) (f : Nat) (r : Option Nat) : Nat → Option Nat := fun j => if j = f then r else L j
theorem frC_set (n : Nat) (L : Nat → Option Nat) (f : Nat) (r : Option Nat) (h : f < n) : frC n (setO L f r) (.int .i64 f) = r.map (fun g => .pointer (some ⟨g, 0, none⟩)) ∧ ∀ z, z ≠ .int .i64 f → frC n (setO L f r) z = frC n L z := by
  refine ⟨by rw [frC_at n _ f h]; simp [setO], fun z hz => ?_⟩
  unfold frC
  split
  · rename_i i
    have hne : i ≠ f := fun e => hz (by rw [e])
    by_cases c : 0 ≤ i ∧ i < n
    · rw [if_pos c, if_pos c]
      unfold setO
      rw [if_neg (by omega)]
    · rw [if_neg c, if_neg c]
  · rfl
/-- What a frame's new array must be. -/
def NewArr (w : World) (b mb n : Nat) (L : Nat → Option Nat) (U : Nat → Nat) : Option Nat → Prop
  | none => ∀ p, p < 512 → U p = 0
  | some g => (∀ k, pfeet b mb n L k → k ≠ g) ∧ Blk w g (rowU U) 61
theorem PM.set {w w' : World} {b mb n : Nat} {L : Nat → Option Nat} {V : Nat → Nat → Nat} (h : PM w b mb n L V) {f : Nat} (hf : f < n) (r : Option Nat) (U : Nat → Nat) (hr : NewArr w b mb n L U r) (hU : ∀ p, U p < 18446744073709551616)
    (hm : KMap Try.prog 3 w' mb (frC n (setO L f r))) (g : w.mapTurned w' mb) : PM w' b mb n (setO L f r) (setF V f U) := by
  obtain ⟨h1, h2, h3, h4, h5, h6, h7, h8⟩ := h
  refine ⟨h1.turned g h7, hm, fun f' g' hf' hL' => ?_, fun f1 f2 g0 hf1 hf2 e1 e2 => ?_, fun f' hf' hL' p' hp' => ?_, fun f' p' => ?_, h7, h8⟩
  · unfold setO at hL'
    by_cases e : f' = f
    · subst e
      rw [if_pos rfl] at hL'
      subst hL'
      have ev : setF V f' U f' = U := by funext p; unfold setF; rw [if_pos rfl]
      rw [ev]
      have hg : g' ≠ mb := fun q => hr.1 mb (.inr (.inl rfl)) q.symm
      exact ⟨fun q => hr.1 b (.inl rfl) q.symm, hg, hr.2.turned g hg⟩
    · rw [if_neg e] at hL'
      obtain ⟨q1, q2, q3⟩ := h3 f' g' hf' hL'
      have ev : setF V f U f' = V f' := by funext p; unfold setF; rw [if_neg e]
      rw [ev]
      exact ⟨q1, q2, q3.turned g q2⟩
  · unfold setO at e1 e2
    by_cases d1 : f1 = f
    · by_cases d2 : f2 = f
      · omega
      · rw [if_pos d1] at e1
        rw [if_neg d2] at e2
        subst e1
        exact absurd rfl (hr.1 g0 (.inr (.inr ⟨f2, hf2, e2⟩)))
    · rw [if_neg d1] at e1
      by_cases d2 : f2 = f
      · rw [if_pos d2] at e2
        subst e2
        exact absurd rfl (hr.1 g0 (.inr (.inr ⟨f1, hf1, e1⟩)))
      · rw [if_neg d2] at e2
        exact h4 _ _ _ hf1 hf2 e1 e2
  · unfold setO at hL'
    unfold setF
    by_cases e : f' = f
    · rw [if_pos e] at hL'
      subst hL'
      rw [if_pos e]
      exact hr p' hp'
    · rw [if_neg e] at hL'
      rw [if_neg e]
      exact h5 f' hf' hL' p' hp'
  · unfold setF
    split
    · exact hU p'
    · exact h6 f' p'
theorem pfeet_set {b mb n f k : Nat} {L : Nat → Option Nat} {r : Option Nat} (h : pfeet b mb n (setO L f r) k) : pfeet b mb n L k ∨ r = some k := by
  rcases h with h | h | ⟨j, hj, e⟩
  · exact .inl (.inl h)
  · exact .inl (.inr (.inl h))
  · unfold setO at e
    split at e
    · exact .inr e
    · exact .inl (.inr (.inr ⟨j, hj, e⟩))
/-- 'm.frames[f] = l'. -/
theorem PM.store {w : World} {b mb n : Nat} {L : Nat → Option Nat} {V : Nat → Nat → Nat} (h : PM w b mb n L V) {f : Nat} (hf : f < n) (g : Nat) (U : Nat → Nat) (hr : NewArr w b mb n L U (some g)) (hU : ∀ p, U p < 18446744073709551616) :
    ∃ w', (Instr.mapUpdate 53 (.map (some mb)) (.int .i64 f) (.pointer (some ⟨g, 0, none⟩))).run Try.prog w = .ok () w' ∧ PM w' b mb n (setO L f (some g)) (setF V f U) ∧ w.mapTurned w' mb := by
  obtain ⟨c1, c2⟩ := frC_set n L f (some g) hf
  obtain ⟨w', e, hm, ht⟩ := h.hm.store keyI Try.underlying53 (key_int f (by have := h.n64; omega)) (.pointer (some ⟨g, 0, none⟩)) c1 c2
  exact ⟨w', e, h.set hf (some g) U hr hU hm ht, ht⟩
/-- 'delete(m.frames, f)'. -/
theorem PM.drop {w : World} {b mb n : Nat} {L : Nat → Option Nat} {V : Nat → Nat → Nat} (h : PM w b mb n L V) {f : Nat} (hf : f < n) (ty : TypeId) :
    ∃ w', (Builtin.delete_ #[53, 3] ty #[.map (some mb), .int .i64 f]).run Try.prog w = .ok (.tuple #[]) w' ∧ PM w' b mb n (setO L f none) (setF V f fun _ => 0) ∧ w.mapTurned w' mb := by
  obtain ⟨c1, c2⟩ := frC_set n L f none hf
  obtain ⟨w', e, hm, ht⟩ := h.hm.drop keyI Try.underlying53 (key_int f (by have := h.n64; omega)) c1 c2 ty
  exact ⟨w', e, h.set hf none _ (fun _ _ => rfl) (fun _ => by decide) hm ht, ht⟩
end Go.Proofs.Ytnjdglejcfdonaa
