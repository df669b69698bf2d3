/-
  The document's memory: what it holds, and what its functions answer. No condition.
-/
import Derived.Test.YtnjdglejcfdonaaOff
import Derived.Test.YtnjdglejcfdonaaRows
import Derived.Tactics
import Derived.Tactics2
import Derived.Laws.Tables
import Derived.Deep.DeepCutAuto
import Derived.Deep.OwnRows
namespace Go.Proofs.Ytnjdglejcfdonaa
open Go Go.RowKit

/-- A frame's row: none, or 512 words behind each other. -/
abbrev RowOf := Option (Nat × Nat × Nat)
def rowV : RowOf → Value
  | none => .slice none 0 0
  | some (g, o, c) => .slice (some ⟨g, o, none⟩) 512 c
def RowAt (w : World) (g o : Nat) (V : Nat → Nat) : Prop := ∀ p, p < 512 → w.cell? ⟨g, o + p, none⟩ = some (.int .u64 (V p)) ∧ w.frozen? ⟨g, o + p, none⟩ = false
def rowsA (L : Nat → RowOf) (n : Nat) : Array Value := ((List.range n).map fun f => rowV (L f)).toArray
theorem rowsA_at (L : Nat → RowOf) (n f : Nat) (h : f < n) : (rowsA L n)[f]? = some (rowV (L f)) := by simp [rowsA, h]
/-- The blocks of a memory. -/
def feet (b lb n : Nat) (L : Nat → RowOf) : Nat → Prop := fun k => k = b ∨ k = lb ∨ ∃ f, f < n ∧ ∃ o c, L f = some (k, o, c)
structure RM (w : World) (b lb n : Nat) (L : Nat → RowOf) (V : Nat → Nat → Nat) : Prop where
  hb : Blk w b #[.slice (some ⟨lb, 0, none⟩) n n] 58
  hl : Blk w lb (rowsA L n) 51
  row : ∀ f g o c, f < n → L f = some (g, o, c) → g < w.heap.size ∧ g ≠ b ∧ g ≠ lb ∧ RowAt w g o (V f)
  one : ∀ f f' g o c o' c', f < n → f' < n → L f = some (g, o, c) → L f' = some (g, o', c') → f = f'
  no : ∀ f, f < n → L f = none → ∀ p, p < 512 → V f p = 0
  wf : ∀ f p, V f p < 18446744073709551616
  bl : b ≠ lb
  n64 : n ≤ 64
def RMem (w : World) (S : Nat → Prop) (b n : Nat) (V : Nat → Nat → Nat) : Prop := ∃ lb L, RM w b lb n L V ∧ S = feet b lb n L
theorem RM.same {w w' : World} {b lb n : Nat} {L : Nat → RowOf} {V : Nat → Nat → Nat} (h : RM w b lb n L V) (z : w.heap.size ≤ w'.heap.size) (e : ∀ k, feet b lb n L k → w'.heap[k]? = w.heap[k]?) : RM w' b lb n L V := by
  obtain ⟨h1, h2, h3, h4, h5, h6, h7, h8⟩ := h
  refine ⟨(e b (.inl rfl)).trans h1, (e lb (.inr (.inl rfl))).trans h2, fun f g o c hf hL => ?_, h4, h5, h6, h7, h8⟩
  obtain ⟨r1, r2, r3, r4⟩ := h3 f g o c hf hL
  have eg := e g (.inr (.inr ⟨f, hf, o, c, hL⟩))
  exact ⟨Nat.lt_of_lt_of_le r1 z, r2, r3, fun p hp => ⟨(World.cell?_of_block (a := ⟨g, o + p, none⟩) eg).trans (r4 p hp).1, (World.frozen?_of_block (a := ⟨g, o + p, none⟩) eg).trans (r4 p hp).2⟩⟩
theorem RM.lt {w : World} {b lb n : Nat} {L : Nat → RowOf} {V : Nat → Nat → Nat} (h : RM w b lb n L V) {k : Nat} (hk : feet b lb n L k) : k < w.heap.size := by
  rcases hk with rfl | rfl | ⟨f, hf, o, c, hL⟩
  · exact h.hb.lt
  · exact h.hl.lt
  · exact (h.row f k o c hf hL).1
theorem RMem.lt {w : World} {S : Nat → Prop} {b n : Nat} {V : Nat → Nat → Nat} (h : RMem w S b n V) {k : Nat} (hk : S k) : k < w.heap.size := by
  obtain ⟨lb, L, h, rfl⟩ := h; exact h.lt hk
theorem RM.kp {w w' : World} {b lb n : Nat} {L : Nat → RowOf} {V : Nat → Nat → Nat} (h : RM w b lb n L V) (g : Kp w w') : RM w' b lb n L V := h.same g.size fun k hk => Below.block g k (h.lt hk)
theorem RMem.off {w w' : World} {S T : Nat → Prop} {b n : Nat} {V : Nat → Nat → Nat} (h : RMem w S b n V) (g : Off T w w') (hT : ∀ k, S k → ¬ T k) : RMem w' S b n V := by
  obtain ⟨lb, L, h, rfl⟩ := h
  exact ⟨lb, L, h.same g.size fun k hk => g.block k (h.lt hk) (hT k hk), rfl⟩
theorem RMem.kp {w w' : World} {S : Nat → Prop} {b n : Nat} {V : Nat → Nat → Nat} (h : RMem w S b n V) (g : Kp w w') : RMem w' S b n V := by
  obtain ⟨lb, L, h, rfl⟩ := h; exact ⟨lb, L, h.kp g, rfl⟩

def putV (V : Nat → Nat → Nat) (f p x : Nat) : Nat → Nat → Nat := fun f' p' => if f' = f ∧ p' = p then x else V f' p'
def setF (V : Nat → Nat → Nat) (f : Nat) (U : Nat → Nat) : Nat → Nat → Nat := fun f' p => if f' = f then U p else V f' p
theorem RM.congr {w : World} {b lb n : Nat} {L : Nat → RowOf} {V U : Nat → Nat → Nat} (h : RM w b lb n L V) (e : ∀ f p, f < n → p < 512 → U f p = V f p) (hu : ∀ f p, U f p < 18446744073709551616) : RM w b lb n L U := by
  obtain ⟨h1, h2, h3, h4, h5, h6, h7, h8⟩ := h
  refine ⟨h1, h2, fun f g o c hf hL => ?_, h4, fun f hf hL p hp => (e f p hf hp).trans (h5 f hf hL p hp), hu, h7, h8⟩
  obtain ⟨r1, r2, r3, r4⟩ := h3 f g o c hf hL
  exact ⟨r1, r2, r3, fun p hp => ⟨by rw [e f p hf hp]; exact (r4 p hp).1, (r4 p hp).2⟩⟩
theorem RM.put {w : World} {b lb n : Nat} {L : Nat → RowOf} {V : Nat → Nat → Nat} (h : RM w b lb n L V) {f p g o c : Nat} (x : Nat) (hf : f < n) (hp : p < 512) (hL : L f = some (g, o, c)) (hx : x < 18446744073709551616) :
    RM (w.setCell ⟨g, o + p, none⟩ (.int .u64 x)) b lb n L (putV V f p x) := by
  obtain ⟨h1, h2, h3, h4, h5, h6, h7, h8⟩ := h
  obtain ⟨r1, r2, r3, r4⟩ := h3 f g o c hf hL
  refine ⟨h1.other (fun e => r2 e.symm) _, h2.other (fun e => r3 e.symm) _, fun f' g' o' c' hf' hL' => ?_, h4, fun f' hf' hL' p' hp' => ?_, fun f' p' => ?_, h7, h8⟩
  · obtain ⟨q1, q2, q3, q4⟩ := h3 f' g' o' c' hf' hL'
    refine ⟨by simpa using q1, q2, q3, fun p' hp' => ⟨?_, by rw [World.frozen?_setCell]; exact (q4 p' hp').2⟩⟩
    unfold putV
    by_cases e : f' = f
    · subst e
      rw [hL] at hL'
      cases hL'
      by_cases e2 : p' = p
      · subst e2
        rw [if_pos ⟨rfl, rfl⟩]
        exact World.cell?_setCell_same w _ _ (q4 p' hp').1
      · rw [if_neg (fun q => e2 q.2), World.cell?_setCell_other w ⟨g, o + p, none⟩ ⟨g, o + p', none⟩ _ (fun q => e2 (by have q2 := congrArg Addr.off q; simp at q2; omega))]
        exact (q4 p' hp').1
    · rw [if_neg (fun q => e q.1)]
      have hg : g' ≠ g := fun q => by subst q; exact e (h4 _ _ _ _ _ _ _ hf' hf hL' hL)
      exact (World.cell?_of_block (a := ⟨g', o' + p', none⟩) (Below.heap_setCell w ⟨g, o + p, none⟩ _ g' hg)).trans (q4 p' hp').1
  · unfold putV
    rw [if_neg (fun q => by rw [q.1, hL] at hL'; cases hL')]
    exact h5 f' hf' hL' p' hp'
  · unfold putV
    split
    · exact hx
    · exact h6 f' p'
/-- What a frame's new row must be: none, all nought; or a row that no frame of this memory has. -/
def NewRow (w : World) (b lb n : Nat) (L : Nat → RowOf) (U : Nat → Nat) : RowOf → Prop
  | none => ∀ p, p < 512 → U p = 0
  | some (g, o, _) => g < w.heap.size ∧ (∀ k, feet b lb n L k → k ≠ g) ∧ RowAt w g o U
def setL (L : Nat → RowOf) (f : Nat) (r : RowOf) : Nat → RowOf := fun j => if j = f then r else L j
theorem RM.setRow {w : World} {b lb n : Nat} {L : Nat → RowOf} {V : Nat → Nat → Nat} (h : RM w b lb n L V) {f : Nat} (hf : f < n) (r : RowOf) (U : Nat → Nat) (hr : NewRow w b lb n L U r) (hU : ∀ p, U p < 18446744073709551616) :
    RM (w.setCell ⟨lb, f, none⟩ (rowV r)) b lb n (setL L f r) (setF V f U) := by
  obtain ⟨h1, h2, h3, h4, h5, h6, h7, h8⟩ := h
  refine ⟨h1.other h7 _, ?_, fun f' g' o' c' hf' hL' => ?_, fun f1 f2 g o c o' c' hf1 hf2 e1 e2 => ?_, fun f' hf' hL' p' hp' => ?_, fun f' p' => ?_, h7, h8⟩
  · have h2' := h2.set f (rowV r)
    have e : (rowsA L n).setIfInBounds f (rowV r) = rowsA (setL L f r) n := by
      apply Array.ext_getElem?
      intro i
      rw [Array.getElem?_setIfInBounds]
      by_cases hi : i < n
      · rw [rowsA_at _ _ _ hi, rowsA_at _ _ _ hi]
        unfold setL
        by_cases e : f = i
        · subst e
          rw [if_pos rfl, if_pos rfl, if_pos (by simp [rowsA]; exact hi)]
        · rw [if_neg e, if_neg (fun q => e q.symm)]
      · rw [if_neg (by omega)]
        simp [rowsA, hi]
    rw [e] at h2'
    exact h2'
  · unfold setL at hL'
    unfold setF
    by_cases e : f' = f
    · subst e
      rw [if_pos rfl] at hL'
      subst hL'
      obtain ⟨q1, q2, q3⟩ := hr
      have hlb : g' ≠ lb := fun q => q2 lb (.inr (.inl rfl)) q.symm
      refine ⟨by simpa using q1, fun q => q2 b (.inl rfl) q.symm, hlb, fun p hp => ⟨?_, by rw [World.frozen?_setCell]; exact (q3 p hp).2⟩⟩
      show _ = some (Value.int IntKind.u64 ((if f' = f' then U p else V f' p : Nat) : Int))
      rw [if_pos rfl]
      exact (World.cell?_of_block (a := ⟨g', o' + p, none⟩) (Below.heap_setCell w ⟨lb, f', none⟩ _ g' hlb)).trans (q3 p hp).1
    · rw [if_neg e] at hL'
      obtain ⟨q1, q2, q3, q4⟩ := h3 f' g' o' c' hf' hL'
      refine ⟨by simpa using q1, q2, q3, fun p hp => ⟨?_, by rw [World.frozen?_setCell]; exact (q4 p hp).2⟩⟩
      show _ = some (Value.int IntKind.u64 ((if f' = f then U p else V f' p : Nat) : Int))
      rw [if_neg e]
      exact (World.cell?_of_block (a := ⟨g', o' + p, none⟩) (Below.heap_setCell w ⟨lb, f, none⟩ _ g' q3)).trans (q4 p hp).1
  · unfold setL at e1 e2
    by_cases d1 : f1 = f
    · by_cases d2 : f2 = f
      · omega
      · rw [if_pos d1] at e1
        rw [if_neg d2] at e2
        subst e1
        exact absurd rfl (hr.2.1 g (.inr (.inr ⟨f2, hf2, _, _, e2⟩)))
    · rw [if_neg d1] at e1
      by_cases d2 : f2 = f
      · rw [if_pos d2] at e2
        subst e2
        exact absurd rfl (hr.2.1 g (.inr (.inr ⟨f1, hf1, _, _, e1⟩)))
      · rw [if_neg d2] at e2
        exact h4 _ _ _ _ _ _ _ hf1 hf2 e1 e2
  · unfold setL at hL'
    unfold setF
    by_cases e : f' = f
    · rw [if_pos e] at hL'
      subst hL'
      rw [if_pos e]
      exact hr p' hp'
    · rw [if_neg e] at hL'
      rw [if_neg e]
      exact h5 f' hf' hL' p' hp'
  · unfold setF
    split
    · exact hU p'
    · exact h6 f' p'
theorem feet_setL {b lb n f k : Nat} {L : Nat → RowOf} {r : RowOf} (h : feet b lb n (setL L f r) k) : feet b lb n L k ∨ ∃ o c, r = some (k, o, c) := by
  rcases h with h | h | ⟨j, hj, o, c, e⟩
  · exact .inl (.inl h)
  · exact .inl (.inr (.inl h))
  · unfold setL at e
    split at e
    · exact .inr ⟨o, c, e⟩
    · exact .inl (.inr (.inr ⟨j, hj, o, c, e⟩))
theorem wrap_q (W : Nat) (h : W < 18446744073709551616) : IntKind.u64.wrap ((W : Int) / 512) = ((W / 512 : Nat) : Int) := by
  rw [show IntKind.u64.wrap ((W : Int) / 512) = ((W : Int) / 512) % 18446744073709551616 from IntKind.wrap_u64 _]
  omega
theorem wrap_n (n : Nat) (h : n ≤ 64) : IntKind.u64.wrap (n : Int) = (n : Int) := by
  rw [show IntKind.u64.wrap (n : Int) = (n : Int) % 18446744073709551616 from IntKind.wrap_u64 _]
  omega
theorem rem_q (W : Nat) : IntKind.u64.wrap ((W : Int) % 512) = ((W % 512 : Nat) : Int) := by
  rw [show IntKind.u64.wrap ((W : Int) % 512) = ((W : Int) % 512) % 18446744073709551616 from IntKind.wrap_u64 _]
  omega
theorem rthere_any (W : Nat) (w : World) (b lb n : Nat) (L : Nat → RowOf) (V : Nat → Nat → Nat) (h : RM w b lb n L V) (hW : W < 18446744073709551616) :
    Calls Try.prog 31 #[.pointer (some ⟨b, 0, none⟩), .int .u64 W] w fun e w' => e = .returned (.bool (decide (W / 512 < n))) ∧ Kp w w' := by
  have c0 := h.hb.cell 0
  have hn := h.n64
  have HW := Lib.hid hW
  have HN := Lib.hid hn
  clear hW hn
  have e1 := wrap_q W HW.out
  have e2 := wrap_n n HN.out
  go_enter Try.func31, Try.ntmps31
  go_wp2
  go_ret
  refine ⟨congrArg Ending.returned (congrArg Value.bool (decide_eq_decide.2 ?_)), Kp.refl w⟩
  omega
theorem rframe_any (x : Int) (w : World) (b lb n : Nat) (L : Nat → RowOf) (V : Nat → Nat → Nat) (h : RM w b lb n L V) :
    Calls Try.prog 26 #[.pointer (some ⟨b, 0, none⟩), .int .i64 x] w fun e w' => e = .returned (.bool (decide (0 ≤ x) && decide (x < n))) ∧ Kp w w' := by
  have c0 := h.hb.cell 0
  go_enter Try.func26, Try.ntmps26
  go_wp2
  · rename_i hx
    go_ret
    exact ⟨by simp [hx], Kp.refl w⟩
  · rename_i hx
    go_ret
    exact ⟨by simp [Int.not_le.2 hx], Kp.refl w⟩
theorem rread_any (W : Nat) (w : World) (S : Nat → Prop) (b n : Nat) (V : Nat → Nat → Nat) (h : RMem w S b n V) (hW : W < 18446744073709551616) :
    Calls Try.prog 23 #[.pointer (some ⟨b, 0, none⟩), .int .u64 W] w fun e w' => e = .returned (.tuple #[.int .u64 ((if W / 512 < n then V (W / 512) (W % 512) else 0 : Nat) : Int), .int .i64 (if W / 512 < n then 0 else 80)]) ∧ Kp w w' := by
  obtain ⟨lb, L, h, -⟩ := h
  have HW := Lib.hid hW
  have HT := Lib.hid (rthere_any W w b lb n L V h hW)
  have e1 := wrap_q W HW.out
  have e2 := rem_q W
  clear hW
  have HH := Lib.hid h
  have hp : W % 512 < 512 := Nat.mod_lt _ (by decide)
  generalize hf : W / 512 = f at e1 HT ⊢
  generalize hq : W % 512 = p at e2 hp ⊢
  clear h
  by_cases c : f < n
  · have d : decide (f < n) = true := decide_eq_true c
    rw [if_pos c, if_pos c]
    rw [d] at HT
    have c0 := fun w1 (g : Kp w w1) => (HH.out.kp g).hb.cell 0
    have c1 := fun w1 (g : Kp w w1) => ((HH.out.kp g).hl.cell f).trans (rowsA_at L n f c)
    have C := Lib.hid c
    clear c
    cases hL : L f with
    | none =>
      rw [HH.out.no f C.out hL p hp]
      have C0 := Lib.hid c0
      have C1 := Lib.hid c1
      clear c0 c1
      go_enter Try.func23, Try.ntmps23
      go_wp2_with fail
      refine (HT.out).mono ?_; rintro e w1 ⟨rfl, hg⟩
      have H1 := Lib.hid hg; clear hg
      have d0 := C0.out w1 H1.out
      have d1 := C1.out w1 H1.out
      rw [hL] at d1
      unfold rowV at d1
      go_wp2
      go_ret2
      exact ⟨rfl, H1.out⟩
    | some r =>
      obtain ⟨g, o, cp⟩ := r
      have C0 := Lib.hid c0
      have C1 := Lib.hid c1
      have C2 := Lib.hid (fun w1 (k : Kp w w1) => (((HH.out.kp k).row f g o cp C.out hL).2.2.2 p hp).1)
      clear c0 c1
      go_enter Try.func23, Try.ntmps23
      go_wp2_with fail
      refine (HT.out).mono ?_; rintro e w2 ⟨rfl, hg⟩
      have H2 := Lib.hid hg; clear hg
      have d0 := C0.out w2 H2.out
      have d1 := C1.out w2 H2.out
      have d2 := C2.out w2 H2.out
      rw [hL] at d1
      unfold rowV at d1
      go_wp2
      go_ret2
      exact ⟨rfl, H2.out⟩
  · have d : decide (f < n) = false := decide_eq_false c
    rw [if_neg c, if_neg c]
    rw [d] at HT
    clear c
    go_enter Try.func23, Try.ntmps23
    go_wp2_with fail
    refine (HT.out).mono ?_; rintro e w3 ⟨rfl, hg⟩
    have H3 := Lib.hid hg; clear hg
    go_wp2
    go_ret2
    exact ⟨rfl, H3.out⟩
theorem zrow (w : World) : RowAt (w.alloc (.cells (madeCells #[.int .u64 0] 512) 32)) w.heap.size 0 fun _ => 0 := by
  intro p hp
  have h : Blk (w.alloc (.cells (madeCells #[.int .u64 0] 512) 32)) w.heap.size (madeCells #[.int .u64 0] 512) 32 := Blk.new w _ _
  rw [h.cell, h.frozen]
  refine ⟨?_, rfl⟩
  have e := toList_madeCells_one (.int .u64 0) 512
  have e2 : (madeCells #[Value.int .u64 0] 512)[p]? = ((madeCells #[Value.int .u64 0] 512).toList)[p]? := by simp
  rw [Nat.zero_add, e2, e, List.getElem?_replicate, if_pos hp]
  rfl
theorem info_u64 : (Try.prog.info? 32).map (fun i => (i.zero, i.size, i.bytes)) = some (some (.int .u64 0), 1, 8) := by kernel_rfl
set_option maxHeartbeats 1000000 in
theorem rwrite_any (W X : Nat) (w : World) (S : Nat → Prop) (b n : Nat) (V : Nat → Nat → Nat) (h : RMem w S b n V) (hW : W < 18446744073709551616) (hX : X < 18446744073709551616) :
    Calls Try.prog 20 #[.pointer (some ⟨b, 0, none⟩), .int .u64 W, .int .u64 X] w fun e w' => e = .returned (.int .i64 (if W / 512 < n then 0 else 80)) ∧
      ∃ S', RMem w' S' b n (if W / 512 < n then putV V (W / 512) (W % 512) X else V) ∧ Grew w S S' ∧ Off S w w' := by
  obtain ⟨lb, L, h, rfl⟩ := h
  have HW := Lib.hid hW
  have HX := Lib.hid hX
  have HT := Lib.hid (rthere_any W w b lb n L V h hW)
  have e1 := wrap_q W HW.out
  have e2 := rem_q W
  clear hW hX
  have HH := Lib.hid h
  have hp : W % 512 < 512 := Nat.mod_lt _ (by decide)
  generalize hf : W / 512 = f at e1 HT ⊢
  generalize hq : W % 512 = p at e2 hp ⊢
  clear h
  by_cases c : f < n
  · have d : decide (f < n) = true := decide_eq_true c
    rw [if_pos c, if_pos c]
    rw [d] at HT
    have c0 := fun w1 (g : Kp w w1) => (HH.out.kp g).hb.cell 0
    have c1 := fun w1 (g : Kp w w1) => ((HH.out.kp g).hl.cell f).trans (rowsA_at L n f c)
    have C := Lib.hid c
    clear c
    cases hL : L f with
    | none =>
      have C0 := Lib.hid c0
      have C1 := Lib.hid c1
      clear c0 c1
      have hmk : ∀ w, (Instr.makeSlice 51 (.int .i64 512) (.int .i64 512)).run Try.prog w = .ok (.slice (some ⟨w.heap.size, 0, none⟩) 512 512) (w.alloc (.cells (madeCells #[.int .u64 0] 512) 32)) := run_make_row' (P := Try.prog) 51 32 _ 8 Try.underlying51 info_u64 rfl .i64 .i64 512 (by decide) (by decide)
      go_enter Try.func20, Try.ntmps20
      go_wp2_with fail
      refine (HT.out).mono ?_; rintro e w1 ⟨rfl, hg⟩
      have H1 := Lib.hid hg; clear hg
      have d0 := C0.out w1 H1.out
      have d1 := C1.out w1 H1.out
      have f1 := ((HH.out.kp H1.out).hl.frozen f)
      rw [hL] at d1
      unfold rowV at d1
      go_wp2_with fail
      have hb1 := (HH.out.kp H1.out).hb.lt
      have hl1 := (HH.out.kp H1.out).hl.lt
      have G : Hid (∀ k, feet b lb n L k → k < w1.heap.size) := Lib.hid (fun k => (HH.out.kp H1.out).lt)
      have KA : Kp w (w1.alloc (.cells (madeCells #[.int .u64 0] 512) 32)) := H1.out.alloc _ _
      have R0 := (HH.out.kp KA).setRow C.out (some (w1.heap.size, 0, 512)) (fun _ => 0) ⟨by simp, fun k hk => Nat.ne_of_lt (G.out k hk), zrow w1⟩ (fun _ => by decide)
      have F0 : Off (feet b lb n L) w _ := (Off.of_kp KA).setCell (p := ⟨lb, f, none⟩) (.inl (.inr (.inl rfl))) (rowV (some (w1.heap.size, 0, 512)))
      have Z : (w1.setCell ⟨lb, f, none⟩ (.slice (some ⟨w1.heap.size, 0, none⟩) 512 512)).alloc (.cells (madeCells #[.int .u64 0] 512) 32) = (w1.alloc (.cells (madeCells #[.int .u64 0] 512) 32)).setCell ⟨lb, f, none⟩ (.slice (some ⟨w1.heap.size, 0, none⟩) 512 512) := (World.setCell_alloc_past _ _ _ _ hl1).symm
      simp only [rowV] at R0 F0
      have R1 := Lib.hid R0
      have F1 := Lib.hid F0
      have Z1 := Lib.hid Z
      clear R0 F0 Z KA
      go_region
      rw [Z1.out]
      generalize hw2 : World.setCell _ _ _ = w2 at R1 F1 ⊢
      have q0 := R1.out.hb.cell 0
      have q1 := (R1.out.hl.cell f).trans (rowsA_at _ n f C.out)
      have hLf : setL L f (some (w1.heap.size, 0, 512)) f = some (w1.heap.size, 0, 512) := by simp [setL]
      rw [hLf] at q1
      unfold rowV at q1
      have q2 := ((R1.out.row f _ _ _ C.out hLf).2.2.2 p hp)
      have q3 := q2.1
      have q4 := q2.2
      clear hw2 q2 Z1 d0 d1 f1 hmk hb1 hl1
      rw [Nat.zero_add] at q3 q4
      go_wp2
      go_ret
      refine ⟨rfl, _, ⟨lb, _, ((R1.out.put X C.out hp hLf HX.out).congr (U := putV V f p X) (fun f' p' hf' hp' => ?_) (fun f' p' => ?_)).same (by simp) (fun _ _ => by rw [Nat.zero_add]; rfl), rfl⟩, fun k hk => ?_, ?_⟩
      · unfold putV setF
        by_cases e : f' = f
        · subst e
          rw [if_pos rfl, HH.out.no f' C.out hL p' hp']
        · rw [if_neg e]
      · unfold putV
        split
        · exact HX.out
        · exact HH.out.wf f' p'
      · rcases feet_setL hk with h | ⟨o, c, h⟩
        · exact .inl h
        · cases h; exact .inr H1.out.size
      · exact (F1.out.setCell (p := ⟨w1.heap.size, p, none⟩) (.inr H1.out.size) _).drew
    | some r =>
      obtain ⟨g, o, cp⟩ := r
      have C0 := Lib.hid c0
      have C1 := Lib.hid c1
      have C2 := Lib.hid (fun w1 (k : Kp w w1) => (((HH.out.kp k).row f g o cp C.out hL).2.2.2 p hp))
      clear c0 c1
      go_enter Try.func20, Try.ntmps20
      go_wp2_with fail
      refine (HT.out).mono ?_; rintro e w2 ⟨rfl, hg⟩
      have H2 := Lib.hid hg; clear hg
      have d0 := C0.out w2 H2.out
      have d1 := C1.out w2 H2.out
      have d2 := (C2.out w2 H2.out).1
      have d3 := (C2.out w2 H2.out).2
      rw [hL] at d1
      unfold rowV at d1
      go_wp2
      go_ret
      have k := HH.out.kp H2.out
      exact ⟨rfl, _, ⟨lb, L, k.put X C.out hp hL HX.out, rfl⟩, Grew.refl _ _, (Off.of_kp H2.out).setCell (.inl (.inr (.inr ⟨f, C.out, o, cp, hL⟩))) _⟩
  · have d : decide (f < n) = false := decide_eq_false c
    rw [if_neg c, if_neg c]
    rw [d] at HT
    clear c
    go_enter Try.func20, Try.ntmps20
    go_wp2_with fail
    refine (HT.out).mono ?_; rintro e w3 ⟨rfl, hg⟩
    have H3 := Lib.hid hg; clear hg
    go_wp2
    go_ret
    exact ⟨rfl, _, ⟨lb, L, HH.out.kp H3.out, rfl⟩, Grew.refl _ _, Off.of_kp H3.out⟩
end Go.Proofs.Ytnjdglejcfdonaa
