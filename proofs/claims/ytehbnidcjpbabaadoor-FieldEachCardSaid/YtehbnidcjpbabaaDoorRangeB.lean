/-
  A range over a bound method value ('for k := range v.each'): the statement's law for whoever ranges, at the fence that asks nothing. What the iterator must promise, what the rounds must keep, what holds behind.
-/
import Derived.Test.YtehbnidcjpbabaaDoorRows
import Derived.RangeFuncNested
import Derived.RangeFuncBound
import Derived.RangeFuncCalls
import Derived.RangeFuncLeaves
namespace Go.Proofs.YtehbnidcjpbabaaDoor
open Go Go.RowKit
section
variable {P : Program} {α : Type}

/-- What an iterator over xs promises whoever ranges: J is the ranger's word between two rounds, Jx behind a round that has left. -/
def Gives (P : Program) (gf : Nat) (bd : Array Value) (encs : α → Array Value) (xs : List α) (I : List α → World → Prop) : Prop :=
  ∀ (l : Nat) (J Jx : List α → World → Prop) (W : World), (∀ pre W1, J pre W1 → I pre W1) →
    (∀ pre x W1, J pre W1 → pre ++ [x] <+: xs → YieldAt Fence.wide 0 P l (encs x) W1 fun e W' => (e = .returned (.bool true) ∧ J (pre ++ [x]) W') ∨ (e = .returned (.bool false) ∧ Jx (pre ++ [x]) W')) →
    J [] W → CallsIn Fence.wide 0 P gf (bd ++ #[.func (.yield l) #[] #[]]) W fun e W' => (∃ v, e = .returned v) ∧ (J xs W' ∨ ∃ pre, pre <+: xs ∧ Jx pre W')

/-- The loop's record as it stands in its block. -/
def rec0 (fn : FuncId) (a : Act) (ps : Array Tmp) (assign body : Code) (D : Nat) (st : LoopState) (pe : Option Code) : Loop :=
  { state := st, pending := pe, fn, tmps := a.tmps, params := ps, assign, body, defers := D }

/-- Both blocks of the loop's book-keeping: the record, and the one for the rounds' deferred calls. -/
def Kept (D : Nat) (r : Loop) (W : World) : Prop := W.heap[D + 1]? = some (.loop r) ∧ W.heap[D]? = some (.deferred (some []))
theorem Kept.lt {D : Nat} {r : Loop} {W : World} (h : Kept D r W) : D + 1 < W.heap.size := (Array.getElem?_eq_some_iff.1 h.1).1
theorem Kept.put {D : Nat} {r : Loop} {W : World} (h : Kept D r W) (r' : Loop) : Kept D r' (W.putObj (D + 1) (.loop r')) :=
  ⟨World.putObj_heap_same h.lt, (World.putObj_heap_other (by omega)).trans h.2⟩
theorem Kept.others {D : Nat} {r : Loop} {W W' : World} (h : Kept D r W) (k : KeepsOthers W W') : Kept D r W' := ⟨k.same _ _ h.1 rfl, k.same _ _ h.2 rfl⟩

theorem range_bound {g : Operand} {ps : Array Tmp} {assign body : Code} {Q : Exit → Act → World → Prop} {a : Act} {w : World} {gf : Nat} {bd : Array Value} {encs : α → Array Value} {xs : List α}
    (hg : a.eval g = .func (.func gf) bd #[]) (eg : ∀ args w, (callFunc gf args).run P w = .ok (.enter gf args) w) (hps : ∀ x, (encs x).size = ps.size)
    (I : List α → World → Prop) (Ix : Code → List α → World → Prop) (hseq : Gives P gf bd encs xs I) (hI : OwnFrom w.heap.size I) (hIx : ∀ c, OwnFrom w.heap.size (Ix c)) (h0 : I [] w) (a₁ : α → Act)
    (hassign : ∀ (l : Nat) (x : α) (W : World) (K : Act → World → Prop), K (a₁ x) W →
      assign.wpIn (Fence.wide.inRound l) 0 P (Exit.then K (fun _ _ _ => False)) { tmps := (ps.zip (encs x)).foldl (fun t (p, v) => t.setIfInBounds p v) a.tmps, defers := [] } W)
    (hbody : ∀ (l : Nat) (pre : List α) (x : α) (W : World), I pre W → pre ++ [x] <+: xs → body.wpIn (Fence.wide.inRound l) 0 P (ownPostK (fun _ _ => True) I Ix (pre ++ [x]) W) (a₁ x) W)
    (hdone : ∀ (D : Nat) (W : World), w.heap.size ≤ D → I xs W → W.heap[D]? = some (.deferred (some [])) → Q .normal { a with defers := { target := .collected D, args := #[] } :: a.defers } W)
    (hstop : ∀ (D : Nat) (c : Code) (pre : List α) (W : World), w.heap.size ≤ D → pre <+: xs → Ix c pre W → W.heap[D]? = some (.deferred (some [])) →
      c.wpIn Fence.wide 0 P Q { a with defers := { target := .collected D, args := #[] } :: a.defers } W) :
    (Code.rangeFunc g ps assign body).wpIn Fence.wide 0 P Q a w := by
  refine wpIn_rangeFunc fun fn _ => ?_
  let D := w.heap.size
  let r := rec0 fn a ps assign body D
  have hK1 : Kept D (r .ready none) ((w.alloc (.deferred (some []))).alloc (.loop (r .ready none))) := by
    refine ⟨?_, (Below.heap_alloc _ _ _ (by simp [D])).trans (World.alloc_heap_new w _)⟩
    have := World.alloc_heap_new (w.alloc (.deferred (some []))) (.loop (r .ready none))
    rwa [World.size_alloc] at this
  refine ⟨D + 1, [{ target := .collected D, args := #[] }], (w.alloc (.deferred (some []))).alloc (.loop (r .ready none)), { target := .fn (.func gf) #[], args := bd ++ #[.func (.yield (D + 1)) #[] #[]] },
    (w.alloc (.deferred (some []))).alloc (.loop (r .ready none)), gf, bd ++ #[.func (.yield (D + 1)) #[] #[]], (w.alloc (.deferred (some []))).alloc (.loop (r .ready none)), ?_, ?_, ?_, ?_, (fun h => by cases h), ?_⟩
  · exact run_enterLoop_outer _ _ _ _ _
  · simp only [resolve, hg]
    simp [go_sem]
  · intro f' _; trivial
  · simp [invoke, go_sem, eg]
  -- the record turns in its own block: what the ranger says abides it
  have turn : ∀ {β : Type} {R : β → World → Prop} (hR : OwnFrom w.heap.size R) {s : β} {W : World} {r0 : Loop} (r' : Loop), R s W → Kept D r0 W → R s (W.putObj (D + 1) (.loop r')) := fun hR s W r0 r' hs hk => hR.putObj _ hs (by omega) hk.1 rfl
  refine (hseq (D + 1) (fun pre W => I pre W ∧ Kept D (r .ready none) W) (fun pre W => ∃ c, Ix c pre W ∧ Kept D (r .done (some c)) W) _ (fun _ _ h => h.1) ?_ ⟨hI.alloc _ (hI.alloc _ h0), hK1⟩).mono ?_
  · rintro pre x W ⟨hi, hk⟩ hpre
    have hy := run_yield (P := P) (args := encs x) hk.1 (hps x)
    refine ⟨fn, _, assign, body, hy, roundIn_of_wpIn trivial (hassign _ x W _ ⟨_, run_beginRound hk.1 rfl, ?_⟩)⟩
    have hk2 : Kept D { r .ready none with state := .busy } (W.putObj (D + 1) (.loop { r .ready none with state := .busy })) := hk.put _
    refine wpIn_mono (hbody _ pre x _ (turn hI _ hi hk) hpre) ?_
    rintro e a3 W3 hp
    have back : ∀ jump, KeepsOthers (W.putObj (D + 1) (.loop { r .ready none with state := .busy })) W3 → Kept D { r .ready none with state := .busy } W3 ∧
        (Instr.endRound (D + 1) jump).run P W3 = .ok (.bool jump.isNone) (W3.putObj (D + 1) (.loop (r (if jump.isNone then .ready else .done) jump))) := fun jump ho =>
      ⟨hk2.others ho, run_endRound (P := P) jump (hk2.others ho).1⟩
    cases e with
    | normal =>
      obtain ⟨ho, _, hi3⟩ := hp
      obtain ⟨hk3, hr⟩ := back none ho
      exact ⟨_, _, hr, .inl ⟨rfl, turn hI _ hi3 hk3, hk3.put _⟩⟩
    | ret =>
      obtain ⟨ho, hi3⟩ := hp
      obtain ⟨hk3, hr⟩ := back (some .ret) ho
      exact ⟨_, _, hr, .inr ⟨rfl, .ret, turn (hIx _) _ hi3 hk3, hk3.put _⟩⟩
    | exit id =>
      obtain ⟨ho, hi3⟩ := hp
      obtain ⟨hk3, hr⟩ := back (some (.exit id)) ho
      exact ⟨_, _, hr, .inr ⟨rfl, .exit id, turn (hIx _) _ hi3 hk3, hk3.put _⟩⟩
    | goto t =>
      obtain ⟨ho, hi3⟩ := hp
      obtain ⟨hk3, hr⟩ := back (some (.goto t)) ho
      exact ⟨_, _, hr, .inr ⟨rfl, .goto t, turn (hIx _) _ hi3 hk3, hk3.put _⟩⟩
    | panic ch => exact hp.elim
    | outgrown => exact hp.elim
  · rintro e W2 ⟨⟨v, rfl⟩, (⟨hi, hk⟩ | ⟨pre, hpre, c, hi, hk⟩)⟩
    · have he := run_endLoop (P := P) hk.1 (by simp [r, rec0])
      exact ⟨none, _, he, hdone D _ (Nat.le_refl _) (turn hI _ hi hk) ((World.putObj_heap_other (by omega)).trans hk.2)⟩
    · have he := run_endLoop (P := P) hk.1 (by simp [r, rec0])
      exact ⟨some c, _, he, hstop D c pre _ (Nat.le_refl _) hpre (turn (hIx c) _ hi hk) ((World.putObj_heap_other (by omega)).trans hk.2)⟩
end
end Go.Proofs.YtehbnidcjpbabaaDoor
