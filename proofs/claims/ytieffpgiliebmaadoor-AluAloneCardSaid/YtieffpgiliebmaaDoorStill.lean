/-
  A quiet walk over the one world gives the still walk (wp_region_still_tail's): for guarded operations that are decided. No condition.
-/
import Derived.Test.YtieffpgiliebmaaDoorBv
import Derived.StillTailTactics
import Derived.BigQuiet
namespace Go.Proofs.YtieffpgiliebmaaDoor
open Go Go.RowKit

theorem still_of_quiet {P : Program} {ops : Array Oper} {Q : Act → Prop} (w : World) : ∀ (l : List Oper) (a : Act), wpQuiet P ops (fun w' => w' = w) Q l a → wpStill P ops w Q l a
  | [], _, h => h
  | o :: rest, a, h => by
    unfold wpQuiet at h
    unfold wpStill
    split at h
    · rename_i hw
      rw [if_pos hw]
      obtain ⟨v, h1, h2⟩ := h
      have h3 := h1 w rfl
      unfold Oper.quietAt at h3
      unfold Oper.still
      generalize (execOp a.eval o).run P w = r at h3
      have h4 := still_of_quiet w rest _ h2
      cases r with
      | ok n w' =>
        cases n <;> simp only [Oper.quietUpon] at h3 <;> simp only [Oper.stillUpon]
        case value u => obtain ⟨e, rfl⟩ := h3; exact ⟨e, h4⟩
        case skip => obtain ⟨e, rfl⟩ := h3; exact ⟨e, h4⟩
        case enter f args => exact ⟨h3.1, v, h3.2, h4⟩
      | halt x w' => simp only [Oper.quietUpon] at h3
    · rename_i hw
      rw [if_neg hw]
      exact still_of_quiet w rest _ h
end Go.Proofs.YtieffpgiliebmaaDoor
