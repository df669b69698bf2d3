/-
  What two words are as a syndrome: plain facts. No condition.
-/
import Derived.Test.YtjglobnjmahpaaaDoorRefAll
namespace Go.Proofs.YtjglobnjmahpaaaDoor
open Go Go.RowKit

def qEsr (q : Q4) : Nat := esrN q.1.toNat q.2.1 q.2.2.1 q.2.2.2
def Hit (q : Q4) (x far : Nat) : Prop := qEsr q = x ∧ qVa q far = far
instance (q : Q4) (x far : Nat) : Decidable (Hit q x far) := by unfold Hit; infer_instance
def decQ (x far : Nat) : Option Q4 := allQ.find? (fun q => decide (Hit q x far))
def dC (x far : Nat) : Int := match decQ x far with | some q => q.1 | none => 0
def dS (x far : Nat) : Bool := match decQ x far with | some q => q.2.1 | none => false
def dF (x far : Nat) : Int := match decQ x far with | some q => q.2.2.1 | none => 0
def dL (x far : Nat) : Int := match decQ x far with | some q => q.2.2.2 | none => 0
def dA (x far : Nat) : Int := match decQ x far with | some _ => (far : Int) | none => 0
def dE (x far : Nat) : Int := match decQ x far with | some _ => 0 | none => 2
theorem dec_none {x far : Nat} (h : decQ x far = none) : dC x far = 0 ∧ dS x far = false ∧ dF x far = 0 ∧ dL x far = 0 ∧ dA x far = 0 ∧ dE x far = 2 := by
  simp [dC, dS, dF, dL, dA, dE, h]
theorem dec_some {x far : Nat} {q : Q4} (h : decQ x far = some q) : dC x far = q.1 ∧ dS x far = q.2.1 ∧ dF x far = q.2.2.1 ∧ dL x far = q.2.2.2 ∧ dA x far = far ∧ dE x far = 0 := by
  simp [dC, dS, dF, dL, dA, dE, h]
/-- No two have one word. -/
theorem esr_inj : ∀ p ∈ allQ, ∀ q ∈ allQ, qEsr p = qEsr q → p = q := by decide
theorem ok_all : ∀ q ∈ allQ, (0 ≤ q.1 ∧ q.1 < 5) ∧ (q.1 = 2 → FOk q.2.2.1 q.2.2.2) ∧ (q.1 ≠ 2 → (q.1 = 0 ∨ q.1 = 1 ∨ q.1 = 3 ∨ q.1 = 4) ∧ q.2.1 = false ∧ q.2.2.1 = 0 ∧ q.2.2.2 = 0) := by decide
theorem ok_of {q : Q4} (hq : q ∈ allQ) (va : Int) : SOk q.1 q.2.1 q.2.2.1 q.2.2.2 (qVa q va) := by
  have h := ok_all q hq
  by_cases c : q.1 = 2
  · exact .inl ⟨c, h.2.1 c⟩
  · obtain ⟨a, b, d, e⟩ := h.2.2 c
    exact .inr ⟨a, b, d, e, if_neg c⟩
theorem dec_hit {x far : Nat} {q : Q4} (hq : q ∈ allQ) (h : Hit q x far) : decQ x far = some q := by
  unfold decQ
  cases e : allQ.find? (fun q => decide (Hit q x far)) with
  | none =>
    have := List.find?_eq_none.1 e q hq
    simp [h] at this
  | some p =>
    have h1 := List.find?_some e
    have h2 := List.mem_of_find?_eq_some e
    simp at h1
    rw [esr_inj p h2 q hq (h1.1.trans h.1.symm)]
theorem dec_no {x far : Nat} (h : ∀ q ∈ allQ, ¬ Hit q x far) : decQ x far = none := by
  unfold decQ
  rw [List.find?_eq_none]
  intro q hq
  simpa using h q hq
/-- All that may be stand in the list. -/
theorem mem_of_ok {c : Int} {st : Bool} {f l va : Int} (h : SOk c st f l va) : (c, st, f, l) ∈ allQ ∧ qVa (c, st, f, l) va = va := by
  rcases h with ⟨rfl, ⟨rfl, h0, h1⟩ | ⟨rfl, rfl⟩ | ⟨rfl, rfl⟩⟩ | ⟨hc, rfl, rfl, rfl, rfl⟩
  · obtain rfl | rfl | rfl | rfl : l = 0 ∨ l = 1 ∨ l = 2 ∨ l = 3 := by omega
    all_goals
      cases st <;> exact ⟨by decide, rfl⟩
  · cases st <;> exact ⟨by decide, rfl⟩
  · cases st <;> exact ⟨by decide, rfl⟩
  · rcases hc with rfl | rfl | rfl | rfl <;> exact ⟨by decide, rfl⟩
end Go.Proofs.YtjglobnjmahpaaaDoor
