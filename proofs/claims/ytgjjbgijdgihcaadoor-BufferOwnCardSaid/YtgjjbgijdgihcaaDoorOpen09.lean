/-
  An argument that is a slice of entries, opened. No condition.
-/
import Derived.Test.YtgjjbgijdgihcaaDoorRow09
namespace Go.Proofs.YtgjjbgijdgihcaaDoor
open Go Go.RowKit

theorem ent_of_row {cs : List Value} (h : AllFit [some .i8, some .u64, some .u64, some .i64, some .i64] cs) : ∃ e : Ent, cs = e.cells ∧ e.wf := by
  obtain ⟨_, _, rfl, ⟨a1, rfl, w1⟩, _, _, rfl, ⟨a2, rfl, w2⟩, _, _, rfl, ⟨a3, rfl, w3⟩, _, _, rfl, ⟨a4, rfl, w4⟩, _, _, rfl, ⟨a5, rfl, w5⟩, rfl⟩ := h
  have b1 : -128 ≤ a1 ∧ a1 < 128 := by
    simp [Lit.wf, IntKind.min, IntKind.max, IntKind.bits, IntKind.signed] at w1
    omega
  have b2 : 0 ≤ a2 ∧ a2 < 18446744073709551616 := by
    simp [Lit.wf, IntKind.min, IntKind.max, IntKind.bits, IntKind.signed] at w2
    omega
  have b3 : 0 ≤ a3 ∧ a3 < 18446744073709551616 := by
    simp [Lit.wf, IntKind.min, IntKind.max, IntKind.bits, IntKind.signed] at w3
    omega
  have b4 := i64_of a4 w4
  have b5 := i64_of a5 w5
  refine ⟨⟨a1, a2.toNat, a3.toNat, a4, a5⟩, ?_, b1, by show a2.toNat < _; omega, by show a3.toNat < _; omega, b4, b5⟩
  unfold Ent.cells
  rw [Int.toNat_of_nonneg b2.1, Int.toNat_of_nonneg b3.1]
theorem ents_of : ∀ (L : List (List Value)), (∀ (k : Nat) cs, L[k]? = some cs → AllFit [some .i8, some .u64, some .u64, some .i64, some .i64] cs) → ∃ E : List Ent, L = E.map Ent.cells ∧ ∀ e ∈ E, e.wf
  | [], _ => ⟨[], rfl, fun e h => by simp at h⟩
  | c :: l, h => by
    obtain ⟨e, rfl, he⟩ := ent_of_row (h 0 c rfl)
    obtain ⟨E, rfl, hE⟩ := ents_of l (fun k cs hk => h (k + 1) cs (by simpa using hk))
    exact ⟨e :: E, rfl, fun x hx => by
      rcases List.mem_cons.1 hx with rfl | hx
      · exact he
      · exact hE x hx⟩
theorem rowe_of {L : List (List Value)} {b off cap : Nat} {qa : Option Addr} {w : World} (hs : L ≠ [] → qa = some ⟨b, off, none⟩) (hr : RowsIn w b off 5 [some .i8, some .u64, some .u64, some .i64, some .i64] L) (hb : L ≠ [] → b < w.heap.size) (hc : L.length ≤ cap) :
    ∃ E : List Ent, E.length = L.length ∧ RowE w qa cap E ∧ ∀ e ∈ E, e.wf := by
  obtain ⟨E, rfl, hE⟩ := ents_of L (fun k cs hk => (hr k cs hk).1)
  refine ⟨E, by simp, ⟨b, off, fun hn => ⟨hs (by simpa using hn), hb (by simpa using hn)⟩, fun k e hk j v hv => ?_, by simpa using hc⟩, hE⟩
  exact (hr k e.cells (by simp [hk])).2 j v hv
/-- The first K of a row. -/
theorem RowE.first {w : World} {a0 : Option Addr} {cap : Nat} {L : List Ent} (h : RowE w a0 cap L) (K : Nat) : RowE w a0 cap (L.take K) := by
  obtain ⟨b, off, h1, h2, h3⟩ := h
  refine ⟨b, off, fun hn => h1 (fun q => hn (by rw [q, List.take_nil])), fun k e hk j v hv => h2 k e ?_ j v hv, by rw [List.length_take]; omega⟩
  rw [List.getElem?_take] at hk
  split at hk
  · exact hk
  · cases hk
end Go.Proofs.YtgjjbgijdgihcaaDoor
