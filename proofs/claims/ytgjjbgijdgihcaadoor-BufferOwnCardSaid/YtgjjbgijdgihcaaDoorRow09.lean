/-
  Rows of entries: an argument's or a result's cells. No condition.
-/
import Derived.Test.YtgjjbgijdgihcaaDoorBuf09
import Derived.Test.YtgjjbgijdgihcaaDoorRows
import Derived.Test.YtgjjbgijdgihcaaDoorOpenL
import Derived.Tactics
import Derived.Tactics2
import Derived.Laws.Tables
import Derived.Deep.DeepCutAuto
import Derived.Deep.OwnRows
import Derived.Maps.AppendAt
import Derived.Laws.OwnMore
import Derived.OwnWalk
namespace Go.Proofs.YtgjjbgijdgihcaaDoor
open Go Go.RowKit

def EntsAt (w : World) (b off : Nat) (L : List Ent) : Prop := ∀ (k : Nat) (e : Ent), L[k]? = some e → ∀ j v, e.cells[j]? = some v → w.cell? ⟨b, off + k * 5 + j, none⟩ = some v
/-- A slice value whose elements are L. -/
def RowE (w : World) (a0 : Option Addr) (cap : Nat) (L : List Ent) : Prop := ∃ b off, (L ≠ [] → a0 = some ⟨b, off, none⟩ ∧ b < w.heap.size) ∧ EntsAt w b off L ∧ L.length ≤ cap
theorem RowE.kp {w w' : World} {a0 : Option Addr} {cap : Nat} {L : List Ent} (h : RowE w a0 cap L) (g : Kp w w') : RowE w' a0 cap L := by
  obtain ⟨b, off, h1, h2, h3⟩ := h
  refine ⟨b, off, fun hn => ⟨(h1 hn).1, Nat.lt_of_lt_of_le (h1 hn).2 g.size⟩, fun k e hk j v hv => ?_, h3⟩
  have hn : L ≠ [] := fun q => by rw [q] at hk; simp at hk
  exact (g.cell (h1 hn).2).trans (h2 k e hk j v hv)
theorem RowE.nil (w : World) (a0 : Option Addr) (cap : Nat) : RowE w a0 cap [] := ⟨0, 0, fun h => absurd rfl h, fun k e h => by simp at h, Nat.zero_le _⟩
/-- An element's cells, where there is one. -/
theorem RowE.at {w : World} {a0 : Option Addr} {cap : Nat} {L : List Ent} (h : RowE w a0 cap L) : ∀ {k : Nat} {e : Ent}, L[k]? = some e → ∃ b off, a0 = some ⟨b, off, none⟩ ∧ b < w.heap.size ∧
    ∀ (j : Nat) (x : Ent), L[j]? = some x → w.cell? ⟨b, off + j * 5, none⟩ = some (.int .i8 x.k) ∧ w.cell? ⟨b, off + j * 5 + 1, none⟩ = some (.int .u64 x.w) ∧ w.cell? ⟨b, off + j * 5 + 2, none⟩ = some (.int .u64 x.x) ∧ w.cell? ⟨b, off + j * 5 + 3, none⟩ = some (.int .i64 x.fr) ∧ w.cell? ⟨b, off + j * 5 + 4, none⟩ = some (.int .i64 x.fm) := by
  intro k e hk
  obtain ⟨b, off, h1, h2, _⟩ := h
  have hn : L ≠ [] := fun q => by rw [q] at hk; simp at hk
  exact ⟨b, off, (h1 hn).1, (h1 hn).2, fun j x hx => ⟨h2 j x hx 0 _ rfl, h2 j x hx 1 _ rfl, h2 j x hx 2 _ rfl, h2 j x hx 3 _ rfl, h2 j x hx 4 _ rfl⟩⟩
/-! Rows that the call made. -/
def OwnsE (w : World) (B : Nat) (v : Value) (L : List Ent) : Prop := w.ownsRow B 26 5 v L.length (L.flatMap Ent.cells)
theorem Blk.grownOf {w w' : World} {b : Nat} {cs : Array Value} {t : TypeId} {row : Option Nat} (h : Blk w b cs t) (g : w.grownBy w' row) (hr : row ≠ some b) : Blk w' b cs t := (g.block b h.lt (fun e => hr e.symm)).trans h
theorem OwnsE.low {w : World} {B B' : Nat} {v : Value} {L : List Ent} (h : OwnsE w B v L) (hb : B' ≤ B) : OwnsE w B' v L :=
  ⟨h.1, h.2.imp id fun ⟨g, cap, cur, h1, h2, h3⟩ => ⟨g, cap, cur, h1, Nat.le_trans hb h2, h3⟩⟩
theorem OwnsE.nil (w : World) (B : Nat) : OwnsE w B (.slice none 0 0) [] := World.ownsRow_nil _ _ _ _
theorem OwnsE.kp {w w' : World} {B : Nat} {v : Value} {L : List Ent} (h : OwnsE w B v L) (g : Kp w w') : OwnsE w' B v L := by
  refine ⟨h.1, ?_⟩
  rcases h.2 with hn | ⟨g', cap, cur, e, hb, hg, r⟩
  · exact .inl hn
  · exact .inr ⟨g', cap, cur, e, hb, (Below.block g g' (lt_of_block hg)).trans hg, r⟩
theorem flat_at : ∀ (L : List Ent) (k : Nat) (e : Ent) (j : Nat), L[k]? = some e → j < 5 → (L.flatMap Ent.cells)[k * 5 + j]? = e.cells[j]?
  | [], k, e, j, h, _ => by simp at h
  | a :: l, 0, e, j, h, hj => by
    simp at h
    subst h
    rw [List.flatMap_cons, Nat.zero_mul, Nat.zero_add]
    exact List.getElem?_append_left (by show j < 5; exact hj)
  | a :: l, k + 1, e, j, h, hj => by
    have q := flat_at l k e j (by simpa using h) hj
    rw [List.flatMap_cons, List.getElem?_append_right (by show 5 ≤ _; omega), show (k + 1) * 5 + j - a.cells.length = k * 5 + j by show _ - 5 = _; omega]
    exact q
theorem OwnsE.row {w : World} {B : Nat} {v : Value} {L : List Ent} (h : OwnsE w B v L) : ∃ a0 cap, v = .slice a0 L.length cap ∧ RowE w a0 cap L := by
  rcases h.2 with ⟨hv, hn⟩ | ⟨g, cap, cur, rfl, hb, hg, hn, hm, hs, ht⟩
  · have := List.eq_nil_of_length_eq_zero hn
    subst this
    exact ⟨none, 0, hv, RowE.nil _ _ _⟩
  · have hB : Blk w g cur 26 := hg
    refine ⟨_, cap, rfl, g, 0, fun _ => ⟨rfl, hB.lt⟩, fun k e hk j v hv => ?_, hn⟩
    have hj : j < 5 := (List.getElem?_eq_some_iff.1 hv).1
    have hlt := (List.getElem?_eq_some_iff.1 hk).1
    have q := flat_at L k e j hk hj
    rw [← ht, List.getElem?_take, if_pos (by omega), hv] at q
    rw [Nat.zero_add, hB.cell]
    simpa using q
theorem ent_info : (Tryd.prog.info? 26).map (fun i => (i.zero, i.size, i.bytes)) = some (some (.agg #[.int .i8 0, .int .u64 0, .int .u64 0, .int .i64 0, .int .i64 0]), 5, 40) := by kernel_rfl
theorem ent_one (e : Ent) : ∀ u ∈ e.cells, u.oneCell' = true := by
  intro u hu
  unfold Ent.cells at hu
  simp at hu
  rcases hu with rfl | rfl | rfl | rfl | rfl <;> rfl
theorem ents_one (L : List Ent) : ∀ u ∈ L.flatMap Ent.cells, u.oneCell' = true := by
  intro u hu
  rw [List.mem_flatMap] at hu
  obtain ⟨e, _, h⟩ := hu
  exact ent_one e u h
theorem fitsE {n m : Nat} (h : n + m ≤ 1000) : n + m ≤ maxLen ∧ (n + m) * 40 ≤ 140737488355328 := ⟨by unfold maxLen; omega, by omega⟩
theorem flat_len (L : List Ent) : (L.flatMap Ent.cells).length = L.length * 5 := by
  induction L with
  | nil => rfl
  | cons a l ih => rw [List.flatMap_cons, List.length_append, ih]; show 5 + _ = _; simp; omega
/-- The cells of an element that was just built. -/
theorem news_ent (w : World) (e : Ent) (t : TypeId) : ∀ j u, e.cells[j]? = some u → (w.alloc (.cells e.arr t)).cell? ((⟨w.heap.size, 0, none⟩ : Addr).add j) = some u := by
  intro j u h
  have q : (⟨w.heap.size, 0, none⟩ : Addr).add j = ⟨w.heap.size, j, none⟩ := by unfold Addr.add; split <;> simp_all
  rw [q, (Blk.new w e.arr t).cell]
  unfold Ent.arr
  unfold Ent.cells at h
  simpa using h
/-- The cells of a row that is appended whole. -/
theorem news_row {w : World} {b off : Nat} {L : List Ent} (h : EntsAt w b off L) : ∀ j u, (L.flatMap Ent.cells)[j]? = some u → w.cell? ((⟨b, off, none⟩ : Addr).add j) = some u := by
  intro j u hj
  have q : (⟨b, off, none⟩ : Addr).add j = ⟨b, off + j, none⟩ := by unfold Addr.add; split <;> simp_all
  have hl := (List.getElem?_eq_some_iff.1 hj).1
  rw [flat_len] at hl
  have hk : j / 5 < L.length := by omega
  have e := flat_at L (j / 5) _ (j % 5) (List.getElem?_eq_getElem hk) (Nat.mod_lt _ (by decide))
  rw [show j / 5 * 5 + j % 5 = j by omega, hj] at e
  have := h (j / 5) _ (List.getElem?_eq_getElem hk) (j % 5) u e.symm
  rw [q]
  rwa [show off + j / 5 * 5 + j % 5 = off + j by omega] at this
theorem EntsAt.take {w : World} {b off : Nat} {L : List Ent} (h : EntsAt w b off L) (k : Nat) : EntsAt w b off (L.take k) := fun i e hi => by
  rw [List.getElem?_take] at hi
  split at hi
  · exact h i e hi
  · cases hi
theorem EntsAt.drop {w : World} {b off : Nat} {L : List Ent} (h : EntsAt w b off L) (k : Nat) : EntsAt w b (off + k * 5) (L.drop k) := fun i e hi j v hv => by
  rw [List.getElem?_drop] at hi
  have := h (k + i) e hi j v hv
  rwa [show off + k * 5 + i * 5 + j = off + (k + i) * 5 + j by omega]
/-- One more behind a row of the call's own. -/
theorem OwnsE.next {w0 w w1 : World} {v v' : Value} {L M : List Ent} (h : OwnsE w w0.heap.size v L) (hk : Kp w0 w) (h1 : w1.ownsRow w0.heap.size 26 5 v' (L.length + M.length) (L.flatMap Ent.cells ++ M.flatMap Ent.cells)) (hg : w.grownBy w1 v.ownBlock) :
    OwnsE w1 w0.heap.size v' (L ++ M) ∧ Kp w0 w1 := by
  refine ⟨?_, Kp.grown hk hg fun j e => (World.ownsRow.lt h j e).1⟩
  unfold OwnsE
  rw [List.flatMap_append, List.length_append]
  exact h1
theorem OwnsE.next1 {w0 w w1 : World} {o : Obj} {v v' : Value} {L : List Ent} {e : Ent} (h : OwnsE w w0.heap.size v L) (hk : Kp w0 w) (h1 : w1.ownsRow w0.heap.size 26 5 v' (L.length + 1) (L.flatMap Ent.cells ++ e.cells)) (hg : (w.alloc o).grownBy w1 v.ownBlock) :
    OwnsE w1 w0.heap.size v' (L ++ [e]) ∧ Kp w0 w1 := by
  refine ⟨?_, Kp.grown (Below.alloc hk hk.size o) hg fun j e => (World.ownsRow.lt h j e).1⟩
  unfold OwnsE
  rw [List.flatMap_append, List.length_append]
  simpa using h1
end Go.Proofs.YtgjjbgijdgihcaaDoor
