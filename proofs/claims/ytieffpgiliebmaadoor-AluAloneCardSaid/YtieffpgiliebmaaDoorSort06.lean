/-
  The library's Sort and Compact of a row of numbers that the call owns, in the words of 'ownsRow'. No condition.
-/
import Derived.Test.YtieffpgiliebmaaDoorShelf06
import Derived.Test.YtieffpgiliebmaaDoorBv
import Derived.Laws.OwnMore
namespace Go.Proofs.YtieffpgiliebmaaDoor
open Go Go.RowKit

/-- v is a slice of the numbers zs, in a block from number B on. -/
def OwnsI (w : World) (B : Nat) (v : Value) (zs : List Int) : Prop := w.ownsRow B 3 1 v zs.length (zs.map (Value.int .i64))
abbrev sortL (zs : List Int) : List Int := zs.mergeSort fun x y => decide (x ≤ y)
theorem OwnsI.parts {w : World} {B : Nat} {v : Value} {zs : List Int} (h : OwnsI w B v zs) :
    (v = .slice none 0 0 ∧ zs = []) ∨ ∃ g cap cur, v = .slice (some ⟨g, 0, none⟩) zs.length cap ∧ B ≤ g ∧ w.heap[g]? = some (.cells cur 3 (0, 0)) ∧ zs.length ≤ cap ∧ cap ≤ maxLen ∧ cur.size = cap ∧ cur.toList.take zs.length = zs.map (Value.int .i64) := by
  rcases h.2 with ⟨rfl, h2⟩ | ⟨g, cap, cur, h1, h2, h3, h4, h5, h6, h7⟩
  · exact .inl ⟨rfl, List.length_eq_zero_iff.1 h2⟩
  · exact .inr ⟨g, cap, cur, h1, h2, h3, h4, h5, by simpa using h6, by simpa using h7⟩
theorem OwnsI.mk {w : World} {B : Nat} {zs : List Int} {g cap : Nat} {cur : Array Value} (hb : B ≤ g) (hg : w.heap[g]? = some (.cells cur 3 (0, 0))) (hn : zs.length ≤ cap) (hm : cap ≤ maxLen) (hs : cur.size = cap) (ht : cur.toList.take zs.length = zs.map (Value.int .i64)) :
    OwnsI w B (.slice (some ⟨g, 0, none⟩) zs.length cap) zs := ⟨by simp, .inr ⟨g, cap, cur, rfl, hb, hg, hn, hm, by simpa using hs, by simpa using ht⟩⟩
theorem OwnsI.nil (w : World) (B : Nat) : OwnsI w B (.slice none 0 0) [] := World.ownsRow_nil w B _ _
theorem holds_own {w : World} {g : Nat} {cur : Array Value} {zs : List Int} (hg : w.heap[g]? = some (.cells cur 3 (0, 0))) (ht : cur.toList.take zs.length = zs.map (Value.int .i64)) : Sort.Holds (Value.int .i64) w g 0 zs.toArray := by
  intro j hj
  have hj' : j < zs.length := by simpa using hj
  refine ⟨?_, by simp [World.frozen?, hg]⟩
  have e : cur.toList[j]? = some (.int .i64 zs[j]) := by
    have := congrArg (·[j]?) ht
    simpa [List.getElem?_take, hj'] using this
  have e2 : cur[j]? = some (.int .i64 zs[j]) := by simpa using e
  simp only [World.cell?, hg, Nat.zero_add, e2]
  rw [getElem!_pos _ j (by simpa using hj')]
  simp
/-- The row's block behind it all. -/
theorem heap_put {w : World} {g : Nat} {cur : Array Value} {d : List Int} {n : Nat} {os : Array Obj} (hg : w.heap[g]? = some (.cells cur 3 (0, 0))) :
    (Sort.grow (Sort.putRow (Value.int .i64) (Sort.ahead w n) g 0 d.toArray) os).heap[g]? = some (.cells (Sort.putCells (Value.int .i64) 0 d.toArray cur) 3 (0, 0)) := by
  have hlt : g < w.heap.size := (Array.getElem?_eq_some_iff.1 hg).1
  rw [Sort.heap_grow_old _ _ (by simpa using hlt)]
  show (w.heap.modify g _)[g]? = _
  rw [Array.getElem?_modify, if_pos rfl, hg]
  rfl
theorem put_size (d : List Int) (cur : Array Value) : (Sort.putCells (Value.int .i64) 0 d.toArray cur).size = cur.size := by simp [Sort.putCells]
theorem put_take (d : List Int) (cur : Array Value) (k : Nat) (hk : k ≤ d.length) (hd : d.length ≤ cur.size) : (Sort.putCells (Value.int .i64) 0 d.toArray cur).toList.take k = (d.take k).map (Value.int .i64) := by
  apply List.ext_getElem?
  intro j
  rw [List.getElem?_take]
  by_cases hj : j < k
  · rw [if_pos hj]
    have h1 : j < d.length := by omega
    have h2 : j < cur.size := by omega
    rw [List.getElem?_map, List.getElem?_take, if_pos hj, List.getElem?_eq_getElem h1]
    simp [Sort.putCells, h1, h2]
  · rw [if_neg hj, List.getElem?_eq_none (by simp; omega)]
theorem kp_put {w0 w : World} {g n : Nat} {d : List Int} {os : Array Obj} (hk : Kp w0 w) (hb : w0.heap.size ≤ g) : Kp w0 (Sort.grow (Sort.putRow (Value.int .i64) (Sort.ahead w n) g 0 d.toArray) os) := by
  refine Below.trans hk ⟨rfl, rfl, rfl, by simp, fun k hlt => ?_⟩
  have hs : k < w.heap.size := Nat.lt_of_lt_of_le hlt hk.size
  rw [Sort.heap_grow_old _ _ (by simpa using hs)]
  show (w.heap.modify g _)[k]? = _
  rw [Array.getElem?_modify, if_neg (by omega)]

theorem sort_own (w0 w : World) (v : Value) (zs : List Int) (hk : Kp w0 w) (ho : OwnsI w w0.heap.size v zs) (hn : zs.length ≤ 100) :
    Calls Tryd.prog 24 #[v] w fun e w' => e = .returned (.tuple #[]) ∧ OwnsI w' w0.heap.size v (sortL zs) ∧ Kp w0 w' := by
  rcases ho.parts with ⟨rfl, rfl⟩ | ⟨g, cap, cur, rfl, hb, hg, hn', hm, hs, ht⟩
  · refine (Tryd.slices_Sort_int_none none 0 w).mono ?_
    rintro e w' ⟨rfl, rfl⟩
    exact ⟨rfl, by rw [show sortL [] = [] from by simp]; exact OwnsI.nil _ _, hk⟩
  · have hlt : g < w.heap.size := (Array.getElem?_eq_some_iff.1 hg).1
    refine (Tryd.slices_Sort_int g 0 cap zs w (holds_own hg ht) hlt (by omega)).mono ?_
    rintro e w' ⟨rfl, n, os, rfl⟩
    have hl : (sortL zs).length = zs.length := by simp
    refine ⟨rfl, ?_, kp_put hk hb⟩
    have := OwnsI.mk (zs := sortL zs) (cap := cap) hb (heap_put (d := sortL zs) (n := n) (os := os) hg) (by omega) hm (by rw [put_size, hs]) (by rw [put_take _ _ _ (Nat.le_refl _) (by rw [hl, hs]; exact hn'), List.take_length])
    rwa [hl] at this
theorem compactUpTo_le (d : Array Int) : ∀ m, (Lib.compactUpTo d m).length ≤ m
  | 0 => by simp [Lib.compactUpTo]
  | m + 1 => by
    have := compactUpTo_le d m
    rw [Lib.compactUpTo_succ, List.length_append]
    split <;> simp <;> omega
theorem compact_le (zs : List Int) : (Lib.compact zs).length ≤ zs.length := compactUpTo_le _ _
theorem compact_own (w0 w : World) (v : Value) (zs : List Int) (hk : Kp w0 w) (ho : OwnsI w w0.heap.size v zs) (hn : zs.length ≤ 100) :
    Calls Tryd.prog 25 #[v] w fun e w' => ∃ u, e = .returned u ∧ OwnsI w' w0.heap.size u (Lib.compact zs) ∧ Kp w0 w' := by
  rcases ho.parts with ⟨rfl, rfl⟩ | ⟨g, cap, cur, rfl, hb, hg, hn', hm, hs, ht⟩
  · refine (Tryd.slices_Compact_int_empty none 0 w).mono ?_
    rintro e w' ⟨rfl, rfl⟩
    exact ⟨_, rfl, OwnsI.nil _ _, hk⟩
  · refine (Tryd.slices_Compact_int g 0 cap zs w (holds_own hg ht) (by omega) hn').mono ?_
    rintro e w' ⟨rfl, n, rfl⟩
    have hl := compact_le zs
    have e : (Lib.compact zs ++ List.replicate (zs.length - (Lib.compact zs).length) 0).length = zs.length := by simp; omega
    have hp := heap_put (d := Lib.compact zs ++ List.replicate (zs.length - (Lib.compact zs).length) 0) (n := n) (os := #[]) hg
    have hq := kp_put (g := g) (n := n) (d := Lib.compact zs ++ List.replicate (zs.length - (Lib.compact zs).length) 0) (os := #[]) hk hb
    rw [Sort.grow_empty] at hp hq
    exact ⟨_, rfl, OwnsI.mk (zs := Lib.compact zs) (cap := cap) hb hp (by omega) hm (by rw [put_size, hs]) (by rw [put_take _ _ _ (by rw [e]; exact hl) (by rw [e, hs]; exact hn'), List.take_left']; rfl), hq⟩
end Go.Proofs.YtieffpgiliebmaaDoor
