/-
  FieldEach returns true, and leaves what lay as it lay. Condition: the library's table math/bits.deBruijn64tab holds what its initialiser lays.
-/
import Derived.Test.YtehbnidcjpbabaaDoorRangeB
import Derived.Test.YtehbnidcjpbabaaDoorEach
import Derived.Test.YtehbnidcjpbabaaDoorRefEach
import Derived.Test.YtehbnidcjpbabaaDoorWakes
namespace Go.Proofs.YtehbnidcjpbabaaDoor
open Go Go.RowKit Go.Shelf
attribute [local go_sem] Oper.semAt_some

theorem mkEach_any (x : BitVec 64) (w : World) : Calls Tryd.prog 5 #[.int .u64 x.toNat] w fun e w' => e = .returned (.func (.func 8) #[.int .u64 x.toNat] #[]) ∧ w' = w := by
  go_enter Tryd.func5, Tryd.ntmps5
  go_wp2
  go_ret
  exact ⟨rfl, rfl⟩
theorem each_gives (x : BitVec 64) (I : List Nat → World → Prop) (hT : ∀ pre W, I pre W → TabOk W) :
    Gives Tryd.prog 8 #[.int .u64 x.toNat] (fun t : Nat => #[.int .i64 (t : Nat)]) (places x) I :=
  fun l J Jx W hJI hY h0 => each_in x l J Jx W (fun pre W1 h => hT pre W1 (hJI pre W1 h)) hY h0

theorem seq_not_nil (n : Int) (w : World) : (binOp BinOp.eql 26 (.func (.func 8) #[.int .u64 n] #[]) Value.nilFunc).run Tryd.prog w = .ok (.bool false) w := by kernel_rfl
/-- A row that the call made, as a slice value whose cells are known. -/
theorem row_form {w : World} {base n : Nat} {e : TypeId} {v : Value} {xs : List Value} (h : w.ownsRow base e 1 v n xs) :
    ∃ A c, v = .slice A n c ∧ ∀ j u, xs[j]? = some u → ∃ g, A = some ⟨g, 0, none⟩ ∧ w.cell? ⟨g, j, none⟩ = some u := by
  obtain ⟨hl, h2⟩ := h
  rcases h2 with ⟨rfl, rfl⟩ | ⟨g, cap, cur, rfl, hb, hh, hn, hc, hs, hx⟩
  · refine ⟨none, 0, rfl, fun j u hu => ?_⟩
    have : xs = [] := List.length_eq_zero_iff.1 (by omega)
    subst this
    simp at hu
  · refine ⟨_, _, rfl, fun j u hu => ⟨g, rfl, ?_⟩⟩
    rw [cell_of_row w g j cur e (0, 0) hh]
    rw [← hx] at hu
    rw [← Array.getElem?_toList]
    rw [List.getElem?_take] at hu
    split at hu
    · exact hu
    · cases hu
/-- What the ranger's own cells hold between two rounds: B the parameter's box, B + 1 the result, S the row's variable, S + 1 the count. -/
def Inv (w : World) (S : Nat) (x : BitVec 64) (leave : Int) (A : Option Addr) (c : Nat) (pre : List Nat) (W : World) : Prop :=
  (W.cell? ⟨w.heap.size, 0, none⟩ = some (.int .i64 leave) ∧ W.cell? ⟨w.heap.size + 1, 0, none⟩ = some (.bool false) ∧ W.frozen? ⟨w.heap.size + 1, 0, none⟩ = false ∧
   W.cell? ⟨S, 0, none⟩ = some (.slice A (places x).length c) ∧ (∀ j u, (encs (places x))[j]? = some u → ∃ g, A = some ⟨g, 0, none⟩ ∧ W.cell? ⟨g, j, none⟩ = some u) ∧
   W.cell? ⟨S + 1, 0, none⟩ = some (.int .i64 (pre.length : Nat)) ∧ W.frozen? ⟨S + 1, 0, none⟩ = false ∧ TabOk W) ∧ Below w.heap.size w W
theorem Inv.own (w : World) (S : Nat) (x : BitVec 64) (leave : Int) (A : Option Addr) (c B : Nat) (hB : w.heap.size ≤ B) : OwnFrom B (Inv w S x leave A c) :=
  OwnFrom.and (Own.from (fun _ _ _ _ hs hg hr => by
    obtain ⟨h1, h2, h3, h4, h5, h6, h7, h8⟩ := hs
    exact ⟨cell_kept h1 hg hr, cell_kept h2 hg hr, (frozen_kept h2 hg hr).trans h3, cell_kept h4 hg hr, fun j u hu => by
      obtain ⟨g, hA, hc⟩ := h5 j u hu
      exact ⟨g, hA, cell_kept hc hg hr⟩, cell_kept h6 hg hr, (frozen_kept h6 hg hr).trans h7, fun i hi => cell_kept (h8 i hi) hg hr⟩) _) (ownFrom_below (Nat.le_refl _) hB)
/-- How a round may leave the loop: by the break, the count at 'leave'. -/
def Left (w : World) (S : Nat) (x : BitVec 64) (leave : Int) (A : Option Addr) (c : Nat) (j : Code) (pre : List Nat) (W : World) : Prop :=
  (j = .exit 0 ∧ (pre.length : Int) = leave) ∧ Inv w S x leave A c pre W
theorem Left.own (w : World) (S : Nat) (x : BitVec 64) (leave : Int) (A : Option Addr) (c B : Nat) (hB : w.heap.size ≤ B) (j : Code) : OwnFrom B (Left w S x leave A c j) :=
  OwnFrom.and (ownFrom_pure B (fun pre : List Nat => j = .exit 0 ∧ (pre.length : Int) = leave)) (Inv.own w S x leave A c B hB)
/-- The count goes on by one. -/
theorem Inv.next {w : World} {S : Nat} {x : BitVec 64} {leave : Int} {A : Option Addr} {c : Nat} {pre : List Nat} {t : Nat} {W : World} (h : Inv w S x leave A c pre W) (hS : w.heap.size + 2 ≤ S) (hg : ∀ g, A = some ⟨g, 0, none⟩ → g < S) (_h0 : 0 < w.heap.size) :
    Inv w S x leave A c (pre ++ [t]) (W.setCell ⟨S + 1, 0, none⟩ (.int .i64 ((pre.length : Int) + 1))) := by
  obtain ⟨⟨h1, h2, h3, h4, h5, h6, h7, h8⟩, hb⟩ := h
  have far : ∀ (p : Addr) (v : Value), W.cell? p = some v → p.block ≠ S + 1 → (W.setCell ⟨S + 1, 0, none⟩ (.int .i64 ((pre.length : Int) + 1))).cell? p = some v := fun p v hc hp =>
    (World.cell?_setCell_other W _ _ _ (fun e => hp (by first | rw [e] | rw [← e]))).trans hc
  refine ⟨⟨far _ _ h1 (by simp <;> omega), far _ _ h2 (by simp <;> omega), by rw [World.frozen?_setCell]; exact h3, far _ _ h4 (by simp <;> omega), fun j u hu => ?_, ?_, by rw [World.frozen?_setCell]; exact h7, fun i hi => far _ _ (h8 i hi) (by simp <;> omega)⟩,
    hb.setCell (p := ⟨S + 1, 0, none⟩) (by simp <;> omega) _⟩
  · obtain ⟨g, hA, hc⟩ := h5 j u hu
    have := hg g hA
    exact ⟨g, hA, far _ _ hc (by simp <;> omega)⟩
  · rw [World.cell?_setCell_same' W _ _ (by rw [h6]; rfl)]
    simp
set_option maxRecDepth 100000 in
set_option maxHeartbeats 2000000 in
theorem walkEach (x : BitVec 64) (leave : Int) (w : World) (hT : TabOk w) :
    Calls Tryd.prog 3 #[.int .u64 x.toNat, .int .i64 leave] w fun e w' => e = .returned (.bool true) ∧ Below w.heap.size w w' := by
  refine (callsIn_wide (n := 0)).1 ?_
  refine callsIn_of_wp_marks Tryd.func3 rfl trivial ?_ rfl
  simp only [Tryd.ntmps3, List.size_toArray, List.length_cons, List.length_nil, Nat.reduceAdd, Nat.reduceSub, Array.replicate_succ, Array.replicate_zero, List.push_toArray, List.append_toArray, List.nil_append, List.cons_append]
  gi_wp2_with fail
  refine ⟨trivial, rfl, (callsIn_wide.2 (reach_any x _)).mono ?_⟩
  rintro e W1 ⟨v, rfl, hown, hb1⟩
  obtain ⟨A, c, rfl, hrow⟩ := row_form hown
  have hAg : ∀ g, A = some ⟨g, 0, none⟩ → g < W1.heap.size := by
    intro g hA
    subst hA
    rcases hown.2 with ⟨h, _⟩ | ⟨g', cap, cur, hv, _, hh, _⟩
    · cases h
    · cases hv
      exact (Array.getElem?_eq_some_iff.1 hh).1
  gi_wp2_with fail
  refine ⟨trivial, rfl, (callsIn_wide.2 (mkEach_any x _)).mono ?_⟩
  rintro e w2 ⟨rfl, rfl⟩
  have hnn := seq_not_nil x.toNat
  gi_wp2_with fail
  clear hnn
  have hsz : w.heap.size + 2 ≤ W1.heap.size := by have := hb1.size; simp at this; omega
  have h00 : 0 < w.heap.size := World.block_lt_of_cell? w _ (hT 0 (by decide))
  have hBW : Below w.heap.size w W1 := ((((Below.refl _ w).alloc (Nat.le_refl _) _).alloc (by simp) _)).trans (hb1.mono (by simp <;> omega))
  obtain ⟨W0, hW0⟩ : ∃ W0, (W1.alloc (.cells #[.slice A (places x).length c] 23)).alloc (.cells #[.int .i64 0] 3) = W0 := ⟨_, rfl⟩
  have hs0 : W0.heap.size = W1.heap.size + 2 := by rw [← hW0]; simp
  have hinv : Inv w W1.heap.size x leave A c [] W0 := by
    have old : ∀ (p : Addr) (v : Value), W1.cell? p = some v → W0.cell? p = some v := fun p v hc => by
      have hlt := World.block_lt_of_cell? W1 _ hc
      rw [← hW0]
      exact ((World.cell?_alloc_lt _ _ _ (by rw [World.size_alloc]; omega)).trans (World.cell?_alloc_lt W1 _ p hlt)).trans hc
    have hS : W0.heap[W1.heap.size]? = some (.cells #[.slice A (places x).length c] 23 (0, 0)) := by
      rw [← hW0]; exact (Below.heap_alloc _ _ _ (by simp)).trans (World.alloc_heap_new W1 _)
    have hS1 : W0.heap[W1.heap.size + 1]? = some (.cells #[.int .i64 0] 3 (0, 0)) := by
      rw [← hW0]; have := World.alloc_heap_new (W1.alloc (.cells #[.slice A (places x).length c] 23)) (.cells #[.int .i64 0] 3); rwa [World.size_alloc] at this
    have hB1 : W0.heap[w.heap.size + 1]? = some (.cells #[.bool false] 4 (0, 0)) := by
      rw [← hW0, Below.heap_alloc _ _ _ (by simp; omega), Below.heap_alloc _ _ _ (by omega), hb1.block _ (by simp <;> omega)]
      have := World.alloc_heap_new (w.alloc (.cells #[.int .i64 leave] 3)) (.cells #[.bool false] 4); rwa [World.size_alloc] at this
    have hB0 : W0.heap[w.heap.size]? = some (.cells #[.int .i64 leave] 3 (0, 0)) := by
      rw [← hW0, Below.heap_alloc _ _ _ (by simp; omega), Below.heap_alloc _ _ _ (by omega), hb1.block _ (by simp <;> omega), Below.heap_alloc _ _ _ (by simp)]
      exact World.alloc_heap_new w _
    have box : ∀ (b : Nat) (v : Value) (t : TypeId), W0.heap[b]? = some (.cells #[v] t (0, 0)) → W0.cell? ⟨b, 0, none⟩ = some v ∧ W0.frozen? ⟨b, 0, none⟩ = false := fun b v t h =>
      ⟨by rw [cell_of_row W0 b 0 #[v] t (0, 0) h]; rfl, by simp [World.frozen?, h]⟩
    refine ⟨⟨(box _ _ _ hB0).1, (box _ _ _ hB1).1, (box _ _ _ hB1).2, (box _ _ _ hS).1, fun j u hu => ?_, (box _ _ _ hS1).1, (box _ _ _ hS1).2, fun i hi => old _ _ ((hBW.cell (p := ⟨0, i, none⟩) h00).trans (hT i hi))⟩, ?_⟩
    · obtain ⟨g, hA, hc⟩ := hrow j u hu
      exact ⟨g, hA, old _ _ hc⟩
    · rw [← hW0]
      exact (hBW.alloc hBW.size _).alloc (by have := hBW.size; simp; omega) _
  rw [hW0]
  refine range_bound (gf := 8) (bd := #[.int .u64 x.toNat]) (encs := fun t : Nat => #[.int .i64 (t : Nat)]) (xs := places x) rfl (enters_of Tryd.func8 (by kernel_rfl) rfl) (fun _ => rfl)
    (Inv w W1.heap.size x leave A c) (Left w W1.heap.size x leave A c) (each_gives x _ fun _ _ h => h.1.2.2.2.2.2.2.2) (Inv.own _ _ _ _ _ _ _ (by omega)) (Left.own _ _ _ _ _ _ _ (by omega)) hinv
    (fun t => { tmps := #[.int .u64 x.toNat, .int .i64 leave, undef, .pointer (some ⟨w.heap.size, 0, none⟩), .pointer (some ⟨w.heap.size + 1, 0, none⟩), .pointer (some ⟨W1.heap.size, 0, none⟩), .func (.func 8) #[.int .u64 x.toNat] #[],
      .pointer (some ⟨W1.heap.size + 1, 0, none⟩), .int .i64 (t : Nat), .int .u64 x.toNat, .slice A (places x).length c, .int .u64 x.toNat, .func (.func 8) #[.int .u64 x.toNat] #[], .func (.func 8) #[.int .u64 x.toNat] #[], .bool false,
      .func (.func 8) #[.int .u64 x.toNat] #[], .int .i64 (t : Nat), undef, undef, undef, undef, undef, undef, undef, undef, undef, undef, undef, undef, undef, undef, undef, undef, undef, undef, undef, undef, undef, undef, undef, undef, undef, undef, undef, undef, undef], defers := [] }) ?assign ?body ?done ?stop
  case assign =>
    intro l t W K hK
    gi_wp2
    exact hK
  case body =>
    rintro l pre t W hI hpre
    have hI' := Lib.hid hI
    obtain ⟨⟨h1, h2, h3, h4, h5, h6, h7, h8⟩, hb⟩ := hI
    have hlt : pre.length < (places x).length := by
      have := hpre.length_le
      rw [List.length_append] at this
      simp at this
      omega
    have h64 : (places x).length ≤ 64 := upto_length x 64
    have hp64 : pre.length ≤ 64 := by omega
    have hn1 : ¬ w.heap.size = W1.heap.size + 1 := by omega
    have hn2 : ¬ W1.heap.size + 1 = w.heap.size := by omega
    obtain ⟨g, hA, hc⟩ := h5 pre.length (.int .i64 (t : Nat)) (by
      obtain ⟨r, hr⟩ := hpre
      simp [encs, ← hr])
    subst hA
    have HN := Lib.hid (fun t : Nat => hI'.out.next (t := t) hsz hAg h00)
    have HPRE := Lib.hid hpre
    clear h5 h8 hT hpre h3 hrow hown hb1 hinv hb hBW hsz hs0 hAg h00
    by_cases hl : (pre.length : Int) + 1 = leave
    · have hl' : (((pre.length : Int) + 1) == leave) = true := by simpa using hl
      have HL := Lib.hid hl
      clear hl
      gi_wp2
      exact ⟨KeepsOthers.setCell _ _ _, ⟨rfl, by rw [← HL.out]; simp⟩, HN.out t⟩
    · have hl' : (((pre.length : Int) + 1) == leave) = false := by simpa using hl
      clear hl
      gi_wp2
      exact ⟨KeepsOthers.setCell _ _ _, trivial, HN.out t⟩
  case done =>
    rintro D W hD ⟨⟨h1, h2, h3, h4, h5, h6, h7, h8⟩, hb⟩ hK
    clear h5 h7 h8 hT hrow hown hb1 hinv hBW hAg h00
    gi_wp2
    refine ⟨trivial, rfl, (callsIn_wide.2 (wakes_any _)).mono ?_⟩
    rintro e W2 ⟨rfl, hk⟩
    have hc2 : W2.cell? ⟨w.heap.size + 1, 0, none⟩ = some (.bool false) := (hk.2.cell (p := ⟨w.heap.size + 1, 0, none⟩) (World.block_lt_of_cell? W _ h2)).trans h2
    have hf2 : W2.frozen? ⟨w.heap.size + 1, 0, none⟩ = false := (hk.1.2.1 _).trans h3
    have hK2 : W2.heap[D]? = some (.deferred (some [])) := (hk.2.block D (Array.getElem?_eq_some_iff.1 hK).1).trans hK
    have hb2 : Below w.heap.size w W2 := hb.trans (hk.2.mono hb.size)
    clear h2 h3 hK hk hb
    gi_wp2
    have hK3 := (KeepsOthers.setCell W2 ⟨w.heap.size + 1, 0, none⟩ (.bool true)).same D _ hK2 rfl
    refine ⟨by simp, .inl ⟨_, _, rfl, run_takeDeferred hK3, ?_⟩⟩
    have hc5 := cell_kept (World.cell?_setCell_same' W2 ⟨w.heap.size + 1, 0, none⟩ (.bool true) (by rw [hc2]; rfl)) (grownBy_putObj' _ D (.deferred none)) (fun r e => by cases e; exact ⟨_, hK3, rfl⟩)
    refine ⟨.bool true, ?_, rfl, (hb2.setCell (p := ⟨w.heap.size + 1, 0, none⟩) (by simp) _).trans (belowK_b (w := w) (Nat.le_refl _) _ D _ _ (by omega) hK3 rfl rfl)⟩
    simp [results, Tryd.f3, go_sem, hc5]
  case stop =>
    rintro D j pre W hD hpre ⟨⟨rfl, hl⟩, ⟨h1, h2, h3, h4, h5, h6, h7, h8⟩, hb⟩ hK
    clear h5 h7 h8 hT hrow hown hb1 hinv hBW hAg h00
    subst hl
    by_cases hn : pre.length = (places x).length
    · have hn' : ((pre.length : Int) == ((places x).length : Int)) = true := by simp; omega
      clear hn
      gi_wp2
      refine ⟨trivial, rfl, (callsIn_wide.2 (wakes_any _)).mono ?_⟩
      rintro e W2 ⟨rfl, hk⟩
      have hc2 : W2.cell? ⟨w.heap.size + 1, 0, none⟩ = some (.bool false) := (hk.2.cell (p := ⟨w.heap.size + 1, 0, none⟩) (World.block_lt_of_cell? W _ h2)).trans h2
      have hf2 : W2.frozen? ⟨w.heap.size + 1, 0, none⟩ = false := (hk.1.2.1 _).trans h3
      have hK2 : W2.heap[D]? = some (.deferred (some [])) := (hk.2.block D (Array.getElem?_eq_some_iff.1 hK).1).trans hK
      have hb2 : Below w.heap.size w W2 := hb.trans (hk.2.mono hb.size)
      clear h2 h3 hK hk hb
      gi_wp2
      have hK3 := (KeepsOthers.setCell W2 ⟨w.heap.size + 1, 0, none⟩ (.bool true)).same D _ hK2 rfl
      refine ⟨by simp, .inl ⟨_, _, rfl, run_takeDeferred hK3, ?_⟩⟩
      have hc5 := cell_kept (World.cell?_setCell_same' W2 ⟨w.heap.size + 1, 0, none⟩ (.bool true) (by rw [hc2]; rfl)) (grownBy_putObj' _ D (.deferred none)) (fun r e => by cases e; exact ⟨_, hK3, rfl⟩)
      refine ⟨.bool true, ?_, rfl, (hb2.setCell (p := ⟨w.heap.size + 1, 0, none⟩) (by simp) _).trans (belowK_b (w := w) (Nat.le_refl _) _ D _ _ (by omega) hK3 rfl rfl)⟩
      simp [results, Tryd.f3, go_sem, hc5]
    · have hn' : ((pre.length : Int) == ((places x).length : Int)) = false := by simp; omega
      clear hn
      gi_wp2
      refine ⟨trivial, rfl, (callsIn_wide.2 (wakes_any _)).mono ?_⟩
      rintro e W2 ⟨rfl, hk⟩
      have hc2 : W2.cell? ⟨w.heap.size + 1, 0, none⟩ = some (.bool false) := (hk.2.cell (p := ⟨w.heap.size + 1, 0, none⟩) (World.block_lt_of_cell? W _ h2)).trans h2
      have hf2 : W2.frozen? ⟨w.heap.size + 1, 0, none⟩ = false := (hk.1.2.1 _).trans h3
      have hK2 : W2.heap[D]? = some (.deferred (some [])) := (hk.2.block D (Array.getElem?_eq_some_iff.1 hK).1).trans hK
      have hb2 : Below w.heap.size w W2 := hb.trans (hk.2.mono hb.size)
      clear h2 h3 hK hk hb
      gi_wp2
      have hK3 := (KeepsOthers.setCell W2 ⟨w.heap.size + 1, 0, none⟩ (.bool true)).same D _ hK2 rfl
      refine ⟨by simp, .inl ⟨_, _, rfl, run_takeDeferred hK3, ?_⟩⟩
      have hc5 := cell_kept (World.cell?_setCell_same' W2 ⟨w.heap.size + 1, 0, none⟩ (.bool true) (by rw [hc2]; rfl)) (grownBy_putObj' _ D (.deferred none)) (fun r e => by cases e; exact ⟨_, hK3, rfl⟩)
      refine ⟨.bool true, ?_, rfl, (hb2.setCell (p := ⟨w.heap.size + 1, 0, none⟩) (by simp) _).trans (belowK_b (w := w) (Nat.le_refl _) _ D _ _ (by omega) hK3 rfl rfl)⟩
      simp [results, Tryd.f3, go_sem, hc5]
end Go.Proofs.YtehbnidcjpbabaaDoor
