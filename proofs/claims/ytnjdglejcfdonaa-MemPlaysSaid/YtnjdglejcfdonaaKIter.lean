/-
  A range over a map of the program under way: which keys are still to come, the step, the entry; whatever the order. Any key's type that has the library's bundle 'Keyed'; any elements. No condition.
-/
import Derived.Test.YtnjdglejcfdonaaKMap
import Derived.Maps.RangeWalk
namespace Go.Proofs.Ytnjdglejcfdonaa
open Go Go.RowKit Go.Maps Go.MapKept Go.ChangeMaps

/-- Block b is a map that holds C, block r an iterator over it; 'left': which keys are still to come; cnt: how many. -/
def KIter (P : Program) (k : TypeId) (w : World) (b r : Nat) (C : Value → Option Value) (left : Value → Prop) (cnt : Nat) : Prop :=
  ∃ es clock since seen c0, w.heap[b]? = some (.map es clock) ∧ Stamped es clock ∧ (∀ x ∈ es.toList, ∃ l, keyOf P k x.key = some l) ∧
    (∀ x ∈ es.toList, C x.key = some x.val) ∧ (∀ z v, C z = some v → ∃ x ∈ es.toList, x.key = z) ∧
    w.heap[r]? = some (.mapIter (some b) since seen c0) ∧ (∀ x ∈ es.toList, x.born < since) ∧ (leftOf es seen).size = cnt ∧
    (∀ x ∈ es.toList, left x.key ↔ seen.contains x.born = false) ∧ since ≤ c0 ∧ since ≤ clock
variable {P : Program} {k : TypeId} {w : World} {b r : Nat} {C : Value → Option Value} {left : Value → Prop} {cnt : Nat}
theorem KIter.map (h : KIter P k w b r C left cnt) : KMap P k w b C := by
  obtain ⟨es, clock, _, _, _, hb, hs, hk, h1, h2, _⟩ := h
  exact ⟨es, clock, hb, hs, hk, h1, h2⟩
theorem KIter.lt (h : KIter P k w b r C left cnt) : r < w.heap.size := by
  obtain ⟨es, clock, _, _, _, _, _, _, _, _, hr, _⟩ := h
  exact lt_of_block hr
theorem KIter.ne (h : KIter P k w b r C left cnt) : r ≠ b := by
  obtain ⟨es, clock, _, _, _, hb, _, _, _, _, hr, _⟩ := h
  rintro rfl
  rw [hb] at hr
  cases hr
theorem KIter.left_eq (h : KIter P k w b r C left cnt) : w.rangeLeft b r = cnt := by
  obtain ⟨es, clock, since, seen, c0, hb, _, _, _, _, hr, _, hc, _⟩ := h
  simp only [World.rangeLeft, hb, hr]
  exact hc
theorem KIter.same {w' : World} (h : KIter P k w b r C left cnt) (eb : w'.heap[b]? = w.heap[b]?) (er : w'.heap[r]? = w.heap[r]?) : KIter P k w' b r C left cnt := by
  obtain ⟨es, clock, since, seen, c0, hb, hs, hk, h1, h2, hr, rest⟩ := h
  exact ⟨es, clock, since, seen, c0, eb.trans hb, hs, hk, h1, h2, er.trans hr, rest⟩
theorem KIter.kp {w' : World} (h : KIter P k w b r C left cnt) (g : Kp w w') : KIter P k w' b r C left cnt := h.same (Below.block g b h.map.lt) (Below.block g r h.lt)
theorem KIter.turned {w' : World} {m : Nat} (h : KIter P k w b r C left cnt) (g : w.mapTurned w' m) (hb : b ≠ m) (hr : r ≠ m) : KIter P k w' b r C left cnt := h.same (turned_other g hb) (turned_other g hr)
theorem KIter.setCell (h : KIter P k w b r C left cnt) {a : Addr} (hb : b ≠ a.block) (hr : r ≠ a.block) (u : Value) : KIter P k (w.setCell a u) b r C left cnt := h.same (Below.heap_setCell w a u b hb) (Below.heap_setCell w a u r hr)
/-- 'range m'. -/
theorem KMap.range {t e : TypeId} (h : KMap P k w b C) (ht : P.underlying t = some (.map k e)) :
    ∃ w' cnt, (Instr.range t (.map (some b))).run P w = .ok (.pointer (some ⟨w.heap.size, 0, none⟩)) w' ∧ KIter P k w' b w.heap.size C (fun z => (C z).isSome = true) cnt ∧ Kp w w' ∧ w'.heap.size = w.heap.size + 1 := by
  have hlt := h.lt
  obtain ⟨es, clock, hb, hs, hk, h1, h2⟩ := h
  refine ⟨_, _, run_range_map w t k e b es clock ht hb, ⟨es, clock, clock, #[], clock, (Below.heap_alloc w _ b hlt).trans hb, hs, hk, h1, h2, heap_alloc_new w _, hs.1, rfl, fun x hx => ?_, Nat.le_refl _, Nat.le_refl _⟩, ?_, by simp⟩
  · show (C x.key).isSome = true ↔ _
    rw [h1 x hx]; simp
  · exact ⟨rfl, rfl, rfl, by simp, fun j hj => Below.heap_alloc w _ j hj⟩
/-- The step: nothing is left; or some key that is still to come comes out. -/
theorem KIter.next (h : KIter P k w b r C left cnt) (ty : TypeId) :
    ((∀ z v, C z = some v → ¬ left z) ∧ (Instr.next (.pointer (some ⟨r, 0, none⟩)) false ty).run P w = .ok (.tuple #[.bool false]) w) ∨
    ∃ key v w' cnt', C key = some v ∧ left key ∧ (Instr.next (.pointer (some ⟨r, 0, none⟩)) false ty).run P w = .ok (.tuple #[.bool true, key, v]) w' ∧
      KIter P k w' b r C (fun z => left z ∧ z ≠ key) cnt' ∧ cnt' < cnt ∧ w.grownBy w' (some r) ∧ w'.heap.size = w.heap.size ∧ (Instr.entry (.pointer (some ⟨r, 0, none⟩))).run P w' = .ok (.tuple #[key, v]) w' := by
  have hne := h.ne
  obtain ⟨es, clock, since, seen, c0, hb, hs, hk, h1, h2, hr, hold, rfl, hl1, hsc, hsk⟩ := h
  rcases run_next_at (P := P) w ty r b since c0 seen es clock hr hb hold hsc with ⟨h0, hrun⟩ | ⟨e, he, w1, hal, hrun⟩
  · refine Or.inl ⟨fun z v hz => ?_, hrun⟩
    obtain ⟨x, hx, rfl⟩ := h2 z v hz
    rw [hl1 x hx, all_seen es seen h0 x hx]
    simp
  · obtain ⟨hem, hes⟩ := mem_left he
    have hr1 : w1.heap[r]? = some (.mapIter (some b) since seen c0) := by rcases hal with rfl | rfl <;> exact hr
    have hb1 : w1.heap[b]? = some (.map es clock) := by rcases hal with rfl | rfl <;> exact hb
    have hset := heap_set (o' := .mapIter (some b) since (seen.push e.born) clock) hr1
    have s1 := hset.1
    have s2 : ∀ i, i ≠ r → (setBlock w1 r (.mapIter (some b) since (seen.push e.born) clock)).heap[i]? = w1.heap[i]? := fun i hi => hset.2 i hi
    have hb' := (s2 b (fun e1 => hne e1.symm)).trans hb1
    refine Or.inr ⟨e.key, e.val, _, _, h1 e hem, (hl1 e hem).2 hes, hrun,
      ⟨es, clock, since, seen.push e.born, clock, hb', hs, hk, h1, h2, s1, hold, rfl, fun x hx => ?_, hsk, hsk⟩, left_shrinks es seen e he, ?_, ?_,
      run_entry_at _ r b since seen es clock e s1 hb' hem hs.2.1⟩
    · show (left x.key ∧ x.key ≠ e.key) ↔ _
      have hbk : (x.key = e.key) ↔ (x.born = e.born) := by
        obtain ⟨i, hi⟩ := List.mem_iff_getElem?.1 hx
        obtain ⟨j, hj⟩ := List.mem_iff_getElem?.1 hem
        have li := (List.getElem?_eq_some_iff.1 hi).1
        constructor
        · intro q
          have e1 : (es.toList.map (·.key))[i]? = some x.key := by rw [List.getElem?_map, hi]; rfl
          have e2 : (es.toList.map (·.key))[j]? = some x.key := by rw [List.getElem?_map, hj, q]; rfl
          have := (List.getElem?_inj (by simpa using li) hs.2.2).1 (e1.trans e2.symm)
          subst this
          rw [hi] at hj
          rw [Option.some.inj hj]
        · intro q
          have e1 : (es.toList.map (·.born))[i]? = some x.born := by rw [List.getElem?_map, hi]; rfl
          have e2 : (es.toList.map (·.born))[j]? = some x.born := by rw [List.getElem?_map, hj, q]; rfl
          have := (List.getElem?_inj (by simpa using li) hs.2.1).1 (e1.trans e2.symm)
          subst this
          rw [hi] at hj
          rw [Option.some.inj hj]
      rw [hl1 x hx, contains_push]
      by_cases q : x.key = e.key
      · have q2 := hbk.1 q
        simp [q, q2]
      · have q2 : ¬ x.born = e.born := fun q2 => q (hbk.2 q2)
        simp [q, q2]
    · rcases hal with rfl | rfl
      · exact ⟨rfl, rfl, rfl, by simp [setBlock], fun i _ hi => s2 i (fun e1 => hi (by rw [e1]))⟩
      · exact ⟨rfl, rfl, rfl, by simp [setBlock], fun i _ hi => s2 i (fun e1 => hi (by rw [e1]))⟩
    · rcases hal with rfl | rfl <;> simp [setBlock]
/-! At the operations. -/
theorem wpList_range_k {ops : Array Oper} {rest : List Oper} {o : Oper} {a : Act} {Q : Exit → Act → World → Prop} (hg : o.guard = none) (m : Operand) (t : TypeId) (hop : o.op = Op.range t m) {e : TypeId} (ht : P.underlying t = some (.map k e))
    (hm : a.eval m = .map (some b)) (h : KMap P k w b C)
    (hK : ∀ w' cnt, KIter P k w' b w.heap.size C (fun z => (C z).isSome = true) cnt → Kp w w' → w'.heap.size = w.heap.size + 1 → wpList P ops Q rest (a.put o.dst (.pointer (some ⟨w.heap.size, 0, none⟩))) w') :
    wpList P ops Q (o :: rest) a w := by
  refine wpList_plain hg fun K' hK' => ?_
  obtain ⟨w', cnt, hrun, r1, r2, r3⟩ := h.range ht
  unfold Oper.wp
  simp [execOp, hop, hm, hrun, Result.andThen]
  exact hK' _ _ (hK w' cnt r1 r2 r3)
theorem wpList_next_k {ops : Array Oper} {rest : List Oper} {o : Oper} {a : Act} {Q : Exit → Act → World → Prop} (hg : o.guard = none) (it : Operand) (hop : o.op = Op.next it false)
    (hit : a.eval it = .pointer (some ⟨r, 0, none⟩)) (h : KIter P k w b r C left cnt)
    (hDone : (∀ z v, C z = some v → ¬ left z) → wpList P ops Q rest (a.put o.dst (.tuple #[.bool false])) w)
    (hMore : ∀ key v w' cnt', C key = some v → left key → KIter P k w' b r C (fun z => left z ∧ z ≠ key) cnt' → cnt' < cnt → w.grownBy w' (some r) → w'.heap.size = w.heap.size →
      (Instr.entry (.pointer (some ⟨r, 0, none⟩))).run P w' = .ok (.tuple #[key, v]) w' → wpList P ops Q rest (a.put o.dst (.tuple #[.bool true, key, v])) w') :
    wpList P ops Q (o :: rest) a w := by
  refine wpList_plain hg fun K' hK' => ?_
  unfold Oper.wp
  rcases h.next o.type with ⟨hl, hrun⟩ | ⟨key, v, w', cnt', hkey, hlk, hrun, hrg, hlt, hgr, hsz, hen⟩
  · simp [execOp, hop, hit, hrun, Result.andThen]
    exact hK' _ _ (hDone hl)
  · simp [execOp, hop, hit, hrun, Result.andThen]
    exact hK' _ _ (hMore key v w' cnt' hkey hlk hrg hlt hgr hsz hen)
end Go.Proofs.Ytnjdglejcfdonaa
