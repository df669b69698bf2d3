/-
  A map of the program as a partial function of keys: what it holds, what a look-up gives, what a store and a delete leave. Any key's type that has the library's bundle 'Keyed'; any elements. No condition.
-/
import Derived.Test.YtnjdglejcfdonaaBlk
import Derived.Maps.Own
import Derived.Maps.OwnSet
namespace Go.Proofs.Ytnjdglejcfdonaa
open Go Go.RowKit Go.Maps Go.MapKept Go.ChangeMaps

/-- Block b is a map with keys of type k that holds C: of the keys' values, each element. -/
def KMap (P : Program) (k : TypeId) (w : World) (b : Nat) (C : Value → Option Value) : Prop :=
  ∃ es clock, w.heap[b]? = some (.map es clock) ∧ Stamped es clock ∧ (∀ x ∈ es.toList, ∃ l, keyOf P k x.key = some l) ∧
    (∀ x ∈ es.toList, C x.key = some x.val) ∧ ∀ z v, C z = some v → ∃ x ∈ es.toList, x.key = z

theorem KMap.new (P : Program) (k : TypeId) (w : World) : KMap P k (w.alloc (.map #[] 0)) w.heap.size fun _ => none :=
  ⟨#[], 0, heap_alloc_new w _, stamped_empty 0, by simp, by simp, by simp⟩
theorem KMap.lt {P : Program} {k : TypeId} {w : World} {b : Nat} {C : Value → Option Value} (h : KMap P k w b C) : b < w.heap.size := by
  obtain ⟨es, c, hb, -⟩ := h; exact lt_of_block hb
theorem KMap.same {P : Program} {k : TypeId} {w w' : World} {b : Nat} {C : Value → Option Value} (h : KMap P k w b C) (e : w'.heap[b]? = w.heap[b]?) : KMap P k w' b C := by
  obtain ⟨es, c, hb, r⟩ := h; exact ⟨es, c, e.trans hb, r⟩
theorem KMap.kp {P : Program} {k : TypeId} {w w' : World} {b : Nat} {C : Value → Option Value} (h : KMap P k w b C) (g : Kp w w') : KMap P k w' b C := h.same (Below.block g b h.lt)
theorem KMap.alloc {P : Program} {k : TypeId} {w : World} {b : Nat} {C : Value → Option Value} (h : KMap P k w b C) (o : Obj) : KMap P k (w.alloc o) b C := h.same (Below.heap_alloc w o b h.lt)
theorem KMap.drew {P : Program} {k : TypeId} {w : World} {b : Nat} {C : Value → Option Value} (h : KMap P k w b C) : KMap P k w.drew b C := h
theorem KMap.setCell {P : Program} {k : TypeId} {w : World} {b : Nat} {C : Value → Option Value} (h : KMap P k w b C) {a : Addr} (ha : b ≠ a.block) (u : Value) : KMap P k (w.setCell a u) b C := h.same (Below.heap_setCell w a u b ha)
theorem KMap.ext {P : Program} {k : TypeId} {w : World} {b : Nat} {C D : Value → Option Value} (h : KMap P k w b C) (e : ∀ z l, keyOf P k z = some l → D z = C z) (n : ∀ z, keyOf P k z = none → D z = none) : KMap P k w b D := by
  obtain ⟨es, c, hb, hs, hk, h1, h2⟩ := h
  refine ⟨es, c, hb, hs, hk, fun x hx => ?_, fun z v hz => ?_⟩
  · obtain ⟨l, hl⟩ := hk x hx
    rw [e _ _ hl]; exact h1 x hx
  · cases hl : keyOf P k z with
    | none => rw [n z hl] at hz; cases hz
    | some l => rw [e z l hl] at hz; exact h2 z v hz
/-- Two blocks, one a map, one a row of cells, are not one. -/
theorem KMap.ne {P : Program} {k : TypeId} {w : World} {b g : Nat} {C : Value → Option Value} {cs : Array Value} {t : TypeId} (h : KMap P k w b C) (hg : Blk w g cs t) : b ≠ g := by
  rintro rfl
  obtain ⟨es, c, hb, -⟩ := h
  unfold Blk at hg
  rw [hb] at hg; cases hg

/-- 'm[x]': what it holds, or nought. -/
theorem KMap.look {P : Program} {k t e : TypeId} {w : World} {b : Nat} {C : Value → Option Value} (h : KMap P k w b C) (K : Keyed P k) (ht : P.underlying t = some (.map k e)) {z : Value} (hz : (zeroValue e).run P w = .ok z w)
    {key : Value} {l : Lit} (hkey : keyOf P k key = some l) : (Instr.lookup t (.map (some b)) key false).run P w = .ok ((C key).getD z) w := by
  obtain ⟨es, c, hb, hs, hk, h1, h2⟩ := h
  rcases K.find w hkey es.toList hk with ⟨f1, f2⟩ | ⟨j, e0, f1, f2, f3⟩
  · have : C key = none := by
      cases hc : C key with
      | none => rfl
      | some v => obtain ⟨x, hx, hxe⟩ := h2 _ _ hc; exact absurd hxe (f2 x hx)
    simp [Instr.lookup, run_underlying ht, MapKept.run_getObj_map hb, K.check w _ hkey, f1, hz, Result.andThen, this]
  · have : C key = some e0.val := by rw [← f3]; exact h1 e0 (List.mem_of_getElem? f2)
    simp [Instr.lookup, run_underlying ht, MapKept.run_getObj_map hb, K.check w _ hkey, f1, Result.andThen, this]
/-- 'v, ok := m[x]'. -/
theorem KMap.look_ok {P : Program} {k t e : TypeId} {w : World} {b : Nat} {C : Value → Option Value} (h : KMap P k w b C) (K : Keyed P k) (ht : P.underlying t = some (.map k e)) {z : Value} (hz : (zeroValue e).run P w = .ok z w)
    {key : Value} {l : Lit} (hkey : keyOf P k key = some l) : (Instr.lookup t (.map (some b)) key true).run P w = .ok (.tuple #[(C key).getD z, .bool (C key).isSome]) w := by
  obtain ⟨es, c, hb, hs, hk, h1, h2⟩ := h
  rcases K.find w hkey es.toList hk with ⟨f1, f2⟩ | ⟨j, e0, f1, f2, f3⟩
  · have : C key = none := by
      cases hc : C key with
      | none => rfl
      | some v => obtain ⟨x, hx, hxe⟩ := h2 _ _ hc; exact absurd hxe (f2 x hx)
    simp [Instr.lookup, run_underlying ht, MapKept.run_getObj_map hb, K.check w _ hkey, f1, hz, Result.andThen, this]
  · have : C key = some e0.val := by rw [← f3]; exact h1 e0 (List.mem_of_getElem? f2)
    simp [Instr.lookup, run_underlying ht, MapKept.run_getObj_map hb, K.check w _ hkey, f1, Result.andThen, this]
/-- 'm[x] = v'. -/
theorem KMap.store {P : Program} {k t e : TypeId} {w : World} {b : Nat} {C : Value → Option Value} (h : KMap P k w b C) (K : Keyed P k) (ht : P.underlying t = some (.map k e)) {key : Value} {l : Lit} (hkey : keyOf P k key = some l) (val : Value)
    {C' : Value → Option Value} (c1 : C' key = some val) (c2 : ∀ z, z ≠ key → C' z = C z) :
    ∃ w', (Instr.mapUpdate t (.map (some b)) key val).run P w = .ok () w' ∧ KMap P k w' b C' ∧ w.mapTurned w' b := by
  obtain ⟨es, c, hb, hs, hk, h1, h2⟩ := h
  rcases K.find w hkey es.toList hk with ⟨f1, f2⟩ | ⟨j, e0, f1, f2, f3⟩
  · refine ⟨setBlock w b (.map (es.push ⟨key, val, c⟩) (c + 1)), by simp [Instr.mapUpdate, run_underlying ht, MapKept.run_getObj_map hb, K.check w false hkey, f1, MapKept.run_setObj_map _ hb, Result.andThen, setBlock], ⟨_, _, heap_setBlock_same hb _, stamped_push hs f2, ?_, ?_, ?_⟩, ⟨es, c, _, _, hb, rfl⟩⟩
    · intro x hx
      simp only [Array.toList_push, List.mem_append, List.mem_singleton] at hx
      rcases hx with hx | rfl
      · exact hk x hx
      · exact ⟨l, hkey⟩
    · intro x hx
      simp only [Array.toList_push, List.mem_append, List.mem_singleton] at hx
      rcases hx with hx | rfl
      · rw [c2 _ (f2 x hx)]; exact h1 x hx
      · exact c1
    · intro z v hz
      by_cases e : z = key
      · exact ⟨⟨key, val, c⟩, by simp, e.symm⟩
      · rw [c2 z e] at hz
        obtain ⟨x, hx, hxe⟩ := h2 z v hz
        exact ⟨x, by simp [Array.mem_toList_iff.1 hx], hxe⟩
  · have hj : es[j]? = some e0 := by simpa using f2
    have hlt : j < es.size := (Array.getElem?_eq_some_iff.1 hj).1
    have heq : ∀ e', es[j]? = some e' → ({ e' with key := key, val := val } : MapEntry).key = e'.key := fun e' he' => by rw [hj] at he'; cases he'; exact f3.symm
    have hks := modify_keys (es := es) j (fun e => { e with key := key, val := val }) heq
    have hst : Stamped (es.modify j fun e => { e with key := key, val := val }) c := stamped_modify hs _ _ (fun _ _ => rfl) (fun e' _ he' => heq e' he')
    have hat : ∀ i x, (es.modify j fun e => { e with key := key, val := val })[i]? = some x → (i = j ∧ x.key = key ∧ x.val = val) ∨ (i ≠ j ∧ es[i]? = some x) := by
      intro i x hx
      rw [Array.getElem?_modify] at hx
      by_cases e : i = j
      · subst e
        rw [if_pos rfl, hj] at hx
        simp only [Option.map_some, Option.some.injEq] at hx
        subst hx
        exact Or.inl ⟨rfl, rfl, rfl⟩
      · rw [if_neg (fun q => e q.symm)] at hx
        exact Or.inr ⟨e, hx⟩
    have hsep : ∀ i x, i ≠ j → es[i]? = some x → x.key ≠ key := by
      intro i x hne hx hxe
      have hn := hs.2.2
      have hi : i < es.size := (Array.getElem?_eq_some_iff.1 hx).1
      have e1 : (es.toList.map (·.key))[i]? = some key := by simp [hx, hxe]
      have e2 : (es.toList.map (·.key))[j]? = some key := by simp [hj, f3]
      exact hne ((List.getElem?_inj (by simpa using hi) hn).1 (e1.trans e2.symm))
    refine ⟨setBlock w b (.map (es.modify j fun e => { e with key := key, val := val }) c), by simp [Instr.mapUpdate, run_underlying ht, MapKept.run_getObj_map hb, K.check w false hkey, f1, hj, f3, K.stays w hkey, MapKept.run_setObj_map _ hb, Result.andThen, setBlock], ⟨_, _, heap_setBlock_same hb _, hst, ?_, ?_, ?_⟩, ⟨es, c, _, _, hb, rfl⟩⟩
    · intro x hx
      obtain ⟨i, hi⟩ := List.mem_iff_getElem?.1 hx
      rcases hat i x (by rw [← Array.getElem?_toList]; exact hi) with ⟨-, hxk, -⟩ | ⟨-, hxi⟩
      · exact ⟨l, by rw [hxk]; exact hkey⟩
      · exact hk x (List.mem_of_getElem? (by simpa using hxi : es.toList[i]? = some x))
    · intro x hx
      obtain ⟨i, hi⟩ := List.mem_iff_getElem?.1 hx
      rcases hat i x (by rw [← Array.getElem?_toList]; exact hi) with ⟨-, hxk, hxv⟩ | ⟨hne, hxi⟩
      · rw [hxk, hxv]; exact c1
      · rw [c2 _ (hsep i x hne hxi)]; exact h1 x (List.mem_of_getElem? (by simpa using hxi : es.toList[i]? = some x))
    · intro z v hz
      have : z ∈ es.toList.map (·.key) := by
        by_cases e : z = key
        · rw [e, ← f3]; exact List.mem_map.2 ⟨e0, List.mem_of_getElem? f2, rfl⟩
        · rw [c2 z e] at hz
          obtain ⟨x, hx, hxe⟩ := h2 z v hz
          exact List.mem_map.2 ⟨x, hx, hxe⟩
      rw [← hks] at this
      obtain ⟨x, hx, hxe⟩ := List.mem_map.1 this
      exact ⟨x, hx, hxe⟩
/-- 'delete(m, x)'. -/
theorem KMap.drop {P : Program} {k t e : TypeId} {w : World} {b : Nat} {C : Value → Option Value} (h : KMap P k w b C) (K : Keyed P k) (ht : P.underlying t = some (.map k e)) {key : Value} {l : Lit} (hkey : keyOf P k key = some l)
    {C' : Value → Option Value} (c1 : C' key = none) (c2 : ∀ z, z ≠ key → C' z = C z) (ty : TypeId) :
    ∃ w', (Builtin.delete_ #[t, k] ty #[.map (some b), key]).run P w = .ok (.tuple #[]) w' ∧ KMap P k w' b C' ∧ w.mapTurned w' b := by
  obtain ⟨es, c, hb, hs, hk, h1, h2⟩ := h
  rcases K.find w hkey es.toList hk with ⟨f1, f2⟩ | ⟨j, e0, f1, f2, f3⟩
  · refine ⟨setBlock w b (.map es c), by simp [Builtin.delete_, run_underlying ht, MapKept.run_getObj_map hb, K.check w _ hkey, f1, MapKept.run_setObj_map _ hb, Result.andThen, setBlock], ⟨_, _, heap_setBlock_same hb _, hs, hk, fun x hx => by rw [c2 _ (f2 x hx)]; exact h1 x hx, ?_⟩, ⟨es, c, _, _, hb, rfl⟩⟩
    intro z v hz
    by_cases e : z = key
    · rw [e, c1] at hz; cases hz
    · rw [c2 z e] at hz; exact h2 z v hz
  · have hj : es[j]? = some e0 := by simpa using f2
    have hlt : j < es.size := (Array.getElem?_eq_some_iff.1 hj).1
    have hel : (es.eraseIdxIfInBounds j).toList = es.toList.eraseIdx j := by
      unfold Array.eraseIdxIfInBounds
      rw [dif_pos hlt]; simp
    have hmem : ∀ x, x ∈ es.toList.eraseIdx j → x ∈ es.toList ∧ x.key ≠ key := by
      intro x hx
      refine ⟨(List.eraseIdx_sublist _ _).subset hx, fun hxe => ?_⟩
      obtain ⟨i, hi, hij⟩ := List.mem_eraseIdx_iff_getElem?.1 hx
      have hi' : es[i]? = some x := by simpa using hij
      have hil : i < es.size := (Array.getElem?_eq_some_iff.1 hi').1
      have e1 : (es.toList.map (·.key))[i]? = some key := by simp [hi', hxe]
      have e2 : (es.toList.map (·.key))[j]? = some key := by simp [hj, f3]
      exact hi ((List.getElem?_inj (by simpa using hil) hs.2.2).1 (e1.trans e2.symm))
    refine ⟨setBlock w b (.map (es.eraseIdxIfInBounds j) c), by simp [Builtin.delete_, run_underlying ht, MapKept.run_getObj_map hb, K.check w _ hkey, f1, MapKept.run_setObj_map _ hb, Result.andThen, setBlock], ⟨_, _, heap_setBlock_same hb _, stamped_erase hs _, ?_, ?_, ?_⟩, ⟨es, c, _, _, hb, rfl⟩⟩
    · intro x hx; rw [hel] at hx; exact hk x (hmem x hx).1
    · intro x hx; rw [hel] at hx; rw [c2 _ (hmem x hx).2]; exact h1 x (hmem x hx).1
    · intro z v hz
      by_cases e : z = key
      · rw [e, c1] at hz; cases hz
      · rw [c2 z e] at hz
        obtain ⟨x, hx, hxe⟩ := h2 z v hz
        refine ⟨x, ?_, hxe⟩
        rw [hel]
        obtain ⟨i, hi⟩ := List.mem_iff_getElem?.1 hx
        refine List.mem_eraseIdx_iff_getElem?.2 ⟨i, fun q => ?_, hi⟩
        subst q
        rw [f2] at hi
        cases hi
        exact e (hxe.symm.trans f3)
/-- What a store or a delete leaves of other blocks. -/
theorem turned_other {w w' : World} {b i : Nat} (h : w.mapTurned w' b) (hi : i ≠ b) : w'.heap[i]? = w.heap[i]? := by
  obtain ⟨es, c, es', c', hb, rfl⟩ := h
  exact heap_setBlock_other hb _ hi
theorem Kp.turned {w w1 w2 : World} {b : Nat} (h : Kp w w1) (g : w1.mapTurned w2 b) (hb : w.heap.size ≤ b) : Kp w w2 := h.grown g.grown (fun k hk => by cases hk; exact hb)
theorem Blk.turned {w w' : World} {b g : Nat} {cs : Array Value} {t : TypeId} (h : Blk w g cs t) (m : w.mapTurned w' b) (hg : g ≠ b) : Blk w' g cs t := (turned_other m hg).trans h
end Go.Proofs.Ytnjdglejcfdonaa
