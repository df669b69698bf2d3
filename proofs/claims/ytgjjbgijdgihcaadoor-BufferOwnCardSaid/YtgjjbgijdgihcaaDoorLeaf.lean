/-
  A variable that is listed with a datum of integers and bools holds just these cells: through structs and arrays of any depth. No condition.
-/
import Derived.Test.YtgjjbgijdgihcaaDoorFlat
import Derived.LaidMore
namespace Go.Proofs.YtgjjbgijdgihcaaDoor
open Go Go.RowKit Go.ChangeShapes Go.WideShapes

/-- The cells of a datum, one by one. -/
def leaves {H : Type} : Nat → DataW H → List Value
  | _ + 1, .lit (.int k a) => [.int k a]
  | _ + 1, .lit (.bool b) => [.bool b]
  | n + 1, .agg ds => ds.flatMap (leaves n)
  | _, _ => []
section
variable {H : Type} {enc : TypeId × Value → H} {P : Program} {w : World} {base : Nat} {spare : Nat → Bool} {held : Bool}
theorem leaf_fields {n m : Nat} {cs : List Value} (ih : ∀ t ks cs x, cellKinds P n t = some ks → DataW.trod enc P w base spare held m t cs = some x → leaves n x.1 = cs) :
    ∀ (fs : List Field) (off : Nat) (ks : List (Option IntKind)) (ys : List (DataW H × List MemPlace)), fieldKinds (cellKinds P n) P.cellsOf off fs = some ks → ys.length = fs.length →
      (∀ (i : Nat) (f : Field), fs[i]? = some f → DataW.trod enc P w base spare held m f.type ((cs.drop f.offset).take (P.cellsOf f.type)) = ys[i]?) → (cs.drop off).length = ks.length → (ys.map (·.1)).flatMap (leaves n) = cs.drop off
  | [], off, ks, ys, h, hy, _, hl => by
    simp [fieldKinds] at h
    subst h
    obtain rfl : ys = [] := List.length_eq_zero_iff.1 hy
    rw [List.length_eq_zero_iff.1 hl]
    rfl
  | f :: fs, off, ks, ys, h, hy, hi, hl => by
    unfold fieldKinds at h
    split at h
    · rename_i a b ha hb
      split at h
      · rename_i hc
        obtain ⟨ho, hs⟩ := hc
        cases h
        cases ys with
        | nil => simp at hy
        | cons y ys =>
          have h0 := hi 0 f rfl
          have h1 := ih _ _ _ _ ha (h0.trans rfl)
          have h2 := leaf_fields ih fs _ _ ys hb (by simpa using hy) (fun i g hg => hi (i + 1) g hg) (by
            rw [List.length_append] at hl
            rw [← List.drop_drop, List.length_drop, hl]; omega)
          rw [List.map_cons, List.flatMap_cons, h1, h2, ho, ← List.drop_drop, List.take_append_drop]
      · cases h
    · cases h
theorem leaf_array {n s : Nat} : ∀ (k : Nat) (cs : List Value) (ys : List (DataW H × List MemPlace)), cs.length = k * s → ys.length = k → (∀ (i : Nat) (y : DataW H × List MemPlace), ys[i]? = some y → leaves n y.1 = (cs.drop (i * s)).take s) → (ys.map (·.1)).flatMap (leaves n) = cs
  | 0, cs, ys, hl, hy, _ => by
    have e : cs = [] := by simpa using hl
    obtain rfl : ys = [] := List.length_eq_zero_iff.1 hy
    subst e; rfl
  | k + 1, cs, ys, hl, hy, h => by
    cases ys with
    | nil => simp at hy
    | cons y ys =>
      have h0 := h 0 y rfl
      rw [Nat.zero_mul, List.drop_zero] at h0
      have h1 := leaf_array (n := n) (s := s) k (cs.drop s) ys (by rw [List.length_drop, hl, Nat.succ_mul]; omega) (by simpa using hy) (fun i z hz => by
        have := h (i + 1) z hz
        rwa [Nat.succ_mul, Nat.add_comm, ← List.drop_drop] at this)
      rw [List.map_cons, List.flatMap_cons, h0, h1, List.take_append_drop]
theorem leaves_of : ∀ (n : Nat) (m : Nat) (t : TypeId) (ks : List (Option IntKind)) (cs : List Value) (x : DataW H × List MemPlace), cellKinds P n t = some ks → DataW.trod enc P w base spare held m t cs = some x → leaves n x.1 = cs
  | 0, _, _, _, _, _, h, _ => by simp [cellKinds] at h
  | n + 1, m, t, ks, cs, x, h, hx => by
    unfold cellKinds at h
    split at h
    · rename_i hu
      cases h
      cases m with
      | zero => simp [DataW.trod] at hx
      | succ m =>
        unfold DataW.trod at hx
        rw [hu] at hx
        split at hx <;> simp_all
        subst hx
        rfl
    · rename_i k hu
      cases h
      obtain ⟨a, rfl, rfl, wa⟩ := DataW.trod_int hu hx
      rfl
    · rename_i fs hu
      split at h
      · rename_i a ha
        split at h
        · rename_i hc
          cases h
          obtain ⟨xs, m', rfl, rfl, hl, hn, hi⟩ := DataW.trod_struct hu hx
          have := leaf_fields (cs := cs) (fun t ks cs x => leaves_of n m' t ks cs x) fs.toList 0 ks xs ha (by simpa using hn) (fun i f hf => hi i f (by simpa using hf)) (by simp; omega)
          simpa [leaves] using this
        · cases h
      · cases h
    · rename_i k e hu
      split at h
      · rename_i a ha
        split at h
        · rename_i hc
          cases h
          obtain ⟨xs, m', rfl, rfl, hl, hn, hi⟩ := DataW.trod_array hu hx
          have := leaf_array (n := n) (s := a.length) k cs xs (by omega) hn (fun i y hy => by
            have hik : i < k := by
              have := (List.getElem?_eq_some_iff.1 hy).1
              omega
            rw [hc.1]
            exact leaves_of n m' _ _ _ _ ha ((hi i hik).trans hy))
          simpa [leaves] using this
        · cases h
      · cases h
    · cases h
end
/-- What a walk reads of a listed variable, cell by cell. -/
theorem laid_cell {P : Program} {W : World} {name : String} {d : DataW Unit} {rest : List (String × DataW Unit)} {g n i : Nat} {t : TypeId} {ks : List (Option IntKind)} {v : Value}
    (hg : P.globalNamed name = some g) (hty : (P.globals[g]?).map (·.type) = some t) (hk : cellKinds P n t = some ks) (h : laidMet P ((name, d) :: rest) W) (hv : (leaves n d)[i]? = some v) : W.cell? ⟨g, i, none⟩ = some v := by
  obtain ⟨ps, ⟨g', t', cs, fuel, p, q, hg', ht', hvar, hd, _, _⟩, _⟩ := h
  obtain rfl := Option.some.inj (hg.symm.trans hg')
  obtain rfl := Option.some.inj (hty.symm.trans ht')
  have e := leaves_of n fuel t ks cs.toList _ hk hd
  have e' : leaves n d = cs.toList := e
  rw [e'] at hv
  rw [World.var?_cell hg hvar i]
  simpa using hv
end Go.Proofs.YtgjjbgijdgihcaaDoor
