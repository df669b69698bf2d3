/-
  An argument that is a slice of elements of one-cell integers and bools (through structs and arrays), opened: its cells, one element behind the other. No condition.
-/
import Derived.Test.YtgjjbgijdgihcaaDoorFlat
import Derived.ChangeArms
import Derived.DataReads
import Derived.WideShapes
import Derived.Laws.LoneSync
namespace Go.Proofs.YtgjjbgijdgihcaaDoor
open Go Go.RowKit Go.ChangeShapes Go.WideShapes

theorem list_of' {α : Type} {Q : Nat → α → Prop} : ∀ n, (∀ i, i < n → ∃ x, Q i x) → ∃ L : List α, L.length = n ∧ ∀ i x, L[i]? = some x → Q i x
  | 0, _ => ⟨[], rfl, fun i x h => by simp at h⟩
  | n + 1, h => by
    obtain ⟨L, hl, hq⟩ := list_of' n (fun i hi => h i (by omega))
    obtain ⟨x, hx⟩ := h n (by omega)
    refine ⟨L ++ [x], by simp [hl], fun i y hy => ?_⟩
    by_cases c : i < n
    · rw [List.getElem?_append_left (by omega)] at hy
      exact hq i y hy
    · rw [List.getElem?_append_right (by omega)] at hy
      have hi : i = n := by
        have := (List.getElem?_eq_some_iff.1 hy).1
        simp at this
        omega
      subst hi
      rw [hl, Nat.sub_self] at hy
      cases hy
      exact hx
/-- The elements' cells, c cells each, from ⟨b, off⟩ on. -/
def RowsIn (w : World) (b off c : Nat) (ks : List (Option IntKind)) (L : List (List Value)) : Prop := ∀ k cs, L[k]? = some cs → AllFit ks cs ∧ ∀ j u, cs[j]? = some u → w.cell? ⟨b, off + k * c + j, none⟩ = some u
theorem lt_of_cell' {w : World} {b o : Nat} {v : Value} (h : w.cell? ⟨b, o, none⟩ = some v) : b < w.heap.size := by
  unfold World.cell? at h
  apply Nat.lt_of_not_le
  intro hn
  rw [Array.getElem?_eq_none hn] at h
  simp at h
section
variable {H : Type} {enc : TypeId × Value → H} {P : Program} {w : World} {base : Nat} {spare : Nat → Bool} {held : Bool}
theorem open_rows {r : Reach} {b0 c n0 : Nat} {t e : TypeId} {k0 : Option IntKind} {ks : List (Option IntKind)} {v : Value} {d : DataW H} {ps : List MemPlace} (ht : P.underlying t = some (.slice e)) (hk : cellKinds P n0 e = some (k0 :: ks)) (hC : P.cellsOf e = c) (hc : (k0 :: ks).length = c)
    (hval : Value.okWide P w r b0 t v) (hd : DataW.Trod enc P w base spare held t v d ps) :
    ∃ (L : List (List Value)) (b off cap : Nat) (a0 : Option Addr), v = .slice a0 L.length cap ∧ (L ≠ [] → a0 = some ⟨b, off, none⟩) ∧ RowsIn w b off c (k0 :: ks) L ∧ (L ≠ [] → b < w.heap.size) ∧ L.length ≤ 9223372036854775807 ∧ L.length ≤ cap := by
  obtain ⟨a, len, cap, rfl⟩ := okWide_slice ht hval
  obtain ⟨fuel, hf⟩ := hd
  have hf' : DataW.trod enc P w base spare held fuel t [.slice a len cap] = some (d, ps) := hf
  rcases DataW.trod_slice ht hf' with ⟨hcs, -⟩ | ⟨ad, len', cap', elems, rest, n, -, hcs, -, hb, hl, hc', hel, hi, -⟩
  · cases hcs
    exact ⟨[], 0, 0, 0, none, rfl, fun h => absurd rfl h, fun k i h => by simp at h, fun h => absurd rfl h, by decide, Nat.le_refl _⟩
  · cases hcs
    have each : ∀ i, i < len → ∃ cs : List Value, AllFit (k0 :: ks) cs ∧ ∀ j u, cs[j]? = some u → w.cell? ((ad.add (i * c)).add j) = some u := by
      intro i hil
      have h1 := hi i hil
      rw [hC, List.getElem?_eq_getElem (show i < elems.length by omega)] at h1
      obtain ⟨cs', h2, h3⟩ := Option.bind_eq_some_iff.1 h1
      have hfit := (fit_of n0 _ e _ cs' _ hk h3).1
      obtain ⟨_, hlen, hat⟩ := World.cells?_some h2
      refine ⟨cs', hfit, fun j u hu => ?_⟩
      have hj : j < c := by have := (List.getElem?_eq_some_iff.1 hu).1; omega
      rw [hat j hj]
      exact hu
    obtain ⟨L, hL, hQ⟩ := list_of' len each
    refine ⟨L, ad.block, ad.off, cap, some ad, by rw [hL], ?_⟩
    have hbig : L.length ≤ 9223372036854775807 ∧ L.length ≤ cap := by
      have : maxLen = 9223372036854775807 := rfl
      omega
    by_cases hne : L = []
    · subst hne
      exact ⟨fun h => absurd rfl h, fun k i h => by simp at h, fun h => absurd rfl h, hbig⟩
    · obtain ⟨x, hx⟩ : ∃ x, L[0]? = some x := ⟨_, List.getElem?_eq_getElem (List.length_pos_iff.2 hne)⟩
      obtain ⟨u0, hu0⟩ : ∃ u, x[0]? = some u := by
        have hfit := (hQ 0 x hx).1
        cases x with
        | nil => exact absurd hfit (by intro h; obtain ⟨_, _, h, _⟩ := h; cases h)
        | cons u _ => exact ⟨u, rfl⟩
      have hx0 := (hQ 0 x hx).2 0 _ hu0
      obtain ⟨b, off, sp⟩ := ad
      have hsp : sp = none := by
        obtain ⟨_, _, _, _, h⟩ := World.shape?_of_cell? hx0
        cases sp with
        | none => rfl
        | some s => simp [Addr.add] at h
      subst hsp
      have e : ∀ i j, ((⟨b, off, none⟩ : Addr).add i).add j = ⟨b, off + i + j, none⟩ := fun i j => by
        by_cases h1 : i = 0 <;> by_cases h2 : j = 0 <;> simp [Addr.add, h1, h2]
      have hI : RowsIn w b off c (k0 :: ks) L := fun k i hk => ⟨(hQ k i hk).1, fun j v hv => by
        have := (hQ k i hk).2 j v hv
        rwa [e] at this⟩
      refine ⟨fun _ => rfl, hI, fun _ => ?_, hbig⟩
      exact lt_of_cell' ((hI 0 x hx).2 0 _ hu0)
end
end Go.Proofs.YtgjjbgijdgihcaaDoor
