/-
  An argument that is a slice of instructions, opened: its cells, one instruction behind the other. No condition.
-/
import Derived.Test.YtfbkppncaampdaaDoorImage07
import Derived.Test.YtfbkppncaampdaaDoorFlat
import Derived.ChangeArms
import Derived.DataReads
import Derived.WideShapes
import Derived.Laws.LoneSync
namespace Go.Proofs.YtfbkppncaampdaaDoor
open Go Go.RowKit Go.ChangeShapes Go.WideShapes

theorem list_of {Q : Nat → Ins → Prop} : ∀ n, (∀ i, i < n → ∃ x, Q i x) → ∃ L : List Ins, L.length = n ∧ ∀ i x, L[i]? = some x → Q i x
  | 0, _ => ⟨[], rfl, fun i x h => by simp at h⟩
  | n + 1, h => by
    obtain ⟨L, hl, hq⟩ := list_of n (fun i hi => h i (by omega))
    obtain ⟨x, hx⟩ := h n (by omega)
    refine ⟨L ++ [x], by simp [hl], fun i y hy => ?_⟩
    by_cases c : i < n
    · rw [List.getElem?_append_left (by omega)] at hy
      exact hq i y hy
    · rw [List.getElem?_append_right (by omega)] at hy
      have hi : i = n := by
        have := (List.getElem?_eq_some_iff.1 hy).1
        simp at this
        omega
      subst hi
      rw [hl, Nat.sub_self] at hy
      cases hy
      exact hx
section
variable {H : Type} {enc : TypeId × Value → H} {P : Program} {w : World} {base : Nat} {spare : Nat → Bool} {held : Bool}
theorem open_ins {r : Reach} {b0 : Nat} {t e : TypeId} {v : Value} {d : DataW H} {ps : List MemPlace} (ht : P.underlying t = some (.slice e)) (hk : cellKinds P 3 e = some [some .i8, some .i8, some .i8, some .i8, some .i64]) (hC : P.cellsOf e = 5)
    (hval : Value.okWide P w r b0 t v) (hd : DataW.Trod enc P w base spare held t v d ps) :
    ∃ (L : List Ins) (b off cap : Nat) (a0 : Option Addr), v = .slice a0 L.length cap ∧ (L ≠ [] → a0 = some ⟨b, off, none⟩) ∧ InsAt w b off L ∧ (L ≠ [] → b < w.heap.size) ∧ L.length ≤ 9223372036854775807 := by
  obtain ⟨a, len, cap, rfl⟩ := okWide_slice ht hval
  obtain ⟨fuel, hf⟩ := hd
  have hf' : DataW.trod enc P w base spare held fuel t [.slice a len cap] = some (d, ps) := hf
  rcases DataW.trod_slice ht hf' with ⟨hcs, -⟩ | ⟨ad, len', cap', elems, rest, n, -, hcs, -, hb, hl, hc, hel, hi, -⟩
  · cases hcs
    exact ⟨[], 0, 0, 0, none, rfl, fun h => absurd rfl h, fun k i h => by simp at h, fun h => absurd rfl h, by decide⟩
  · cases hcs
    have each : ∀ i, i < len → ∃ x : Ins, (-128 ≤ x.op ∧ x.op < 128) ∧ ∀ j u, (Ins.cells x)[j]? = some u → w.cell? ((ad.add (i * 5)).add j) = some u := by
      intro i hil
      have h1 := hi i hil
      rw [hC, List.getElem?_eq_getElem (show i < elems.length by omega)] at h1
      obtain ⟨cs', h2, h3⟩ := Option.bind_eq_some_iff.1 h1
      have hfit := (fit_of 3 n e _ cs' _ hk h3).1
      obtain ⟨_, hlen, hat⟩ := World.cells?_some h2
      obtain ⟨_, _, rfl, ⟨a1, rfl, w1⟩, _, _, rfl, ⟨a2, rfl, w2⟩, _, _, rfl, ⟨a3, rfl, w3⟩, _, _, rfl, ⟨a4, rfl, w4⟩, _, _, rfl, ⟨a5, rfl, w5⟩, rfl⟩ := hfit
      refine ⟨⟨a1, a2, a3, a4, a5⟩, i8_of a1 w1, fun j u hu => ?_⟩
      have hj : j < 5 := (List.getElem?_eq_some_iff.1 hu).1
      rw [hat j hj]
      exact hu
    obtain ⟨L, hL, hQ⟩ := list_of len each
    refine ⟨L, ad.block, ad.off, cap, some ad, by rw [hL], ?_⟩
    have hbig : L.length ≤ 9223372036854775807 := by
      have : maxLen = 9223372036854775807 := rfl
      omega
    by_cases hne : L = []
    · subst hne
      exact ⟨fun h => absurd rfl h, fun k i h => by simp at h, fun h => absurd rfl h, hbig⟩
    · obtain ⟨x, hx⟩ : ∃ x, L[0]? = some x := ⟨_, List.getElem?_eq_getElem (List.length_pos_iff.2 hne)⟩
      have hx0 := (hQ 0 x hx).2 0 _ rfl
      obtain ⟨b, off, sp⟩ := ad
      have hsp : sp = none := by
        obtain ⟨_, _, _, _, h⟩ := World.shape?_of_cell? hx0
        cases sp with
        | none => rfl
        | some s => simp [Addr.add] at h
      subst hsp
      have e : ∀ i j, ((⟨b, off, none⟩ : Addr).add i).add j = ⟨b, off + i + j, none⟩ := fun i j => by
        by_cases h1 : i = 0 <;> by_cases h2 : j = 0 <;> simp [Addr.add, h1, h2]
      have hI : InsAt w b off L := fun k i hk => ⟨(hQ k i hk).1, fun j v hv => by
        have := (hQ k i hk).2 j v hv
        rwa [e] at this⟩
      refine ⟨fun _ => rfl, hI, fun _ => ?_, hbig⟩
      have := (hI 0 x hx).2 0 _ rfl
      exact lt_of_cell this
end
end Go.Proofs.YtfbkppncaampdaaDoor
