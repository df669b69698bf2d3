/-
  A row of entries appended whole to a row of the call's own. No condition.
-/
import Derived.Test.YtgjjbgijdgihcaaDoorRow09
namespace Go.Proofs.YtgjjbgijdgihcaaDoor
open Go Go.RowKit

theorem append_zero (ty : TypeId) (w : World) (B : Nat) (v : Value) (L0 : List Ent) (h : OwnsE w B v L0) (a0 : Option Addr) (c : Nat) : (Builtin.append_ #[22, 22] ty #[v, .slice a0 0 c]).run Tryd.prog w = .ok v w := by
  obtain ⟨i, hi, hz, hs, hb⟩ := info_parts ent_info
  rcases h.2 with ⟨rfl, hn⟩ | ⟨g, cap, cur, rfl, hb', hg, hn, hm, hs', ht⟩
  · cases a0 <;> simp [Builtin.append_, run_underlying Tryd.underlying22, sizeOf, typeInfo, hi, Builtin.lenOf, Builtin.firstCells, loadCells, loadCellsFrom]
  · cases a0 <;> simp [Builtin.append_, run_underlying Tryd.underlying22, sizeOf, typeInfo, hi, Builtin.lenOf, Builtin.firstCells, hn, loadCells, loadCellsFrom, storeCells]
theorem wpList_append_row {ops : Array Oper} {rest : List Oper} {o : Oper} {a : Act} {w : World} {Q : Exit → Act → World → Prop} (hgd : o.guard = none) (s x : Operand)
    (ho : o.op = .call { callee := .builtin .append, args := #[s, x], argTypes := #[22, 22] }) (B : Nat) (v : Value) (L0 M : List Ent) (hs : a.eval s = v) (hown : OwnsE w B v L0)
    (a0 : Option Addr) (m c : Nat) (hm : m = M.length) (hx : a.eval x = .slice a0 m c) (hrow : M ≠ [] → ∃ b off, a0 = some ⟨b, off, none⟩ ∧ EntsAt w b off M) (h1 : L0.length + M.length ≤ 1000) (hB : B ≤ w.heap.size)
    (h : ∀ v' w', OwnsE w' B v' (L0 ++ M) → w.grownBy w' v.ownBlock → wpList Tryd.prog ops Q rest (a.put o.dst v') w') :
    wpList Tryd.prog ops Q (o :: rest) a w := by
  obtain ⟨i0, hi0, hz0, hz1, hz2⟩ := info_parts ent_info
  subst hm
  by_cases hM : M = []
  · subst hM
    refine wpList_plain hgd fun K hK => ?_
    have hr := append_zero o.type w B v L0 hown a0 c
    unfold Oper.wp execOp
    simp only [ho, resolve, invoke, builtin, Sem.run_bind, Sem.run_pure, Result.andThen_ok, List.map_toArray, List.map_cons, List.map_nil, hs, hx, List.length_nil, hr]
    refine hK _ _ (h v w (by rw [List.append_nil]; exact hown) ⟨rfl, rfl, rfl, Nat.le_refl _, fun _ _ _ => rfl⟩)
  · obtain ⟨b, off, rfl, hM2⟩ := hrow hM
    have f := fitsE h1
    refine wpList_append_own_at w hgd s x 22 ho B 26 i0 _ 5 40 Tryd.underlying22 hi0 hz0 hz1 hz2 rfl (by decide) v _ _ hs hown ⟨b, off, none⟩ M.length c (M.flatMap Ent.cells) hx (flat_len M) (news_row hM2) (ents_one M) f.1 f.2 hB ?_
    intro v' w' h2 h3 _ _
    refine h v' w' ?_ h3
    unfold OwnsE
    rw [List.flatMap_append, List.length_append]
    exact h2
end Go.Proofs.YtgjjbgijdgihcaaDoor
