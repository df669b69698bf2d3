/-
  What lies outside a set of blocks lies as it lay: the word for calls that write an object of the call's own. No condition.
-/
import Derived.Test.YtnjdglejcfdonaaKMap
namespace Go.Proofs.Ytnjdglejcfdonaa
open Go Go.RowKit Go.Maps Go.ChangeMaps

/-- Every block of w that is not in S is in w' as it was. -/
structure Off (S : Nat → Prop) (w w' : World) : Prop where
  os : w'.os = w.os
  tape : w'.tape = w.tape
  output : w'.output = w.output
  size : w.heap.size ≤ w'.heap.size
  block : ∀ k, k < w.heap.size → ¬ S k → w'.heap[k]? = w.heap[k]?
/-- S' is of S and of blocks that w does not have. -/
def Grew (w : World) (S S' : Nat → Prop) : Prop := ∀ k, S' k → S k ∨ w.heap.size ≤ k
theorem Grew.refl (w : World) (S : Nat → Prop) : Grew w S S := fun _ h => Or.inl h
theorem Grew.trans {a b : World} {S T U : Nat → Prop} (h : Grew a S T) (g : Grew b T U) (z : a.heap.size ≤ b.heap.size) : Grew a S U := fun k hk => by
  rcases g k hk with h1 | h1
  · exact h k h1
  · exact Or.inr (Nat.le_trans z h1)
theorem Off.refl (S : Nat → Prop) (w : World) : Off S w w := ⟨rfl, rfl, rfl, Nat.le_refl _, fun _ _ _ => rfl⟩
theorem Off.trans {S T : Nat → Prop} {a b c : World} (h : Off S a b) (k : Off T b c) (g : Grew a S T) : Off S a c :=
  ⟨k.os.trans h.os, k.tape.trans h.tape, k.output.trans h.output, Nat.le_trans h.size k.size, fun i hi hn => (k.block i (Nat.lt_of_lt_of_le hi h.size) (fun ht => by
    rcases g i ht with g1 | g1
    · exact hn g1
    · omega)).trans (h.block i hi hn)⟩
theorem Off.of_kp {S : Nat → Prop} {w w' : World} (h : Kp w w') : Off S w w' := ⟨h.os, h.tape, h.output, h.size, fun k hk _ => h.block k hk⟩
theorem Off.alloc {S : Nat → Prop} {a w : World} (h : Off S a w) (o : Obj) : Off S a (w.alloc o) :=
  ⟨h.os, h.tape, h.output, Nat.le_trans h.size (by show _ ≤ (w.heap.push o).size; simp), fun k hk hn => (Below.heap_alloc w o k (Nat.lt_of_lt_of_le hk h.size)).trans (h.block k hk hn)⟩
theorem Off.drew {S : Nat → Prop} {a w : World} (h : Off S a w) : Off S a w.drew := ⟨h.os, h.tape, h.output, h.size, h.block⟩
theorem Off.setCell {S : Nat → Prop} {a w : World} (h : Off S a w) {p : Addr} (hp : S p.block ∨ a.heap.size ≤ p.block) (u : Value) : Off S a (w.setCell p u) :=
  ⟨h.os, h.tape, h.output, by simpa [World.setCell] using h.size, fun k hk hn => (Below.heap_setCell w p u k (fun e => by
    subst e
    rcases hp with hp | hp
    · exact hn hp
    · omega)).trans (h.block k hk hn)⟩
theorem Off.grown {S : Nat → Prop} {a w w' : World} {row : Option Nat} (h : Off S a w) (g : w.grownBy w' row) (hr : ∀ k, row = some k → S k ∨ a.heap.size ≤ k) : Off S a w' := by
  obtain ⟨g1, g2, g3, g4, g5⟩ := g
  refine ⟨g1.trans h.os, g2.trans h.tape, g3.trans h.output, Nat.le_trans h.size g4, fun k hk hn => (g5 k (Nat.lt_of_lt_of_le hk h.size) (fun e => ?_)).trans (h.block k hk hn)⟩
  rcases hr k e.symm with h1 | h1
  · exact hn h1
  · omega
theorem Off.turned {S : Nat → Prop} {a w w' : World} {b : Nat} (h : Off S a w) (g : w.mapTurned w' b) (hb : S b ∨ a.heap.size ≤ b) : Off S a w' := h.grown g.grown (fun k hk => by cases hk; exact hb)
/-- Where S is the call's own, what lay ahead of the call lies as it lay. -/
theorem Off.kp {S : Nat → Prop} {w0 w w' : World} (h : Off S w w') (g : Kp w0 w) (hS : ∀ k, S k → w0.heap.size ≤ k) : Kp w0 w' :=
  Below.trans g ⟨h.os, h.tape, h.output, h.size, fun k hk => h.block k (Nat.lt_of_lt_of_le hk g.size) (fun q => Nat.not_lt.2 (hS k q) hk)⟩
theorem Blk.off {S : Nat → Prop} {w w' : World} {b : Nat} {cs : Array Value} {t : TypeId} (h : Blk w b cs t) (g : Off S w w') (hb : ¬ S b) : Blk w' b cs t := (g.block b h.lt hb).trans h
theorem KMap.off {S : Nat → Prop} {P : Program} {k : TypeId} {w w' : World} {b : Nat} {C : Value → Option Value} (h : KMap P k w b C) (g : Off S w w') (hb : ¬ S b) : KMap P k w' b C := h.same (g.block b h.lt hb)
end Go.Proofs.Ytnjdglejcfdonaa
