/-
  The law MemBlocks returns true for every row of words, every two frames, every word and value.
  Conditions: none. The walk is in YtnjdglejcfdonaaBlk08.
-/
import Derived.Test.YtnjdglejcfdonaaRows
import Derived.Test.YtnjdglejcfdonaaBlk08
import Derived.Test.YtnjdglejcfdonaaFlat
import Derived.Test.YtnjdglejcfdonaaOpenL
import Derived.WalkKit
import Derived.ProofKit
import Derived.OpenShut
namespace Go.Proofs.Ytnjdglejcfdonaa.memBlocks
open Go.ChangeShapes Go.WideShapes Go.ChangeAt Go.RowKit
set_option linter.unusedVariables false      -- a walk need not use every 'w<i>'

theorem own : ownKnob Try.prog.godebug = none := by kernel_rfl
theorem laid : laidOutB Try.prog = true := by kernel_rfl
theorem rows : ∀ t ∈ Try.f6.params.toList, Try.prog.readableRec t = true ∧ t < Try.prog.types.size := by
  rw [Try.params6]
  have h : ([51, 3, 3, 32, 32] : List Nat).all (fun t => Try.prog.readableRec t && decide (t < Try.prog.types.size)) = true := by kernel_rfl
  intro t ht
  have := List.all_eq_true.1 h t ht
  simp only [Bool.and_eq_true, decide_eq_true_eq] at this
  exact this

theorem walk (L0 : List (List Value)) (b0 : Nat) (off0 : Nat) (cap0 : Nat) (qa0 : Option Addr) (a1 : Int) (a2 : Int) (a3 : Int) (a4 : Int) (w1 : (Lit.int .i64 a1).wf = true) (w2 : (Lit.int .i64 a2).wf = true) (w3 : (Lit.int .u64 a3).wf = true) (w4 : (Lit.int .u64 a4).wf = true) (w : World) (s0 : L0 ≠ [] → qa0 = some ⟨b0, off0, none⟩) (i0 : RowsIn w b0 off0 1 [some .u64] L0) (l0 : L0 ≠ [] → b0 < w.heap.size) (m0 : L0.length ≤ 9223372036854775807) :
    Calls Try.prog 6 #[.slice qa0 L0.length cap0, .int .i64 a1, .int .i64 a2, .int .u64 a3, .int .u64 a4] w fun e w' => e = .returned (.bool true) ∧ Below w.heap.size w w' := by
  exact (by obtain ⟨n3, rfl, _⟩ := nat_of a3 w3; obtain ⟨n4, rfl, h4⟩ := nat_of a4 w4; exact (blocks_any a1 a2 n3 n4 L0 b0 off0 cap0 qa0 w s0 i0 l0 h4).mono fun _ _ h => ⟨h.1, h.2⟩)

set_option maxRecDepth 100000 in
theorem lifted (os : Os) (started : os.Started) (H : Type) (enc : TypeId × Value → H) :
    ReturnsInHanded {} Try.checked os 6 .any (Rows.memBlocksSpec.pre6 enc Try.prog Try.f6 Rows.memBlocksRow.domain false) (Rows.memBlocksSpec.post enc Try.prog Try.f6 false true false false) := by
  refine returnsInHanded_of_change (C := Try.checked) own started (by kernel_rfl) Try.func6
    (ChangeSpec.witness6 (enc := enc) (C := Try.checked) false ⟨#[], #[.slice none 0 0, .int .i64 0, .int .i64 0, .int .u64 0, .int .u64 0], []⟩ 8 (by kernel_rfl) (by kernel_rfl) (by kernel_rfl) (by kernel_rfl)) ?_
  intro W base args ds gs before hval0 hW hcnd _
  have hval : ∀ (j : Nat) t v, Try.f6.params[j]? = some t → args[j]? = some v → Value.okWide Try.prog W .any base t v := hval0
  have hW' := hW
  obtain ⟨p, q, hA0, hV, rfl, hfz, hnd⟩ := hW
  have hA : DataW.TrodAll enc Try.prog W 0 (fun _ => true) true Try.f6.params.toList args.toList ds p := hA0
  rw [Try.params6] at hA hval
  obtain ⟨v0, vs0, d0, ds0, p0, q0, hargs, rfl, rfl, h0, r0⟩ := trodAll_cons hA
  obtain ⟨v1, vs1, d1, ds1, p1, q1, rfl, rfl, rfl, h1, r1⟩ := trodAll_cons r0
  obtain ⟨v2, vs2, d2, ds2, p2, q2, rfl, rfl, rfl, h2, r2⟩ := trodAll_cons r1
  obtain ⟨v3, vs3, d3, ds3, p3, q3, rfl, rfl, rfl, h3, r3⟩ := trodAll_cons r2
  obtain ⟨v4, vs4, d4, ds4, p4, q4, rfl, rfl, rfl, h4, r4⟩ := trodAll_cons r3
  obtain ⟨rfl, rfl, rfl⟩ := trodAll_nil r4
  obtain rfl : args = #[v0, v1, v2, v3, v4] := by cases args; simp_all
  obtain ⟨rfl, rfl⟩ := trodVars_none hV
  clear hA0 hval0
  obtain ⟨L0, b0, off0, cap0, qa0, rfl, s0, i0, l0, m0⟩ := open_rows (c := 1) (n0 := 6) (e := 32) (k0 := some .u64) (ks := []) Try.underlying51 (by kernel_rfl) (by kernel_rfl) rfl (hval 0 51 v0 rfl rfl) h0
  obtain ⟨a1, rfl, -, -, w1⟩ := open_int Try.underlying3 (hval 1 3 v1 rfl rfl) h1
  obtain ⟨a2, rfl, -, -, w2⟩ := open_int Try.underlying3 (hval 2 3 v2 rfl rfl) h2
  obtain ⟨a3, rfl, -, -, w3⟩ := open_int Try.underlying32 (hval 3 32 v3 rfl rfl) h3
  obtain ⟨a4, rfl, -, -, w4⟩ := open_int Try.underlying32 (hval 4 32 v4 rfl rfl) h4
  refine (walk L0 b0 off0 cap0 qa0 a1 a2 a3 a4 w1 w2 w3 w4 W s0 i0 l0 m0).mono fun e W' ⟨he, hb⟩ => ?_
  subst he
  exact ⟨_, rfl, post_law laid hW' rows rfl rfl rfl rfl rfl Try.underlying4 hb⟩

theorem over : Rows.memBlocksRow.holds Try.pinned (OpenSpec.ofChange Rows.memBlocksSpec) :=
  OpenClaim.holds_of_wide 6 Try.f6 rfl rfl rfl rfl rfl rfl rfl ⟨rfl, rfl, rfl, rfl, rfl⟩ rfl rfl rfl rfl rfl (by kernel_rfl) Try.func6 (by kernel_rfl)
    (of_decide_eq_true (by kernel_rfl)) (by unfold Func.isWrapper; first | (rw [if_pos (by decide +kernel)]; kernel_rfl) | (rw [if_neg (by decide +kernel)]; exact ⟨rfl, rfl⟩))
    (fun os started H enc _ => lifted os started H enc)

theorem proved : Rows.MemBlocksSaid :=
  over
#print axioms proved
end Go.Proofs.Ytnjdglejcfdonaa.memBlocks
