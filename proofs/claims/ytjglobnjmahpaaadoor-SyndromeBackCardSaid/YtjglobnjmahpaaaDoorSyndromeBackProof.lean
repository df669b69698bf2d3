/-
  SyndromeBack returns true for any two words and any two syndromes, and leaves its arguments as they were.
  Condition: none beyond the card's own: the listed variables are tied to the program's text. The walk is in YtjglobnjmahpaaaDoorBack04; the frame follows the guide's worked card.
-/
import Derived.Test.YtjglobnjmahpaaaDoorCards
import Derived.Test.YtjglobnjmahpaaaDoorTie
import Derived.Test.YtjglobnjmahpaaaDoorBack04
import Derived.Test.YtjglobnjmahpaaaDoorFlat
import Derived.Test.YtjglobnjmahpaaaDoorLaid04
import Derived.ProofKit
import Derived.LaidMore
import Derived.OpenShut
import Derived.Stop.Joined
import Derived.SevenTiedAt
namespace Go.Proofs.YtjglobnjmahpaaaDoor.syndromeBack
open Go Go.ChangeShapes Go.WideShapes Go.ChangeAt Go.WideMaps Go.WideElems Go.RowKit
set_option linter.unusedVariables false      -- a walk need not use every 'w<i>'

theorem own : ownKnob Tryd.prog.godebug = none := by kernel_rfl
theorem laidOut : laidOutB Tryd.prog = true := by kernel_rfl
theorem rows : ∀ t ∈ Tryd.f5.params.toList, Tryd.prog.readableRec t = true ∧ t < Tryd.prog.types.size := by
  rw [Tryd.params5]
  have h : ([23, 23, 25, 25] : List Nat).all (fun t => Tryd.prog.readableRec t && decide (t < Tryd.prog.types.size)) = true := by kernel_rfl
  intro t ht
  have := List.all_eq_true.1 h t ht
  simp only [Bool.and_eq_true, decide_eq_true_eq] at this
  exact this
/-- The door's own heap meets the condition: closed facts. -/
theorem door_met (os : Os) (args : Array Value) : laidMetH Tryd.prog laidList ((World.doorLaid Tryd.prog 400 os).forCall (fun _ _ => 0) ⟨#[], args, []⟩).memory :=
  laidMetH_of_parts3 (fuel := 8) (laidMet_of_run' 8 (by kernel_rfl) (by kernel_rfl)) (by kernel_rfl) (by kernel_rfl)

theorem walk (a0 : Int) (a1 : Int) (a2_0 : Int) (a2_1 : Bool) (a2_2 : Int) (a2_3 : Int) (a2_4 : Int) (a3_0 : Int) (a3_1 : Bool) (a3_2 : Int) (a3_3 : Int) (a3_4 : Int) (w0 : (Lit.int .u64 a0).wf = true) (w1 : (Lit.int .u64 a1).wf = true) (w2_0 : (Lit.int .i8 a2_0).wf = true) (w2_2 : (Lit.int .i8 a2_2).wf = true) (w2_3 : (Lit.int .i8 a2_3).wf = true) (w2_4 : (Lit.int .u64 a2_4).wf = true) (w3_0 : (Lit.int .i8 a3_0).wf = true) (w3_2 : (Lit.int .i8 a3_2).wf = true) (w3_3 : (Lit.int .i8 a3_3).wf = true) (w3_4 : (Lit.int .u64 a3_4).wf = true) (w : World) (hT : laidMet Tryd.prog laidList w) :
    Calls Tryd.prog 5 #[.int .u64 a0, .int .u64 a1, .agg #[.int .i8 a2_0, .bool a2_1, .int .i8 a2_2, .int .i8 a2_3, .int .u64 a2_4], .agg #[.int .i8 a3_0, .bool a3_1, .int .i8 a3_2, .int .i8 a3_3, .int .u64 a3_4]] w fun e w' => e = .returned (.bool true) ∧ Below w.heap.size w w' := by
  have hT := laid_ok hT
  exact (walkBack a0 a1 a2_0 a2_2 a2_3 a2_4 a3_0 a3_2 a3_3 a3_4 a2_1 a3_1 w hT.1 hT.2 w0 w1 w2_0 w2_4 w3_0 w3_4).mono fun _ _ h => ⟨h.1, h.2⟩

set_option maxRecDepth 100000 in
theorem lifted (os : Os) (started : os.Started) (H : Type) (enc : TypeId × Value → H) :
    ReturnsInHanded {} Tryd.checked os 5 .any (fun w args => (Rows.syndromeBackSpec.pre enc Tryd.prog Tryd.f5 [] false w args ∧ laidMetH Tryd.prog laidList w) ∧ sizedMet enc Tryd.prog Tryd.f5 (OpenSpec.ofChange Rows.syndromeBackSpec) false w args)
      (Rows.syndromeBackSpec.post enc Tryd.prog Tryd.f5 false true false false) := by
  refine returnsInHanded_of_change_and (C := Tryd.checked) (X := fun w _ => laidMetH Tryd.prog laidList w) (fun _ _ _ hh h => h.of_heap hh) own started (by kernel_rfl) Tryd.func5
    (ChangeSpec.witness_shaped (enc := enc) (C := Tryd.checked) (os := os) (X := fun w _ => laidMetH Tryd.prog laidList w) false (World.doorLaid Tryd.prog 400 os) #[.int .u64 0, .int .u64 0, .agg #[.int .i8 0, .bool false, .int .i8 0, .int .i8 0, .int .u64 0], .agg #[.int .i8 0, .bool false, .int .i8 0, .int .i8 0, .int .u64 0]] 8 rfl (World.shaped_of_RefB (by kernel_rfl) (by kernel_rfl)) (by kernel_rfl) (by kernel_rfl) (by kernel_rfl) (door_met os _)) ?_
  intro W base args ds gs before hval0 hW _ _ hL _
  have hval : ∀ (j : Nat) t v, Tryd.f5.params[j]? = some t → args[j]? = some v → Value.okWide Tryd.prog W .any base t v := hval0
  have hW' := hW
  obtain ⟨p, q, hA0, hV, rfl, hfz, hnd⟩ := hW
  have hA : DataW.TrodAll enc Tryd.prog W 0 (fun _ => true) true Tryd.f5.params.toList args.toList ds p := hA0
  rw [Tryd.params5] at hA hval
  obtain ⟨v0, vs0, d0, ds0, p0, q0, hargs, rfl, rfl, h0, r0⟩ := trodAll_cons hA
  obtain ⟨v1, vs1, d1, ds1, p1, q1, rfl, rfl, rfl, h1, r1⟩ := trodAll_cons r0
  obtain ⟨v2, vs2, d2, ds2, p2, q2, rfl, rfl, rfl, h2, r2⟩ := trodAll_cons r1
  obtain ⟨v3, vs3, d3, ds3, p3, q3, rfl, rfl, rfl, h3, r3⟩ := trodAll_cons r2
  obtain ⟨rfl, rfl, rfl⟩ := trodAll_nil r3
  obtain rfl : args = #[v0, v1, v2, v3] := by cases args; simp_all
  obtain ⟨rfl, rfl⟩ := trodVars_none hV
  have hT : laidMet Tryd.prog laidList W := by
    have h := hL
    rw [MakeChecks.laidMetH_plain _ _ _ (by kernel_rfl)] at h
    exact h
  clear hA0 hval0
  obtain ⟨a0, rfl, -, -, w0⟩ := open_int Tryd.underlying23 (hval 0 23 v0 rfl rfl) h0
  obtain ⟨a1, rfl, -, -, w1⟩ := open_int Tryd.underlying23 (hval 1 23 v1 rfl rfl) h1
  obtain ⟨l2, rfl, f2, -⟩ := open_flat (n := 6) (ks := [some .i8, none, some .i8, some .i8, some .u64]) (by kernel_rfl) (by rw [Tryd.underlying25]) (hval 2 25 v2 rfl rfl) h2
  obtain ⟨_, _, rfl, ⟨a2_0, rfl, w2_0⟩, _, _, rfl, ⟨a2_1, rfl⟩, _, _, rfl, ⟨a2_2, rfl, w2_2⟩, _, _, rfl, ⟨a2_3, rfl, w2_3⟩, _, _, rfl, ⟨a2_4, rfl, w2_4⟩, rfl⟩ := f2
  obtain ⟨l3, rfl, f3, -⟩ := open_flat (n := 6) (ks := [some .i8, none, some .i8, some .i8, some .u64]) (by kernel_rfl) (by rw [Tryd.underlying25]) (hval 3 25 v3 rfl rfl) h3
  obtain ⟨_, _, rfl, ⟨a3_0, rfl, w3_0⟩, _, _, rfl, ⟨a3_1, rfl⟩, _, _, rfl, ⟨a3_2, rfl, w3_2⟩, _, _, rfl, ⟨a3_3, rfl, w3_3⟩, _, _, rfl, ⟨a3_4, rfl, w3_4⟩, rfl⟩ := f3
  refine (walk a0 a1 a2_0 a2_1 a2_2 a2_3 a2_4 a3_0 a3_1 a3_2 a3_3 a3_4 w0 w1 w2_0 w2_2 w2_3 w2_4 w3_0 w3_2 w3_3 w3_4 W hT).mono fun e W' ⟨he, hb⟩ => ?_
  subst he
  exact ⟨_, rfl, post_law laidOut hW' rows rfl rfl rfl rfl rfl Tryd.underlying4 hb⟩

theorem over : Rows.SyndromeBackSaid :=
  OpenClaim.holds_of_wide 5 Tryd.f5 rfl rfl rfl rfl rfl rfl rfl ⟨rfl, rfl, rfl, rfl, rfl⟩ rfl rfl rfl rfl rfl (by kernel_rfl) Tryd.func5 (by kernel_rfl)
    (of_decide_eq_true (by kernel_rfl)) (by unfold Func.isWrapper; first | (rw [if_pos (by decide +kernel)]; kernel_rfl) | (rw [if_neg (by decide +kernel)]; exact ⟨rfl, rfl⟩))
    (fun os started H enc _ => lifted os started H enc)

theorem proved : Rows.SyndromeBackCardSaid :=
  Claim7.holds_tied_plain_at .later [] [.data, .data, .data, .data] true Rows.syndromeBackCard.stood.harness false
    over (fun _ h => by cases h) (by kernel_rfl) (fun _ h => by cases h) syndromeBack_row_tie rfl ⟨rfl, rfl⟩ (by kernel_rfl) rfl
    (fun f fn hf hfn => by
      obtain rfl : f = 5 := Option.some.inj ((show Tryd.prog.funcNamed "tenement/tenementlaw04.SyndromeBack" = some 5 by kernel_rfl).symm.trans hf) |>.symm
      obtain rfl : fn = Tryd.f5 := (Option.some.inj (Tryd.func5.symm.trans hfn)).symm
      exact ⟨by kernel_rfl, fun j t ht => by
        rw [Tryd.params5] at ht
        have hm : t ∈ [23, 23, 25, 25] := by simpa using Array.mem_of_getElem? ht
        have hall : ([23, 23, 25, 25].all fun u => !Tryd.prog.wantsStandIn u) = true := by kernel_rfl
        exact (show Tryd.prog.wantsStandIn t = false by simpa using List.all_eq_true.1 hall t hm)⟩)
    (by kernel_rfl)
#print axioms proved
end Go.Proofs.YtjglobnjmahpaaaDoor.syndromeBack
