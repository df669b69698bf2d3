/-
  The law BufferOwn returns true for every row of entries and every row of picks.
  Condition: none beyond the card's own: the listed variables are tied to the program's text. The walk is in YtgjjbgijdgihcaaDoorOwn09; the frame follows the guide's worked card.
-/
import Derived.Test.YtgjjbgijdgihcaaDoorCards
import Derived.Test.YtgjjbgijdgihcaaDoorTie
import Derived.Test.YtgjjbgijdgihcaaDoorOwn09
import Derived.Test.YtgjjbgijdgihcaaDoorFlat
import Derived.Test.YtgjjbgijdgihcaaDoorLaid09
import Derived.Test.YtgjjbgijdgihcaaDoorOpenL
import Derived.ProofKit
import Derived.LaidMore
import Derived.OpenShut
import Derived.Stop.Joined
import Derived.SevenTiedAt
namespace Go.Proofs.YtgjjbgijdgihcaaDoor.bufferOwn
open Go Go.ChangeShapes Go.WideShapes Go.ChangeAt Go.WideMaps Go.WideElems Go.RowKit
set_option linter.unusedVariables false      -- a walk need not use every 'w<i>'

theorem own : ownKnob Tryd.prog.godebug = none := by kernel_rfl
theorem laidOut : laidOutB Tryd.prog = true := by kernel_rfl
theorem rows : ∀ t ∈ Tryd.f4.params.toList, Tryd.prog.readableRec t = true ∧ t < Tryd.prog.types.size := by
  rw [Tryd.params4]
  have h : ([22, 40] : List Nat).all (fun t => Tryd.prog.readableRec t && decide (t < Tryd.prog.types.size)) = true := by kernel_rfl
  intro t ht
  have := List.all_eq_true.1 h t ht
  simp only [Bool.and_eq_true, decide_eq_true_eq] at this
  exact this
/-- The door's own heap meets the condition: closed facts. -/
theorem door_met (os : Os) (args : Array Value) : laidMetH Tryd.prog laidList ((World.doorLaid Tryd.prog 400 os).forCall (fun _ _ => 0) ⟨#[], args, []⟩).memory :=
  laidMetH_of_parts3 (fuel := 8) (laidMet_of_run' 8 (by kernel_rfl) (by kernel_rfl)) (by kernel_rfl) (by kernel_rfl)

theorem walk (L0 : List (List Value)) (b0 : Nat) (off0 : Nat) (cap0 : Nat) (qa0 : Option Addr) (L1 : List (List Value)) (b1 : Nat) (off1 : Nat) (cap1 : Nat) (qa1 : Option Addr)  (w : World) (s0 : L0 ≠ [] → qa0 = some ⟨b0, off0, none⟩) (i0 : RowsIn w b0 off0 5 [some .i8, some .u64, some .u64, some .i64, some .i64] L0) (l0 : L0 ≠ [] → b0 < w.heap.size) (m0 : L0.length ≤ 9223372036854775807) (mc0 : L0.length ≤ cap0) (s1 : L1 ≠ [] → qa1 = some ⟨b1, off1, none⟩) (i1 : RowsIn w b1 off1 1 [some .i64] L1) (l1 : L1 ≠ [] → b1 < w.heap.size) (m1 : L1.length ≤ 9223372036854775807) (mc1 : L1.length ≤ cap1) (hT : laidMet Tryd.prog laidList w) :
    Calls Tryd.prog 4 #[.slice qa0 L0.length cap0, .slice qa1 L1.length cap1] w fun e w' => e = .returned (.bool true) ∧ Below w.heap.size w w' := by
  have hT := laid_ok hT
  exact by obtain ⟨E, hEl, hE, hwf⟩ := rowe_of s0 i0 l0 mc0; exact (own_any qa0 cap0 L0.length E qa1 cap1 L1.length w hT hEl.symm hE hwf (picks_of s1 i1 l1)).mono fun _ _ h => ⟨h.1, h.2⟩

set_option maxRecDepth 100000 in
theorem lifted (os : Os) (started : os.Started) (H : Type) (enc : TypeId × Value → H) :
    ReturnsInHanded {} Tryd.checked os 4 .any (fun w args => (Rows.bufferOwnSpec.pre enc Tryd.prog Tryd.f4 [] false w args ∧ laidMetH Tryd.prog laidList w) ∧ sizedMet enc Tryd.prog Tryd.f4 (OpenSpec.ofChange Rows.bufferOwnSpec) false w args)
      (Rows.bufferOwnSpec.post enc Tryd.prog Tryd.f4 false true false false) := by
  refine returnsInHanded_of_change_and (C := Tryd.checked) (X := fun w _ => laidMetH Tryd.prog laidList w) (fun _ _ _ hh h => h.of_heap hh) own started (by kernel_rfl) Tryd.func4
    (ChangeSpec.witness_shaped (enc := enc) (C := Tryd.checked) (os := os) (X := fun w _ => laidMetH Tryd.prog laidList w) false (World.doorLaid Tryd.prog 400 os) #[.slice none 0 0, .slice none 0 0] 8 rfl (World.shaped_of_RefB (by kernel_rfl) (by kernel_rfl)) (by kernel_rfl) (by kernel_rfl) (by kernel_rfl) (door_met os _)) ?_
  intro W base args ds gs before hval0 hW _ _ hL _
  have hval : ∀ (j : Nat) t v, Tryd.f4.params[j]? = some t → args[j]? = some v → Value.okWide Tryd.prog W .any base t v := hval0
  have hW' := hW
  obtain ⟨p, q, hA0, hV, rfl, hfz, hnd⟩ := hW
  have hA : DataW.TrodAll enc Tryd.prog W 0 (fun _ => true) true Tryd.f4.params.toList args.toList ds p := hA0
  rw [Tryd.params4] at hA hval
  obtain ⟨v0, vs0, d0, ds0, p0, q0, hargs, rfl, rfl, h0, r0⟩ := trodAll_cons hA
  obtain ⟨v1, vs1, d1, ds1, p1, q1, rfl, rfl, rfl, h1, r1⟩ := trodAll_cons r0
  obtain ⟨rfl, rfl, rfl⟩ := trodAll_nil r1
  obtain rfl : args = #[v0, v1] := by cases args; simp_all
  obtain ⟨rfl, rfl⟩ := trodVars_none hV
  have hT : laidMet Tryd.prog laidList W := by
    have h := hL
    rw [MakeChecks.laidMetH_plain _ _ _ (by kernel_rfl)] at h
    exact h
  clear hA0 hval0
  obtain ⟨L0, b0, off0, cap0, qa0, rfl, s0, i0, l0, m0, mc0⟩ := open_rows (c := 5) (n0 := 6) (e := 26) (k0 := some .i8) (ks := [some .u64, some .u64, some .i64, some .i64]) Tryd.underlying22 (by kernel_rfl) (by kernel_rfl) rfl (hval 0 22 v0 rfl rfl) h0
  obtain ⟨L1, b1, off1, cap1, qa1, rfl, s1, i1, l1, m1, mc1⟩ := open_rows (c := 1) (n0 := 6) (e := 3) (k0 := some .i64) (ks := []) Tryd.underlying40 (by kernel_rfl) (by kernel_rfl) rfl (hval 1 40 v1 rfl rfl) h1
  refine (walk L0 b0 off0 cap0 qa0 L1 b1 off1 cap1 qa1  W s0 i0 l0 m0 mc0 s1 i1 l1 m1 mc1 hT).mono fun e W' ⟨he, hb⟩ => ?_
  subst he
  exact ⟨_, rfl, post_law laidOut hW' rows rfl rfl rfl rfl rfl Tryd.underlying4 hb⟩

theorem over : Rows.BufferOwnSaid :=
  OpenClaim.holds_of_wide 4 Tryd.f4 rfl rfl rfl rfl rfl rfl rfl ⟨rfl, rfl, rfl, rfl, rfl⟩ rfl rfl rfl rfl rfl (by kernel_rfl) Tryd.func4 (by kernel_rfl)
    (of_decide_eq_true (by kernel_rfl)) (by unfold Func.isWrapper; first | (rw [if_pos (by decide +kernel)]; kernel_rfl) | (rw [if_neg (by decide +kernel)]; exact ⟨rfl, rfl⟩))
    (fun os started H enc _ => lifted os started H enc)

theorem proved : Rows.BufferOwnCardSaid :=
  Claim7.holds_tied_plain_at .later [] [.data] true Rows.bufferOwnCard.stood.harness false
    over (fun _ h => by cases h) (by kernel_rfl) (fun _ h => by cases h) bufferOwn_row_tie rfl ⟨rfl, rfl⟩ (by kernel_rfl) rfl
    (fun f fn hf hfn => by
      obtain rfl : f = 4 := Option.some.inj ((show Tryd.prog.funcNamed "tenement/tenementlaw09.BufferOwn" = some 4 by kernel_rfl).symm.trans hf) |>.symm
      obtain rfl : fn = Tryd.f4 := (Option.some.inj (Tryd.func4.symm.trans hfn)).symm
      exact ⟨by kernel_rfl, fun j t ht => by
        rw [Tryd.params4] at ht
        have hm : t ∈ [22, 40] := by simpa using Array.mem_of_getElem? ht
        have hall : ([22, 40].all fun u => !Tryd.prog.wantsStandIn u) = true := by kernel_rfl
        exact (show Tryd.prog.wantsStandIn t = false by simpa using List.all_eq_true.1 hall t hm)⟩)
    (by kernel_rfl)
#print axioms proved
end Go.Proofs.YtgjjbgijdgihcaaDoor.bufferOwn
