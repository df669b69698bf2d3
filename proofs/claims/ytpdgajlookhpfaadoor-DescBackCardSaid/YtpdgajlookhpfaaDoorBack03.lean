/-
  DescBack returns true. No condition but the tables of package desc.
-/
import Derived.Test.YtpdgajlookhpfaaDoorDescMath
namespace Go.Proofs.YtpdgajlookhpfaaDoor
open Go Go.RowKit

theorem own_in (a : Int) : 0 ≤ (wrap64 (a.tmod 3 + 3)).tmod 3 ∧ (wrap64 (a.tmod 3 + 3)).tmod 3 < 3 := by
  have h1 := Int.tmod_lt_of_pos a (show (0 : Int) < 3 by decide)
  have h2 := Int.lt_tmod_of_pos a (show (0 : Int) < 3 by decide)
  have h3 : wrap64 (a.tmod 3 + 3) = a.tmod 3 + 3 := by unfold wrap64; omega
  rw [h3]
  exact ⟨Int.tmod_nonneg _ (by omega), Int.tmod_lt_of_pos _ (by decide)⟩
theorem dec_cases (x : BitVec 64) (l : Int) :
    (∃ (k f : Int) (b1 b2 b3 b4 : Bool), dV x l = .agg #[.int .i8 k, .int .i64 f, .bool b1, .bool b2, .bool b3, .bool b4] ∧ dE x l = 0 ∧ bits BinOp.and IntKind.u64 (x.toNat : Int) 1 = 1 ∧ encW k f b1 b2 b3 b4 = x ∧ encE k f b1 b2 b3 b4 = 0 ∧ (Lit.int .i8 k).wf = true ∧ (Lit.int .i64 f).wf = true) ∨
    (dV x l = .agg #[.int .i8 0, .int .i64 0, .bool false, .bool false, .bool false, .bool false] ∧ dE x l = 0 ∧ bits BinOp.and IntKind.u64 (x.toNat : Int) 1 = 0) ∨
    (dV x l = .agg #[.int .i8 0, .int .i64 0, .bool false, .bool false, .bool false, .bool false] ∧ (dE x l = 2 ∨ dE x l = 30)) := by
  by_cases h : l < 0 ∨ 4 ≤ l
  · have := dec_arg x l h
    exact .inr (.inr ⟨this.1, .inl this.2⟩)
  · by_cases hx : x.toNat % 2 = 0
    · have := dec_none x l (by omega) hx
      exact .inr (.inl ⟨this.1, this.2, by rw [and1, hx]; rfl⟩)
    · have h1 : x.toNat % 2 = 1 := by omega
      by_cases hw : WOk x l
      · have := dec_good x l (by omega) h1 hw
        exact .inl ⟨_, _, _, _, _, _, this.1, this.2, by rw [and1, h1]; rfl, hw.2, hw.1, kind_wf l, fr_wf x⟩
      · have := dec_bad x l (by omega) h1 hw
        exact .inr (.inr ⟨this.1, .inr this.2⟩)
set_option maxHeartbeats 4000000 in
theorem back_table (f : Int) (af ro us ng : Bool) (x : BitVec 64) (a2 : Int) (w : World) (hT : TabsOk w) (hf : (Lit.int .i64 f).wf = true) :
    Calls Tryd.prog 4 #[.agg #[.int .i8 1, .int .i64 f, .bool af, .bool ro, .bool us, .bool ng], .int .u64 x.toNat, .int .i64 a2] w fun e w' => e = .returned (.bool true) ∧ Kp w w' := by
  have HT := Lib.hid hT; clear hT
  have HK : Hid ((Lit.int .i8 1).wf = true) := Lib.hid (by decide)
  have HF := Lib.hid hf; clear hf
  have HL := Lib.hid (own_in a2)
  go_enter Tryd.func4, Tryd.ntmps4
  go_wp2_with fail
  generalize (wrap64 (a2.tmod 3 + 3)).tmod 3 = L at HL ⊢
  refine (encode_any 1 f af ro us ng _ (HT.out.kp ((Kp.refl _).alloc _ _)) HK.out HF.out).mono ?_; rintro e wa ⟨rfl, hg⟩
  have TA := Lib.hid ((HT.out.kp ((Kp.refl _).alloc _ _)).kp hg)
  have BA := Lib.hid ((Blk.new w #[.int .i8 1, .int .i64 f, .bool af, .bool ro, .bool us, .bool ng] 24).kp hg)
  have GA := Lib.hid (((Kp.refl w).alloc #[.int .i8 1, .int .i64 f, .bool af, .bool ro, .bool us, .bool ng] 24).trans hg); clear hg
  by_cases ok : DOk 1 f af ro us ng
  · have HE : encE 1 f af ro us ng = 0 := if_pos ok
    have HB := Lib.hid (back_any 1 f af ro us ng L ok (fun _ => HL.out) (fun h => absurd rfl h))
    rw [HE]
    clear HE ok
    go_wp2_with fail
    refine (decode_any (encW 1 f af ro us ng) L _ TA.out).mono ?_; rintro e wb ⟨rfl, hg⟩
    rw [HB.out.1, HB.out.2]
    have BB := BA.out.kp hg
    have z0 := BB.cell 0
    have z1 := BB.cell 1
    have z2 := BB.cell 2
    have z3 := BB.cell 3
    have z4 := BB.cell 4
    have z5 := BB.cell 5
    simp at z0 z1 z2 z3 z4 z5
    have zl := BB.lt
    have TB := Lib.hid (TA.out.kp hg)
    have GB := Lib.hid (GA.out.trans hg); clear hg BB
    go_wp2_with fail
    refine (decode_any x a2 _ (TB.out.kp ((Kp.refl _).alloc _ _))).mono ?_; rintro e wd ⟨rfl, hg⟩
    have TD := Lib.hid (((TB.out.kp ((Kp.refl _).alloc _ _))).kp hg)
    have GD := Lib.hid (((GB.out.alloc _ _)).trans hg); clear hg
    rcases dec_cases x a2 with ⟨k', f', b1, b2, b3, b4, e1, e2, e3, e4, e5, e6, e7⟩ | ⟨e1, e2, e3⟩ | ⟨e1, e2 | e2⟩
    · rw [e1, e2]
      have E4 := Lib.hid e4; clear e4
      have E5 := Lib.hid e5; clear e5
      have E6 := Lib.hid e6; clear e6
      have E7 := Lib.hid e7; clear e7
      clear e1 e2
      go_wp2_with fail
      refine (encode_any k' f' b1 b2 b3 b4 _ (TD.out.kp ((Kp.refl _).alloc _ _)) E6.out E7.out).mono ?_; rintro e we ⟨rfl, hg⟩
      rw [E4.out, E5.out]
      have TE := Lib.hid ((TD.out.kp ((Kp.refl _).alloc _ _)).kp hg)
      have GE := Lib.hid ((GD.out.alloc _ _).trans hg); clear hg
      go_wp2_with fail
      refine (wakes03_any _ TE.out).mono ?_; rintro e wz ⟨rfl, hg⟩
      have GZ := Lib.hid (GE.out.trans hg); clear hg
      go_wp2_with fail
      go_ret
      exact ⟨rfl, GZ.out⟩
    · rw [e1, e2]
      clear e1 e2
      go_wp2_with fail
      refine (wakes03_any _ (TD.out.kp ((Kp.refl _).alloc _ _))).mono ?_; rintro e wz ⟨rfl, hg⟩
      have GZ := Lib.hid ((GD.out.alloc _ _).trans hg); clear hg
      go_wp2_with fail
      go_ret
      exact ⟨rfl, GZ.out⟩
    · rw [e1, e2]
      clear e1 e2
      go_wp2_with fail
      refine (wakes03_any _ (TD.out.kp ((Kp.refl _).alloc _ _))).mono ?_; rintro e wz ⟨rfl, hg⟩
      have GZ := Lib.hid ((GD.out.alloc _ _).trans hg); clear hg
      go_wp2_with fail
      go_ret
      exact ⟨rfl, GZ.out⟩
    · rw [e1, e2]
      clear e1 e2
      go_wp2_with fail
      refine (wakes03_any _ (TD.out.kp ((Kp.refl _).alloc _ _))).mono ?_; rintro e wz ⟨rfl, hg⟩
      have GZ := Lib.hid ((GD.out.alloc _ _).trans hg); clear hg
      go_wp2_with fail
      go_ret
      exact ⟨rfl, GZ.out⟩
  · have HE : encE 1 f af ro us ng = 30 := if_neg ok
    rw [HE]
    clear HE ok
    go_wp2_with fail
    refine (decode_any x a2 _ TA.out).mono ?_; rintro e wd ⟨rfl, hg⟩
    have TD := Lib.hid ((TA.out).kp hg)
    have GD := Lib.hid ((GA.out).trans hg); clear hg
    rcases dec_cases x a2 with ⟨k', f', b1, b2, b3, b4, e1, e2, e3, e4, e5, e6, e7⟩ | ⟨e1, e2, e3⟩ | ⟨e1, e2 | e2⟩
    · rw [e1, e2]
      have E4 := Lib.hid e4; clear e4
      have E5 := Lib.hid e5; clear e5
      have E6 := Lib.hid e6; clear e6
      have E7 := Lib.hid e7; clear e7
      clear e1 e2
      go_wp2_with fail
      refine (encode_any k' f' b1 b2 b3 b4 _ (TD.out.kp ((Kp.refl _).alloc _ _)) E6.out E7.out).mono ?_; rintro e we ⟨rfl, hg⟩
      rw [E4.out, E5.out]
      have TE := Lib.hid ((TD.out.kp ((Kp.refl _).alloc _ _)).kp hg)
      have GE := Lib.hid ((GD.out.alloc _ _).trans hg); clear hg
      go_wp2_with fail
      refine (wakes03_any _ TE.out).mono ?_; rintro e wz ⟨rfl, hg⟩
      have GZ := Lib.hid (GE.out.trans hg); clear hg
      go_wp2_with fail
      go_ret
      exact ⟨rfl, GZ.out⟩
    · rw [e1, e2]
      clear e1 e2
      go_wp2_with fail
      refine (wakes03_any _ (TD.out.kp ((Kp.refl _).alloc _ _))).mono ?_; rintro e wz ⟨rfl, hg⟩
      have GZ := Lib.hid ((GD.out.alloc _ _).trans hg); clear hg
      go_wp2_with fail
      go_ret
      exact ⟨rfl, GZ.out⟩
    · rw [e1, e2]
      clear e1 e2
      go_wp2_with fail
      refine (wakes03_any _ (TD.out.kp ((Kp.refl _).alloc _ _))).mono ?_; rintro e wz ⟨rfl, hg⟩
      have GZ := Lib.hid ((GD.out.alloc _ _).trans hg); clear hg
      go_wp2_with fail
      go_ret
      exact ⟨rfl, GZ.out⟩
    · rw [e1, e2]
      clear e1 e2
      go_wp2_with fail
      refine (wakes03_any _ (TD.out.kp ((Kp.refl _).alloc _ _))).mono ?_; rintro e wz ⟨rfl, hg⟩
      have GZ := Lib.hid ((GD.out.alloc _ _).trans hg); clear hg
      go_wp2_with fail
      go_ret
      exact ⟨rfl, GZ.out⟩
set_option maxHeartbeats 4000000 in
theorem back_other (k f : Int) (af ro us ng : Bool) (x : BitVec 64) (a2 : Int) (w : World) (hT : TabsOk w) (hk : (Lit.int .i8 k).wf = true) (hf : (Lit.int .i64 f).wf = true) (hn : k ≠ 1) :
    Calls Tryd.prog 4 #[.agg #[.int .i8 k, .int .i64 f, .bool af, .bool ro, .bool us, .bool ng], .int .u64 x.toNat, .int .i64 a2] w fun e w' => e = .returned (.bool true) ∧ Kp w w' := by
  have HT := Lib.hid hT; clear hT
  have HK := Lib.hid hk; clear hk
  have HF := Lib.hid hf; clear hf
  have hb := beq_no hn
  have HN := Lib.hid hn; clear hn
  go_enter Tryd.func4, Tryd.ntmps4
  go_wp2_with fail
  refine (encode_any k f af ro us ng _ (HT.out.kp ((Kp.refl _).alloc _ _)) HK.out HF.out).mono ?_; rintro e wa ⟨rfl, hg⟩
  have TA := Lib.hid ((HT.out.kp ((Kp.refl _).alloc _ _)).kp hg)
  have BA := Lib.hid ((Blk.new w #[.int .i8 k, .int .i64 f, .bool af, .bool ro, .bool us, .bool ng] 24).kp hg)
  have GA := Lib.hid (((Kp.refl w).alloc #[.int .i8 k, .int .i64 f, .bool af, .bool ro, .bool us, .bool ng] 24).trans hg); clear hg
  by_cases ok : DOk k f af ro us ng
  · have HE : encE k f af ro us ng = 0 := if_pos ok
    have HB := Lib.hid (back_any k f af ro us ng 3 ok (fun h => absurd h HN.out) (fun _ => rfl))
    rw [HE]
    clear HE ok
    go_wp2_with fail
    refine (decode_any (encW k f af ro us ng) 3 _ TA.out).mono ?_; rintro e wb ⟨rfl, hg⟩
    rw [HB.out.1, HB.out.2]
    have BB := BA.out.kp hg
    have z0 := BB.cell 0
    have z1 := BB.cell 1
    have z2 := BB.cell 2
    have z3 := BB.cell 3
    have z4 := BB.cell 4
    have z5 := BB.cell 5
    simp at z0 z1 z2 z3 z4 z5
    have zl := BB.lt
    have TB := Lib.hid (TA.out.kp hg)
    have GB := Lib.hid (GA.out.trans hg); clear hg BB
    go_wp2_with fail
    refine (decode_any x a2 _ (TB.out.kp ((Kp.refl _).alloc _ _))).mono ?_; rintro e wd ⟨rfl, hg⟩
    have TD := Lib.hid (((TB.out.kp ((Kp.refl _).alloc _ _))).kp hg)
    have GD := Lib.hid (((GB.out.alloc _ _)).trans hg); clear hg
    rcases dec_cases x a2 with ⟨k', f', b1, b2, b3, b4, e1, e2, e3, e4, e5, e6, e7⟩ | ⟨e1, e2, e3⟩ | ⟨e1, e2 | e2⟩
    · rw [e1, e2]
      have E4 := Lib.hid e4; clear e4
      have E5 := Lib.hid e5; clear e5
      have E6 := Lib.hid e6; clear e6
      have E7 := Lib.hid e7; clear e7
      clear e1 e2
      go_wp2_with fail
      refine (encode_any k' f' b1 b2 b3 b4 _ (TD.out.kp ((Kp.refl _).alloc _ _)) E6.out E7.out).mono ?_; rintro e we ⟨rfl, hg⟩
      rw [E4.out, E5.out]
      have TE := Lib.hid ((TD.out.kp ((Kp.refl _).alloc _ _)).kp hg)
      have GE := Lib.hid ((GD.out.alloc _ _).trans hg); clear hg
      go_wp2_with fail
      refine (wakes03_any _ TE.out).mono ?_; rintro e wz ⟨rfl, hg⟩
      have GZ := Lib.hid (GE.out.trans hg); clear hg
      go_wp2_with fail
      go_ret
      exact ⟨rfl, GZ.out⟩
    · rw [e1, e2]
      clear e1 e2
      go_wp2_with fail
      refine (wakes03_any _ (TD.out.kp ((Kp.refl _).alloc _ _))).mono ?_; rintro e wz ⟨rfl, hg⟩
      have GZ := Lib.hid ((GD.out.alloc _ _).trans hg); clear hg
      go_wp2_with fail
      go_ret
      exact ⟨rfl, GZ.out⟩
    · rw [e1, e2]
      clear e1 e2
      go_wp2_with fail
      refine (wakes03_any _ (TD.out.kp ((Kp.refl _).alloc _ _))).mono ?_; rintro e wz ⟨rfl, hg⟩
      have GZ := Lib.hid ((GD.out.alloc _ _).trans hg); clear hg
      go_wp2_with fail
      go_ret
      exact ⟨rfl, GZ.out⟩
    · rw [e1, e2]
      clear e1 e2
      go_wp2_with fail
      refine (wakes03_any _ (TD.out.kp ((Kp.refl _).alloc _ _))).mono ?_; rintro e wz ⟨rfl, hg⟩
      have GZ := Lib.hid ((GD.out.alloc _ _).trans hg); clear hg
      go_wp2_with fail
      go_ret
      exact ⟨rfl, GZ.out⟩
  · have HE : encE k f af ro us ng = 30 := if_neg ok
    rw [HE]
    clear HE ok
    go_wp2_with fail
    refine (decode_any x a2 _ TA.out).mono ?_; rintro e wd ⟨rfl, hg⟩
    have TD := Lib.hid ((TA.out).kp hg)
    have GD := Lib.hid ((GA.out).trans hg); clear hg
    rcases dec_cases x a2 with ⟨k', f', b1, b2, b3, b4, e1, e2, e3, e4, e5, e6, e7⟩ | ⟨e1, e2, e3⟩ | ⟨e1, e2 | e2⟩
    · rw [e1, e2]
      have E4 := Lib.hid e4; clear e4
      have E5 := Lib.hid e5; clear e5
      have E6 := Lib.hid e6; clear e6
      have E7 := Lib.hid e7; clear e7
      clear e1 e2
      go_wp2_with fail
      refine (encode_any k' f' b1 b2 b3 b4 _ (TD.out.kp ((Kp.refl _).alloc _ _)) E6.out E7.out).mono ?_; rintro e we ⟨rfl, hg⟩
      rw [E4.out, E5.out]
      have TE := Lib.hid ((TD.out.kp ((Kp.refl _).alloc _ _)).kp hg)
      have GE := Lib.hid ((GD.out.alloc _ _).trans hg); clear hg
      go_wp2_with fail
      refine (wakes03_any _ TE.out).mono ?_; rintro e wz ⟨rfl, hg⟩
      have GZ := Lib.hid (GE.out.trans hg); clear hg
      go_wp2_with fail
      go_ret
      exact ⟨rfl, GZ.out⟩
    · rw [e1, e2]
      clear e1 e2
      go_wp2_with fail
      refine (wakes03_any _ (TD.out.kp ((Kp.refl _).alloc _ _))).mono ?_; rintro e wz ⟨rfl, hg⟩
      have GZ := Lib.hid ((GD.out.alloc _ _).trans hg); clear hg
      go_wp2_with fail
      go_ret
      exact ⟨rfl, GZ.out⟩
    · rw [e1, e2]
      clear e1 e2
      go_wp2_with fail
      refine (wakes03_any _ (TD.out.kp ((Kp.refl _).alloc _ _))).mono ?_; rintro e wz ⟨rfl, hg⟩
      have GZ := Lib.hid ((GD.out.alloc _ _).trans hg); clear hg
      go_wp2_with fail
      go_ret
      exact ⟨rfl, GZ.out⟩
    · rw [e1, e2]
      clear e1 e2
      go_wp2_with fail
      refine (wakes03_any _ (TD.out.kp ((Kp.refl _).alloc _ _))).mono ?_; rintro e wz ⟨rfl, hg⟩
      have GZ := Lib.hid ((GD.out.alloc _ _).trans hg); clear hg
      go_wp2_with fail
      go_ret
      exact ⟨rfl, GZ.out⟩
theorem walkBack (k f : Int) (af ro us ng : Bool) (a1 a2 : Int) (w : World) (hT : TabsOk w) (hk : (Lit.int .i8 k).wf = true) (hf : (Lit.int .i64 f).wf = true) (w1 : (Lit.int .u64 a1).wf = true) :
    Calls Tryd.prog 4 #[.agg #[.int .i8 k, .int .i64 f, .bool af, .bool ro, .bool us, .bool ng], .int .u64 a1, .int .i64 a2] w fun e w' => e = .returned (.bool true) ∧ Kp w w' := by
  obtain ⟨x, rfl⟩ := word_of a1 w1
  by_cases h : k = 1
  · subst h; exact back_table f af ro us ng x a2 w hT hf
  · exact back_other k f af ro us ng x a2 w hT hk hf h
end Go.Proofs.YtpdgajlookhpfaaDoor
