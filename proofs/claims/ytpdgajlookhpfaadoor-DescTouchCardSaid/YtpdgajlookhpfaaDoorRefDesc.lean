/-
  The document's own answers for package desc: flag, Encode, for every descriptor. No condition.
-/
import Derived.Test.YtpdgajlookhpfaaDoorDescTop
import Derived.Test.YtpdgajlookhpfaaDoorRefGet
import Derived.StillTailTactics
namespace Go.Proofs.YtpdgajlookhpfaaDoor
open Go Go.RowKit

theorem flag_any (b : Bool) (k : Nat) (w : World) (hk : k ≤ 63) :
    Calls Tryd.prog 17 #[.bool b, .int .i64 k] w fun e w' => e = .returned (.int .u64 (bB b <<< k).toNat) ∧ w' = w := by
  cases b with
  | false =>
    have H : Hid ((0 : Int) = ((bB false <<< k).toNat : Int)) := Lib.hid (by simp [bB])
    go_enter Tryd.func17, Tryd.ntmps17
    go_wp2
    go_ret
    exact ⟨ret_int H.out, rfl⟩
  | true =>
    have H := shl_num 1#64 k hk
    rw [show (((1#64 : BitVec 64).toNat : Nat) : Int) = 1 from rfl, Int.one_mul] at H
    have HH := Lib.hid H; clear H
    go_enter Tryd.func17, Tryd.ntmps17
    go_wp2
    go_ret
    exact ⟨ret_int HH.out, rfl⟩
theorem renc_num (k f : Int) (af ro us ng : Bool) (h : DOk k f af ro us ng) (hk : k ≠ 0) :
    bits BinOp.or IntKind.u64 (bits BinOp.or IntKind.u64 (bits BinOp.or IntKind.u64 (bits BinOp.or IntKind.u64 (bits BinOp.or IntKind.u64 3 (IntKind.u64.wrap (IntKind.u64.wrap f * 4096))) ((bB us <<< 6).toNat : Int)) ((bB ro <<< 7).toNat : Int)) ((bB af <<< 10).toNat : Int)) ((bB ng <<< 11).toNat : Int) = ((encW k f af ro us ng).toNat : Int) ∧ (0 : Int) = encE k f af ro us ng := by
  have hf : 0 ≤ f ∧ f < 64 := by
    rcases h with g | g | g
    · exact absurd g.1 hk
    · exact ⟨g.2.1, g.2.2.1⟩
    · exact g.2
  refine ⟨?_, (if_pos h).symm⟩
  have e : encW k f af ro us ng = BitVec.ofNat 64 (encN k f af ro us ng) := if_pos h
  have e2 : encN k f af ro us ng = 3 + 64 * bN us + 128 * bN ro + 1024 * bN af + 2048 * bN ng + 4096 * f.toNat := if_neg hk
  have a := acc_fin ⟨f.toNat, by omega⟩ af ro us ng
  have s := or_shl 3#64 (vF f) (IntKind.u64.wrap f) 4096 12 (by decide) (by decide) (vF_num f)
  rw [show (((3#64 : BitVec 64).toNat : Nat) : Int) = 3 from rfl] at s
  rw [e, e2, ← a, s, bv_or, bv_or, bv_or, bv_or, vF_nat f hf.1 (by omega)]
  rfl
theorem beq_no {a b : Int} (h : a ≠ b) : (a == b) = false ∧ (a != b) = true := by simp [h]
theorem re0_low (k : Int) (f : Int) (ro us ng : Bool) (w : World) (h : f < 0) :
    Calls Tryd.prog 8 #[.agg #[.int .i8 k, .int .i64 f, .bool true, .bool ro, .bool us, .bool ng]] w fun e w' => e = .returned (.tuple #[.int .u64 (encW k f true ro us ng).toNat, .int .i64 (encE k f true ro us ng)]) ∧ Kp w w' := by
  have hn := enc_no k f true ro us ng (by intro g; unfold DOk bare at g; simp at g <;> omega)
  rw [hn.1, hn.2]; clear hn
  go_enter Tryd.func8, Tryd.ntmps8
  go_wp2_with fail
  all_goals go_ret2
  all_goals exact ⟨rfl, (Kp.refl _).alloc _ _⟩
theorem re0_high (k : Int) (f : Int) (ro us ng : Bool) (w : World) (h : 64 ≤ f) :
    Calls Tryd.prog 8 #[.agg #[.int .i8 k, .int .i64 f, .bool true, .bool ro, .bool us, .bool ng]] w fun e w' => e = .returned (.tuple #[.int .u64 (encW k f true ro us ng).toNat, .int .i64 (encE k f true ro us ng)]) ∧ Kp w w' := by
  have hn := enc_no k f true ro us ng (by intro g; unfold DOk bare at g; simp at g <;> omega)
  rw [hn.1, hn.2]; clear hn
  go_enter Tryd.func8, Tryd.ntmps8
  go_wp2_with fail
  all_goals go_ret2
  all_goals exact ⟨rfl, (Kp.refl _).alloc _ _⟩
theorem re0_other (k : Int) (f : Int) (ro us ng : Bool) (w : World) (h1 : 0 ≤ f) (h2 : f < 64) (h3 : k ≠ 2) :
    Calls Tryd.prog 8 #[.agg #[.int .i8 k, .int .i64 f, .bool true, .bool ro, .bool us, .bool ng]] w fun e w' => e = .returned (.tuple #[.int .u64 (encW k f true ro us ng).toNat, .int .i64 (encE k f true ro us ng)]) ∧ Kp w w' := by
  have hn := enc_no k f true ro us ng (by intro g; unfold DOk bare at g; simp at g <;> omega)
  rw [hn.1, hn.2]; clear hn
  have d1 := beq_no h3
  go_enter Tryd.func8, Tryd.ntmps8
  go_wp2_with fail
  all_goals go_ret2
  all_goals exact ⟨rfl, (Kp.refl _).alloc _ _⟩
set_option maxHeartbeats 2000000 in
theorem re0_two (f : Int) (ro us ng : Bool) (w : World) (h1 : 0 ≤ f) (h2 : f < 64) :
    Calls Tryd.prog 8 #[.agg #[.int .i8 2, .int .i64 f, .bool true, .bool ro, .bool us, .bool ng]] w fun e w' => e = .returned (.tuple #[.int .u64 (encW 2 f true ro us ng).toNat, .int .i64 (encE 2 f true ro us ng)]) ∧ Kp w w' := by
  have HN := Lib.hid (renc_num 2 f true ro us ng (.inr (.inr ⟨rfl, h1, h2⟩)) (by decide))
  go_enter Tryd.func8, Tryd.ntmps8
  go_wp2_with fail
  have B := Blk.new w #[.int .i8 2, .int .i64 f, .bool true, .bool ro, .bool us, .bool ng] 24
  have hk := (Kp.refl w).alloc #[.int .i8 2, .int .i64 f, .bool true, .bool ro, .bool us, .bool ng] 24
  generalize w.alloc (.cells #[.int .i8 2, .int .i64 f, .bool true, .bool ro, .bool us, .bool ng] 24) = w2 at B hk ⊢
  have c1 := B.cell 1
  have c2 := B.cell 2
  have c3 := B.cell 3
  have c4 := B.cell 4
  have c5 := B.cell 5
  simp at c1 c2 c3 c4 c5
  clear B
  refine wp_region_still_lit (by kernel_rfl) (by kernel_rfl) ?_
  repeat still_step
  still_call (flag_any us 6 _ (by decide))
  repeat still_step
  still_call (flag_any ro 7 _ (by decide))
  repeat still_step
  still_call (flag_any true 10 _ (by decide))
  repeat still_step
  still_call (flag_any ng 11 _ (by decide))
  repeat still_step
  refine wpStill_nil ?_
  go_wp2
  go_ret2
  exact ⟨ret_pair HN.out.1 HN.out.2, hk.drew⟩
theorem re1_low (k : Int) (f : Int) (us ng : Bool) (w : World) (h : f < 0) :
    Calls Tryd.prog 8 #[.agg #[.int .i8 k, .int .i64 f, .bool false, .bool true, .bool us, .bool ng]] w fun e w' => e = .returned (.tuple #[.int .u64 (encW k f false true us ng).toNat, .int .i64 (encE k f false true us ng)]) ∧ Kp w w' := by
  have hn := enc_no k f false true us ng (by intro g; unfold DOk bare at g; simp at g <;> omega)
  rw [hn.1, hn.2]; clear hn
  go_enter Tryd.func8, Tryd.ntmps8
  go_wp2_with fail
  all_goals go_ret2
  all_goals exact ⟨rfl, (Kp.refl _).alloc _ _⟩
theorem re1_high (k : Int) (f : Int) (us ng : Bool) (w : World) (h : 64 ≤ f) :
    Calls Tryd.prog 8 #[.agg #[.int .i8 k, .int .i64 f, .bool false, .bool true, .bool us, .bool ng]] w fun e w' => e = .returned (.tuple #[.int .u64 (encW k f false true us ng).toNat, .int .i64 (encE k f false true us ng)]) ∧ Kp w w' := by
  have hn := enc_no k f false true us ng (by intro g; unfold DOk bare at g; simp at g <;> omega)
  rw [hn.1, hn.2]; clear hn
  go_enter Tryd.func8, Tryd.ntmps8
  go_wp2_with fail
  all_goals go_ret2
  all_goals exact ⟨rfl, (Kp.refl _).alloc _ _⟩
theorem re1_other (k : Int) (f : Int) (us ng : Bool) (w : World) (h1 : 0 ≤ f) (h2 : f < 64) (h3 : k ≠ 2) :
    Calls Tryd.prog 8 #[.agg #[.int .i8 k, .int .i64 f, .bool false, .bool true, .bool us, .bool ng]] w fun e w' => e = .returned (.tuple #[.int .u64 (encW k f false true us ng).toNat, .int .i64 (encE k f false true us ng)]) ∧ Kp w w' := by
  have hn := enc_no k f false true us ng (by intro g; unfold DOk bare at g; simp at g <;> omega)
  rw [hn.1, hn.2]; clear hn
  have d1 := beq_no h3
  go_enter Tryd.func8, Tryd.ntmps8
  go_wp2_with fail
  all_goals go_ret2
  all_goals exact ⟨rfl, (Kp.refl _).alloc _ _⟩
set_option maxHeartbeats 2000000 in
theorem re1_two (f : Int) (us ng : Bool) (w : World) (h1 : 0 ≤ f) (h2 : f < 64) :
    Calls Tryd.prog 8 #[.agg #[.int .i8 2, .int .i64 f, .bool false, .bool true, .bool us, .bool ng]] w fun e w' => e = .returned (.tuple #[.int .u64 (encW 2 f false true us ng).toNat, .int .i64 (encE 2 f false true us ng)]) ∧ Kp w w' := by
  have HN := Lib.hid (renc_num 2 f false true us ng (.inr (.inr ⟨rfl, h1, h2⟩)) (by decide))
  go_enter Tryd.func8, Tryd.ntmps8
  go_wp2_with fail
  have B := Blk.new w #[.int .i8 2, .int .i64 f, .bool false, .bool true, .bool us, .bool ng] 24
  have hk := (Kp.refl w).alloc #[.int .i8 2, .int .i64 f, .bool false, .bool true, .bool us, .bool ng] 24
  generalize w.alloc (.cells #[.int .i8 2, .int .i64 f, .bool false, .bool true, .bool us, .bool ng] 24) = w2 at B hk ⊢
  have c1 := B.cell 1
  have c2 := B.cell 2
  have c3 := B.cell 3
  have c4 := B.cell 4
  have c5 := B.cell 5
  simp at c1 c2 c3 c4 c5
  clear B
  refine wp_region_still_lit (by kernel_rfl) (by kernel_rfl) ?_
  repeat still_step
  still_call (flag_any us 6 _ (by decide))
  repeat still_step
  still_call (flag_any true 7 _ (by decide))
  repeat still_step
  still_call (flag_any false 10 _ (by decide))
  repeat still_step
  still_call (flag_any ng 11 _ (by decide))
  repeat still_step
  refine wpStill_nil ?_
  go_wp2
  go_ret2
  exact ⟨ret_pair HN.out.1 HN.out.2, hk.drew⟩
theorem re2_low (k : Int) (f : Int) (ng : Bool) (w : World) (h : f < 0) :
    Calls Tryd.prog 8 #[.agg #[.int .i8 k, .int .i64 f, .bool false, .bool false, .bool true, .bool ng]] w fun e w' => e = .returned (.tuple #[.int .u64 (encW k f false false true ng).toNat, .int .i64 (encE k f false false true ng)]) ∧ Kp w w' := by
  have hn := enc_no k f false false true ng (by intro g; unfold DOk bare at g; simp at g <;> omega)
  rw [hn.1, hn.2]; clear hn
  go_enter Tryd.func8, Tryd.ntmps8
  go_wp2_with fail
  all_goals go_ret2
  all_goals exact ⟨rfl, (Kp.refl _).alloc _ _⟩
theorem re2_high (k : Int) (f : Int) (ng : Bool) (w : World) (h : 64 ≤ f) :
    Calls Tryd.prog 8 #[.agg #[.int .i8 k, .int .i64 f, .bool false, .bool false, .bool true, .bool ng]] w fun e w' => e = .returned (.tuple #[.int .u64 (encW k f false false true ng).toNat, .int .i64 (encE k f false false true ng)]) ∧ Kp w w' := by
  have hn := enc_no k f false false true ng (by intro g; unfold DOk bare at g; simp at g <;> omega)
  rw [hn.1, hn.2]; clear hn
  go_enter Tryd.func8, Tryd.ntmps8
  go_wp2_with fail
  all_goals go_ret2
  all_goals exact ⟨rfl, (Kp.refl _).alloc _ _⟩
theorem re2_other (k : Int) (f : Int) (ng : Bool) (w : World) (h1 : 0 ≤ f) (h2 : f < 64) (h3 : k ≠ 2) :
    Calls Tryd.prog 8 #[.agg #[.int .i8 k, .int .i64 f, .bool false, .bool false, .bool true, .bool ng]] w fun e w' => e = .returned (.tuple #[.int .u64 (encW k f false false true ng).toNat, .int .i64 (encE k f false false true ng)]) ∧ Kp w w' := by
  have hn := enc_no k f false false true ng (by intro g; unfold DOk bare at g; simp at g <;> omega)
  rw [hn.1, hn.2]; clear hn
  have d1 := beq_no h3
  go_enter Tryd.func8, Tryd.ntmps8
  go_wp2_with fail
  all_goals go_ret2
  all_goals exact ⟨rfl, (Kp.refl _).alloc _ _⟩
set_option maxHeartbeats 2000000 in
theorem re2_two (f : Int) (ng : Bool) (w : World) (h1 : 0 ≤ f) (h2 : f < 64) :
    Calls Tryd.prog 8 #[.agg #[.int .i8 2, .int .i64 f, .bool false, .bool false, .bool true, .bool ng]] w fun e w' => e = .returned (.tuple #[.int .u64 (encW 2 f false false true ng).toNat, .int .i64 (encE 2 f false false true ng)]) ∧ Kp w w' := by
  have HN := Lib.hid (renc_num 2 f false false true ng (.inr (.inr ⟨rfl, h1, h2⟩)) (by decide))
  go_enter Tryd.func8, Tryd.ntmps8
  go_wp2_with fail
  have B := Blk.new w #[.int .i8 2, .int .i64 f, .bool false, .bool false, .bool true, .bool ng] 24
  have hk := (Kp.refl w).alloc #[.int .i8 2, .int .i64 f, .bool false, .bool false, .bool true, .bool ng] 24
  generalize w.alloc (.cells #[.int .i8 2, .int .i64 f, .bool false, .bool false, .bool true, .bool ng] 24) = w2 at B hk ⊢
  have c1 := B.cell 1
  have c2 := B.cell 2
  have c3 := B.cell 3
  have c4 := B.cell 4
  have c5 := B.cell 5
  simp at c1 c2 c3 c4 c5
  clear B
  refine wp_region_still_lit (by kernel_rfl) (by kernel_rfl) ?_
  repeat still_step
  still_call (flag_any true 6 _ (by decide))
  repeat still_step
  still_call (flag_any false 7 _ (by decide))
  repeat still_step
  still_call (flag_any false 10 _ (by decide))
  repeat still_step
  still_call (flag_any ng 11 _ (by decide))
  repeat still_step
  refine wpStill_nil ?_
  go_wp2
  go_ret2
  exact ⟨ret_pair HN.out.1 HN.out.2, hk.drew⟩
theorem re3_low (k : Int) (f : Int) (w : World) (h : f < 0) :
    Calls Tryd.prog 8 #[.agg #[.int .i8 k, .int .i64 f, .bool false, .bool false, .bool false, .bool true]] w fun e w' => e = .returned (.tuple #[.int .u64 (encW k f false false false true).toNat, .int .i64 (encE k f false false false true)]) ∧ Kp w w' := by
  have hn := enc_no k f false false false true (by intro g; unfold DOk bare at g; simp at g <;> omega)
  rw [hn.1, hn.2]; clear hn
  go_enter Tryd.func8, Tryd.ntmps8
  go_wp2_with fail
  all_goals go_ret2
  all_goals exact ⟨rfl, (Kp.refl _).alloc _ _⟩
theorem re3_high (k : Int) (f : Int) (w : World) (h : 64 ≤ f) :
    Calls Tryd.prog 8 #[.agg #[.int .i8 k, .int .i64 f, .bool false, .bool false, .bool false, .bool true]] w fun e w' => e = .returned (.tuple #[.int .u64 (encW k f false false false true).toNat, .int .i64 (encE k f false false false true)]) ∧ Kp w w' := by
  have hn := enc_no k f false false false true (by intro g; unfold DOk bare at g; simp at g <;> omega)
  rw [hn.1, hn.2]; clear hn
  go_enter Tryd.func8, Tryd.ntmps8
  go_wp2_with fail
  all_goals go_ret2
  all_goals exact ⟨rfl, (Kp.refl _).alloc _ _⟩
theorem re3_other (k : Int) (f : Int) (w : World) (h1 : 0 ≤ f) (h2 : f < 64) (h3 : k ≠ 2) :
    Calls Tryd.prog 8 #[.agg #[.int .i8 k, .int .i64 f, .bool false, .bool false, .bool false, .bool true]] w fun e w' => e = .returned (.tuple #[.int .u64 (encW k f false false false true).toNat, .int .i64 (encE k f false false false true)]) ∧ Kp w w' := by
  have hn := enc_no k f false false false true (by intro g; unfold DOk bare at g; simp at g <;> omega)
  rw [hn.1, hn.2]; clear hn
  have d1 := beq_no h3
  go_enter Tryd.func8, Tryd.ntmps8
  go_wp2_with fail
  all_goals go_ret2
  all_goals exact ⟨rfl, (Kp.refl _).alloc _ _⟩
set_option maxHeartbeats 2000000 in
theorem re3_two (f : Int) (w : World) (h1 : 0 ≤ f) (h2 : f < 64) :
    Calls Tryd.prog 8 #[.agg #[.int .i8 2, .int .i64 f, .bool false, .bool false, .bool false, .bool true]] w fun e w' => e = .returned (.tuple #[.int .u64 (encW 2 f false false false true).toNat, .int .i64 (encE 2 f false false false true)]) ∧ Kp w w' := by
  have HN := Lib.hid (renc_num 2 f false false false true (.inr (.inr ⟨rfl, h1, h2⟩)) (by decide))
  go_enter Tryd.func8, Tryd.ntmps8
  go_wp2_with fail
  have B := Blk.new w #[.int .i8 2, .int .i64 f, .bool false, .bool false, .bool false, .bool true] 24
  have hk := (Kp.refl w).alloc #[.int .i8 2, .int .i64 f, .bool false, .bool false, .bool false, .bool true] 24
  generalize w.alloc (.cells #[.int .i8 2, .int .i64 f, .bool false, .bool false, .bool false, .bool true] 24) = w2 at B hk ⊢
  have c1 := B.cell 1
  have c2 := B.cell 2
  have c3 := B.cell 3
  have c4 := B.cell 4
  have c5 := B.cell 5
  simp at c1 c2 c3 c4 c5
  clear B
  refine wp_region_still_lit (by kernel_rfl) (by kernel_rfl) ?_
  repeat still_step
  still_call (flag_any false 6 _ (by decide))
  repeat still_step
  still_call (flag_any false 7 _ (by decide))
  repeat still_step
  still_call (flag_any false 10 _ (by decide))
  repeat still_step
  still_call (flag_any true 11 _ (by decide))
  repeat still_step
  refine wpStill_nil ?_
  go_wp2
  go_ret2
  exact ⟨ret_pair HN.out.1 HN.out.2, hk.drew⟩
theorem re4_low (k : Int) (f : Int) (w : World) (h : f < 0) :
    Calls Tryd.prog 8 #[.agg #[.int .i8 k, .int .i64 f, .bool false, .bool false, .bool false, .bool false]] w fun e w' => e = .returned (.tuple #[.int .u64 (encW k f false false false false).toNat, .int .i64 (encE k f false false false false)]) ∧ Kp w w' := by
  have hn := enc_no k f false false false false (by intro g; unfold DOk bare at g; simp at g <;> omega)
  rw [hn.1, hn.2]; clear hn
  have d0 : (f == 0) = false := (beq_no (by omega)).1
  go_enter Tryd.func8, Tryd.ntmps8
  go_wp2_with fail
  all_goals go_ret2
  all_goals exact ⟨rfl, (Kp.refl _).alloc _ _⟩
theorem re4_high (k : Int) (f : Int) (w : World) (h : 64 ≤ f) :
    Calls Tryd.prog 8 #[.agg #[.int .i8 k, .int .i64 f, .bool false, .bool false, .bool false, .bool false]] w fun e w' => e = .returned (.tuple #[.int .u64 (encW k f false false false false).toNat, .int .i64 (encE k f false false false false)]) ∧ Kp w w' := by
  have hn := enc_no k f false false false false (by intro g; unfold DOk bare at g; simp at g <;> omega)
  rw [hn.1, hn.2]; clear hn
  have d0 : (f == 0) = false := (beq_no (by omega)).1
  go_enter Tryd.func8, Tryd.ntmps8
  go_wp2_with fail
  all_goals go_ret2
  all_goals exact ⟨rfl, (Kp.refl _).alloc _ _⟩
theorem re4_other (k : Int) (f : Int) (w : World) (h1 : 0 ≤ f) (h2 : f < 64) (h3 : k ≠ 2) (h4 : k ≠ 1) (h5 : k ≠ 0) :
    Calls Tryd.prog 8 #[.agg #[.int .i8 k, .int .i64 f, .bool false, .bool false, .bool false, .bool false]] w fun e w' => e = .returned (.tuple #[.int .u64 (encW k f false false false false).toNat, .int .i64 (encE k f false false false false)]) ∧ Kp w w' := by
  have hn := enc_no k f false false false false (by intro g; unfold DOk bare at g; simp at g <;> omega)
  rw [hn.1, hn.2]; clear hn
  have d1 := beq_no h3
  have d2 := beq_no h4
  have d3 := beq_no h5
  go_enter Tryd.func8, Tryd.ntmps8
  go_wp2_with fail
  all_goals go_ret2
  all_goals exact ⟨rfl, (Kp.refl _).alloc _ _⟩
theorem re4_none (f : Int) (w : World) (h1 : 0 ≤ f) (h2 : f < 64) (h3 : f ≠ 0) :
    Calls Tryd.prog 8 #[.agg #[.int .i8 0, .int .i64 f, .bool false, .bool false, .bool false, .bool false]] w fun e w' => e = .returned (.tuple #[.int .u64 (encW 0 f false false false false).toNat, .int .i64 (encE 0 f false false false false)]) ∧ Kp w w' := by
  have hn := enc_no 0 f false false false false (by intro g; unfold DOk bare at g; simp at g <;> omega)
  rw [hn.1, hn.2]; clear hn
  have d1 := beq_no h3
  go_enter Tryd.func8, Tryd.ntmps8
  go_wp2_with fail
  all_goals go_ret2
  all_goals exact ⟨rfl, (Kp.refl _).alloc _ _⟩
set_option maxHeartbeats 2000000 in
theorem re4_two (f : Int) (w : World) (h1 : 0 ≤ f) (h2 : f < 64) :
    Calls Tryd.prog 8 #[.agg #[.int .i8 2, .int .i64 f, .bool false, .bool false, .bool false, .bool false]] w fun e w' => e = .returned (.tuple #[.int .u64 (encW 2 f false false false false).toNat, .int .i64 (encE 2 f false false false false)]) ∧ Kp w w' := by
  have HN := Lib.hid (renc_num 2 f false false false false (.inr (.inr ⟨rfl, h1, h2⟩)) (by decide))
  go_enter Tryd.func8, Tryd.ntmps8
  go_wp2_with fail
  have B := Blk.new w #[.int .i8 2, .int .i64 f, .bool false, .bool false, .bool false, .bool false] 24
  have hk := (Kp.refl w).alloc #[.int .i8 2, .int .i64 f, .bool false, .bool false, .bool false, .bool false] 24
  generalize w.alloc (.cells #[.int .i8 2, .int .i64 f, .bool false, .bool false, .bool false, .bool false] 24) = w2 at B hk ⊢
  have c1 := B.cell 1
  have c2 := B.cell 2
  have c3 := B.cell 3
  have c4 := B.cell 4
  have c5 := B.cell 5
  simp at c1 c2 c3 c4 c5
  clear B
  refine wp_region_still_lit (by kernel_rfl) (by kernel_rfl) ?_
  repeat still_step
  still_call (flag_any false 6 _ (by decide))
  repeat still_step
  still_call (flag_any false 7 _ (by decide))
  repeat still_step
  still_call (flag_any false 10 _ (by decide))
  repeat still_step
  still_call (flag_any false 11 _ (by decide))
  repeat still_step
  refine wpStill_nil ?_
  go_wp2
  go_ret2
  exact ⟨ret_pair HN.out.1 HN.out.2, hk.drew⟩
set_option maxHeartbeats 2000000 in
theorem re4_one (f : Int) (w : World) (h1 : 0 ≤ f) (h2 : f < 64) :
    Calls Tryd.prog 8 #[.agg #[.int .i8 1, .int .i64 f, .bool false, .bool false, .bool false, .bool false]] w fun e w' => e = .returned (.tuple #[.int .u64 (encW 1 f false false false false).toNat, .int .i64 (encE 1 f false false false false)]) ∧ Kp w w' := by
  have HN := Lib.hid (renc_num 1 f false false false false (.inr (.inl ⟨rfl, h1, h2, rfl, rfl, rfl, rfl⟩)) (by decide))
  go_enter Tryd.func8, Tryd.ntmps8
  go_wp2_with fail
  have B := Blk.new w #[.int .i8 1, .int .i64 f, .bool false, .bool false, .bool false, .bool false] 24
  have hk := (Kp.refl w).alloc #[.int .i8 1, .int .i64 f, .bool false, .bool false, .bool false, .bool false] 24
  generalize w.alloc (.cells #[.int .i8 1, .int .i64 f, .bool false, .bool false, .bool false, .bool false] 24) = w2 at B hk ⊢
  have c1 := B.cell 1
  have c2 := B.cell 2
  have c3 := B.cell 3
  have c4 := B.cell 4
  have c5 := B.cell 5
  simp at c1 c2 c3 c4 c5
  clear B
  refine wp_region_still_lit (by kernel_rfl) (by kernel_rfl) ?_
  repeat still_step
  still_call (flag_any false 6 _ (by decide))
  repeat still_step
  still_call (flag_any false 7 _ (by decide))
  repeat still_step
  still_call (flag_any false 10 _ (by decide))
  repeat still_step
  still_call (flag_any false 11 _ (by decide))
  repeat still_step
  refine wpStill_nil ?_
  go_wp2
  go_ret2
  exact ⟨ret_pair HN.out.1 HN.out.2, hk.drew⟩
theorem re4_zero (w : World) :
    Calls Tryd.prog 8 #[.agg #[.int .i8 0, .int .i64 0, .bool false, .bool false, .bool false, .bool false]] w fun e w' => e = .returned (.tuple #[.int .u64 (encW 0 0 false false false false).toNat, .int .i64 (encE 0 0 false false false false)]) ∧ Kp w w' := by
  have e1 : encW 0 0 false false false false = 0#64 := by decide
  have e2 : encE 0 0 false false false false = 0 := by decide
  rw [e1, e2]; clear e1 e2
  go_enter Tryd.func8, Tryd.ntmps8
  go_wp2_with fail
  go_ret2
  exact ⟨rfl, (Kp.refl _).alloc _ _⟩
theorem rencode_any (k f : Int) (af ro us ng : Bool) (w : World) :
    Calls Tryd.prog 8 #[.agg #[.int .i8 k, .int .i64 f, .bool af, .bool ro, .bool us, .bool ng]] w fun e w' => e = .returned (.tuple #[.int .u64 (encW k f af ro us ng).toNat, .int .i64 (encE k f af ro us ng)]) ∧ Kp w w' := by
  cases af with
  | true =>
    by_cases a : f < 0
    · exact re0_low k f ro us ng w a
    · by_cases b : 64 ≤ f
      · exact re0_high k f ro us ng w b
      · by_cases c : k = 2
        · subst c; exact re0_two f ro us ng w (by omega) (by omega)
        · exact re0_other k f ro us ng w (by omega) (by omega) c
  | false =>
    cases ro with
    | true =>
      by_cases a : f < 0
      · exact re1_low k f us ng w a
      · by_cases b : 64 ≤ f
        · exact re1_high k f us ng w b
        · by_cases c : k = 2
          · subst c; exact re1_two f us ng w (by omega) (by omega)
          · exact re1_other k f us ng w (by omega) (by omega) c
    | false =>
      cases us with
      | true =>
        by_cases a : f < 0
        · exact re2_low k f ng w a
        · by_cases b : 64 ≤ f
          · exact re2_high k f ng w b
          · by_cases c : k = 2
            · subst c; exact re2_two f ng w (by omega) (by omega)
            · exact re2_other k f ng w (by omega) (by omega) c
      | false =>
        cases ng with
        | true =>
          by_cases a : f < 0
          · exact re3_low k f w a
          · by_cases b : 64 ≤ f
            · exact re3_high k f w b
            · by_cases c : k = 2
              · subst c; exact re3_two f w (by omega) (by omega)
              · exact re3_other k f w (by omega) (by omega) c
        | false =>
          by_cases a : f < 0
          · exact re4_low k f w a
          · by_cases b : 64 ≤ f
            · exact re4_high k f w b
            · by_cases c : k = 2
              · subst c; exact re4_two f w (by omega) (by omega)
              · by_cases d : k = 1
                · subst d; exact re4_one f w (by omega) (by omega)
                · by_cases e : k = 0
                  · subst e
                    by_cases g : f = 0
                    · subst g; exact re4_zero w
                    · exact re4_none f w (by omega) (by omega) g
                  · exact re4_other k f w (by omega) (by omega) c d e
end Go.Proofs.YtpdgajlookhpfaaDoor
