/-
  AluAlone returns true whatever the input: the other cases, and what an operation hangs on. No condition but the table.
-/
import Derived.Test.YtieffpgiliebmaaDoorAlone06
namespace Go.Proofs.YtieffpgiliebmaaDoor
open Go Go.RowKit

/-! What an operation hangs on. -/
theorem mem_fin : ∀ a b : Fin 8, ((a.val : Int) ∈ refTo (bsL [a.val, b.val]) 8) ∧ ((b.val : Int) ∈ refTo (bsL [a.val, b.val]) 8) := by decide +kernel
theorem mem_two (a b : Nat) (ha : a < 8) (hb : b < 8) : ((a : Int) ∈ Lib.compact (sortL [(a : Int), (b : Int)])) ∧ ((b : Int) ∈ Lib.compact (sortL [(a : Int), (b : Int)])) := by
  rw [two_ok a b ha hb]
  exact mem_fin ⟨a, ha⟩ ⟨b, hb⟩
theorem mem_fin1 : ∀ a : Fin 8, (a.val : Int) ∈ refTo (bsL [a.val]) 8 := by decide +kernel
theorem mem_one (a : Nat) (ha : a < 8) : (a : Int) ∈ Lib.compact (sortL [(a : Int)]) := by
  rw [one_ok a ha]
  exact mem_fin1 ⟨a, ha⟩
theorem upd_apart (R : Regs) (d kk : Nat) (c c' z : BitVec 64) (e : c = c') : (∀ j, j ≠ kk → upd R d c j = upd (upd R kk z) d c' j) ∧ (d = kk → upd R d c kk = upd (upd R kk z) d c' kk) := by
  subst e
  refine ⟨fun j hj => ?_, ?_⟩
  · by_cases h : j = d
    · subst h
      rw [upd_same, upd_same]
    · rw [upd_other _ _ _ _ h, upd_other _ _ _ _ h, upd_other _ _ _ _ hj]
  · rintro rfl
    rw [upd_same, upd_same]
/-- What holds of an operation that may be: it changes one register, and hangs on those that it reads. -/
def Apart (o d n m : Nat) (imm : Int) (R : Regs) (kk : Nat) (z : BitVec 64) : Prop :=
  (∀ j, doR o d n m imm R j = R j ∨ ((wrT o d m).2 = true ∧ (j : Int) = (wrT o d m).1)) ∧ (0 ≤ (wrT o d m).1 ∧ (wrT o d m).1 < 8) ∧
  (¬ ((kk : Int) ∈ readsA o d n m imm) → (∀ j, j ≠ kk → doR o d n m imm R j = doR o d n m imm (upd R kk z) j) ∧ ((wrT o d m).2 = true → (wrT o d m).1 = kk → doR o d n m imm R kk = doR o d n m imm (upd R kk z) kk) ∧ stepI o d imm (upd R kk z) = stepI o d imm R)
theorem put_one (R : Regs) (d : Nat) (c : BitVec 64) (j : Nat) : upd R d c j = R j ∨ (true = true ∧ (j : Int) = (d : Int)) := by
  by_cases h : j = d
  · exact .inr ⟨rfl, by rw [h]⟩
  · exact .inl (upd_other _ _ _ _ h)
theorem apart_put {o d n m : Nat} {imm : Int} {R : Regs} {kk : Nat} {z : BitVec 64} (hd : d < 8) (f : Regs → BitVec 64) (hf : ∀ Q, doR o d n m imm Q = upd Q d (f Q)) (hw : wrT o d m = ((d : Int), true)) (hs : ∀ Q, stepI o d imm Q = 1)
    (hr : ¬ ((kk : Int) ∈ readsA o d n m imm) → f R = f (upd R kk z)) : Apart o d n m imm R kk z := by
  refine ⟨fun j => ?_, by rw [hw]; exact ⟨by simp, by simp; omega⟩, fun h => ?_⟩
  · rw [hf, hw]
    exact put_one R d _ j
  · have := upd_apart R d kk _ _ z (hr h)
    rw [hf, hf, hw, hs, hs]
    exact ⟨this.1, fun _ e => this.2 (Int.ofNat.inj e), rfl⟩
theorem apart_keep {o d n m : Nat} {imm : Int} {R : Regs} {kk : Nat} {z : BitVec 64} (hf : ∀ Q, doR o d n m imm Q = Q) (hw : wrT o d m = ((0 : Int), false))
    (hs : ¬ ((kk : Int) ∈ readsA o d n m imm) → stepI o d imm (upd R kk z) = stepI o d imm R) : Apart o d n m imm R kk z := by
  refine ⟨fun j => ?_, by rw [hw]; exact ⟨by simp, by simp⟩, fun h => ?_⟩
  · rw [hf]; exact .inl rfl
  · rw [hf, hf, hw]
    exact ⟨fun j hj => (upd_other _ _ _ _ hj).symm, fun e => by simp at e, hs h⟩
theorem apart_any {o d n m : Nat} {imm : Int} (R : Regs) (kk : Nat) (z : BitVec 64) (ho : AluO o) (g : InsA o d n m imm) : Apart o d n m imm R kk z := by
  obtain ⟨⟨_, d8⟩, ⟨_, n8⟩, ⟨_, m8⟩⟩ := g.rg
  have hd : d < 8 := by omega
  have hn : n < 8 := by omega
  have hm : m < 8 := by omega
  have two : ∀ o : Nat, InsA o d n m imm → ¬ (o : Int) = 17 → usedTo o d n m 1 3 = [(n : Int), (m : Int)] → ¬ ((kk : Int) ∈ readsA o d n m imm) → upd R kk z n = R n ∧ upd R kk z m = R m := by
    intro o g h17 hu h
    rw [reads_is g h17, hu] at h
    have hm := mem_two n m hn hm
    refine ⟨upd_other _ _ _ _ fun e => h (e ▸ hm.1), upd_other _ _ _ _ fun e => h (e ▸ hm.2)⟩
  have one : ∀ (o r : Nat), r < 8 → InsA o d n m imm → ¬ (o : Int) = 17 → usedTo o d n m 1 3 = [(r : Int)] → ¬ ((kk : Int) ∈ readsA o d n m imm) → upd R kk z r = R r := by
    intro o r hr g h17 hu h
    rw [reads_is g h17, hu] at h
    exact upd_other _ _ _ _ fun e => h (e ▸ mem_one r hr)
  have h : o = 0 ∨ o = 1 ∨ o = 2 ∨ o = 3 ∨ o = 4 ∨ o = 5 ∨ o = 6 ∨ o = 7 ∨ o = 14 ∨ o = 15 ∨ o = 16 := by unfold AluO at ho; omega
  rcases h with rfl | rfl | rfl | rfl | rfl | rfl | rfl | rfl | rfl | rfl | rfl
  · exact apart_keep (fun _ => rfl) rfl fun _ => rfl
  · exact apart_put hd (fun _ => BitVec.ofInt 64 imm) (fun _ => rfl) rfl (fun _ => rfl) fun _ => rfl
  · exact apart_put hd (fun Q => Q n + Q m) (fun _ => rfl) rfl (fun _ => rfl) fun h => by have := two 2 g (by decide) rfl h; simp only [this.1, this.2]
  · exact apart_put hd (fun Q => Q n - Q m) (fun _ => rfl) rfl (fun _ => rfl) fun h => by have := two 3 g (by decide) rfl h; simp only [this.1, this.2]
  · exact apart_put hd (fun Q => Q n &&& Q m) (fun _ => rfl) rfl (fun _ => rfl) fun h => by have := two 4 g (by decide) rfl h; simp only [this.1, this.2]
  · exact apart_put hd (fun Q => Q n ||| Q m) (fun _ => rfl) rfl (fun _ => rfl) fun h => by have := two 5 g (by decide) rfl h; simp only [this.1, this.2]
  · exact apart_put hd (fun Q => Q n ^^^ Q m) (fun _ => rfl) rfl (fun _ => rfl) fun h => by have := two 6 g (by decide) rfl h; simp only [this.1, this.2]
  · exact apart_put hd (fun Q => Q n + BitVec.ofInt 64 imm) (fun _ => rfl) rfl (fun _ => rfl) fun h => by have := one 7 n hn g (by decide) rfl h; simp only [this]
  · exact apart_keep (fun _ => rfl) rfl fun _ => rfl
  · exact apart_keep (fun _ => rfl) rfl fun h => by have := one 15 d hd g (by decide) rfl h; simp only [stepI, this]
  · exact apart_keep (fun _ => rfl) rfl fun h => by have := one 16 d hd g (by decide) rfl h; simp only [stepI, this]

/-! The other cases. -/
set_option maxHeartbeats 2000000 in
set_option maxRecDepth 20000 in
theorem walkAloneOut (op d n m imm : Int) (R : Regs) (pc k z : Int) (w : World) (hT : TabsOk w) (h : pc < -2147483648 ∨ 2147483648 < pc) :
    Calls Tryd.prog 5 #[.agg #[.int .i8 op, .int .i8 d, .int .i8 n, .int .i8 m, .int .i64 imm], .agg (regV R), .int .i64 pc, .int .i64 k, .int .u64 z] w fun e w' => e = .returned (.bool true) ∧ Kp w w' := by
  have HT := Lib.hid hT; clear hT
  rcases h with h | h
  all_goals
    go_enter Tryd.func5, Tryd.ntmps5
    go_wp2_with fail
    refine (wakes_any _ (HT.out.kp ((kpA _ _ _).alloc _ _))).mono ?_; rintro e w1 ⟨rfl, hg⟩
    have K1 : Hid (Kp w w1) := Lib.hid (((kpA _ _ _).alloc _ _).trans hg)
    clear hg
    go_wp2
    go_ret
    exact ⟨rfl, K1.out⟩
set_option maxHeartbeats 2000000 in
set_option maxRecDepth 20000 in
theorem walkAloneErr (op d n m imm : Int) (R : Regs) (pc er k z : Int) (w : World) (hT : TabsOk w) (p0 : ¬ pc < -2147483648) (p1 : ¬ 2147483648 < pc) (he : ¬ er = 0)
    (hA : ∀ w, TabsOk w → Calls Tryd.prog 17 #[.agg #[.int .i8 op, .int .i8 d, .int .i8 n, .int .i8 m, .int .i64 imm], .agg (regV R), .int .i64 pc] w fun y w' => y = .returned (.tuple #[.agg (regV R), .int .i64 pc, .int .i64 er]) ∧ Kp w w') :
    Calls Tryd.prog 5 #[.agg #[.int .i8 op, .int .i8 d, .int .i8 n, .int .i8 m, .int .i64 imm], .agg (regV R), .int .i64 pc, .int .i64 k, .int .u64 z] w fun e w' => e = .returned (.bool true) ∧ Kp w w' := by
  have HT := Lib.hid hT
  have HA := Lib.hid hA
  have HE := eq_regs R
  clear hT hA
  go_enter Tryd.func5, Tryd.ntmps5
  go_wp2_with (refine wpList_load_row rfl 35 (.tmp 6) rfl (w.heap.size + 1) rfl _ _ _ _ (Blk.new2 w _ _ _) Tryd.underlying35 rfl (by kernel_rfl) ?_)
  refine (HA.out _ (HT.out.kp ((kpA _ _ _).alloc _ _))).mono ?_; rintro e w1 ⟨rfl, hg⟩
  have R1 := Lib.hid ((Blk.new2 w (.cells #[.int .i8 op, .int .i8 d, .int .i8 n, .int .i8 m, .int .i64 imm] 24) (regV R) 35).kp hg)
  have K1 : Hid (Kp w w1) := Lib.hid (((kpA _ _ _).alloc _ _).trans hg)
  clear hg p0 p1
  go_wp2_with (first
    | (refine wpList_store_row rfl 35 (.tmp 11) (.tmp 36) rfl w1.heap.size (regV R) rfl rfl 35 _ (heap_alloc_last _ _) (by kernel_rfl) rfl (regV_one _) ?_; rw [World.setRow_alloc_new])
    | (refine wpList_load_row rfl 35 (.tmp 11) rfl w1.heap.size rfl _ _ _ _ (Blk.new w1 (regV R) _) Tryd.underlying35 rfl (by kernel_rfl) ?_)
    | (refine wpList_load_row rfl 35 (.tmp 6) rfl (w.heap.size + 1) rfl _ _ _ _ (R1.out.alloc _) Tryd.underlying35 rfl (by kernel_rfl) ?_)
    | (go_at_call 16; refine (wakes_any _ (HT.out.kp (K1.out.alloc _ _))).mono ?_; rintro e w3 ⟨rfl, hg⟩; have K3 : Hid (Kp w w3) := Lib.hid ((K1.out.alloc _ _).trans hg); clear hg))
  go_ret
  exact ⟨rfl, K3.out⟩

/-! The whole. -/
theorem walkAlone (op d n m imm : Int) (R : Regs) (pc k : Int) (z : BitVec 64) (w : World) (hT : TabsOk w) (hop : -128 ≤ op ∧ op < 128) :
    Calls Tryd.prog 5 #[.agg #[.int .i8 op, .int .i8 d, .int .i8 n, .int .i8 m, .int .i64 imm], .agg (regV R), .int .i64 pc, .int .i64 k, .int .u64 z.toNat] w fun e w' => e = .returned (.bool true) ∧ Kp w w' := by
  by_cases h0 : pc < -2147483648
  · exact walkAloneOut op d n m imm R pc k _ w hT (.inl h0)
  by_cases h1 : 2147483648 < pc
  · exact walkAloneOut op d n m imm R pc k _ w hT (.inr h1)
  by_cases g : InsA op d n m imm
  · obtain ⟨o, rfl⟩ := Int.eq_ofNat_of_zero_le g.1
    obtain ⟨⟨d0, d8⟩, ⟨n0, n8⟩, ⟨m0, m8⟩⟩ := g.rg
    obtain ⟨d, rfl⟩ := Int.eq_ofNat_of_zero_le d0
    obtain ⟨n, rfl⟩ := Int.eq_ofNat_of_zero_le n0
    obtain ⟨m, rfl⟩ := Int.eq_ofNat_of_zero_le m0
    have ho : o < 19 := by have := g.2.1; omega
    by_cases a : AluO o
    · obtain ⟨kk, hk⟩ := Int.eq_ofNat_of_zero_le (kOf_in k).1
      have hkk : kk < 8 := by have := (kOf_in k).2; omega
      obtain ⟨f1, f2, f3⟩ := apart_any R kk z a g
      have h17 : ¬ (o : Int) = 17 := by unfold AluO at a; omega
      refine walkAloneIn o d n m imm R (doR o d n m imm R) pc (wrap64 (pc + stepI o d imm R)) k z kk (wrT o d m).1 (wrT o d m).2 w hT hop h0 h1 hk hkk
        (fun w hT => do_alu o d n m imm R pc w hT a g) (writes_is g h17) f2 (fun j _ => f1 j) (fun h => ?_)
      obtain ⟨e1, e2, e3⟩ := f3 h
      refine ⟨doR o d n m imm (upd R kk z), fun w hT => ?_, fun j _ => e1 j, e2⟩
      have := do_alu o d n m imm (upd R kk z) pc w hT a g
      rwa [e3] at this
    · have b : o = 8 ∨ o = 9 ∨ o = 10 ∨ o = 11 ∨ o = 12 ∨ o = 13 ∨ o = 17 ∨ o = 18 := by unfold AluO at a; omega
      exact walkAloneErr o d n m imm R pc 21 k _ w hT h0 h1 (by decide) fun w hT => do_not o d n m imm R pc w hT b g
  · exact walkAloneErr op d n m imm R pc 60 k _ w hT h0 h1 (by decide) fun w hT => do_bad op d n m imm R pc w hT hop g
theorem walkAloneA (op d n m imm : Int) (a0 a1 a2 a3 a4 a5 a6 a7 : Int) (pc k z : Int) (w : World) (hT : TabsOk w) (wc : (Lit.int .i8 op).wf = true) (h0 : (Lit.int .u64 a0).wf = true) (h1 : (Lit.int .u64 a1).wf = true) (h2 : (Lit.int .u64 a2).wf = true) (h3 : (Lit.int .u64 a3).wf = true) (h4 : (Lit.int .u64 a4).wf = true) (h5 : (Lit.int .u64 a5).wf = true) (h6 : (Lit.int .u64 a6).wf = true) (h7 : (Lit.int .u64 a7).wf = true) (hz : (Lit.int .u64 z).wf = true) :
    Calls Tryd.prog 5 #[.agg #[.int .i8 op, .int .i8 d, .int .i8 n, .int .i8 m, .int .i64 imm], .agg #[.int .u64 a0, .int .u64 a1, .int .u64 a2, .int .u64 a3, .int .u64 a4, .int .u64 a5, .int .u64 a6, .int .u64 a7], .int .i64 pc, .int .i64 k, .int .u64 z] w fun e w' => e = .returned (.bool true) ∧ Kp w w' := by
  obtain ⟨R, e⟩ := regs_of a0 a1 a2 a3 a4 a5 a6 a7 h0 h1 h2 h3 h4 h5 h6 h7
  obtain ⟨z, rfl⟩ := word_of z hz
  rw [e]
  exact walkAlone op d n m imm R pc k z w hT (i8_of op wc)
end Go.Proofs.YtieffpgiliebmaaDoor
