/-
  Package alu's Check over any op, Memory, and which registers are used: ofCall, used. No condition but the table.
-/
import Derived.Test.YtieffpgiliebmaaDoorAlu06
import Derived.Test.YtieffpgiliebmaaDoorSort06
import Derived.Maps.AppendAt
import Derived.OwnWalk
namespace Go.Proofs.YtieffpgiliebmaaDoor
open Go Go.RowKit

/-! Over any op. -/
def InsA (op d n m imm : Int) : Prop := 0 ≤ op ∧ op < 19 ∧ InsOk op.toNat d n m imm
instance (op d n m imm : Int) : Decidable (InsA op d n m imm) := by unfold InsA; infer_instance
def chkA (op d n m imm : Int) : Int := if InsA op d n m imm then 0 else 60
theorem chkA_yes {op d n m imm : Int} (h : InsA op d n m imm) : chkA op d n m imm = 0 := if_pos h
theorem chkA_no {op d n m imm : Int} (h : ¬ InsA op d n m imm) : chkA op d n m imm = 60 := if_neg h
theorem check_any (op d n m imm : Int) (w : World) (hT : TabsOk w) (hop : -128 ≤ op ∧ op < 128) :
    Calls Tryd.prog 9 #[.agg #[.int .i8 op, .int .i8 d, .int .i8 n, .int .i8 m, .int .i64 imm]] w fun e w' => e = .returned (.int .i64 (chkA op d n m imm)) ∧ Kp w w' := by
  by_cases h : 0 ≤ op ∧ op < 19
  · obtain ⟨o, rfl⟩ := Int.eq_ofNat_of_zero_le h.1
    have e : chkA o d n m imm = chkI o d n m imm := by
      unfold chkA chkI InsA
      have : InsOk (o : Int).toNat d n m imm = InsOk o d n m imm := by rw [Int.toNat_natCast]
      simp only [this, h.1, h.2, true_and]
    rw [e]
    exact check_in o d n m imm w hT (by omega)
  · rw [chkA_no (fun g => h ⟨g.1, g.2.1⟩)]
    exact check_out op d n m imm w (by omega)
theorem check_ok (op d n m imm : Int) (w : World) (hT : TabsOk w) (hop : -128 ≤ op ∧ op < 128) (h : InsA op d n m imm) :
    Calls Tryd.prog 9 #[.agg #[.int .i8 op, .int .i8 d, .int .i8 n, .int .i8 m, .int .i64 imm]] w fun e w' => e = .returned (.int .i64 0) ∧ Kp w w' := chkA_yes h ▸ check_any op d n m imm w hT hop
theorem check_bad (op d n m imm : Int) (w : World) (hT : TabsOk w) (hop : -128 ≤ op ∧ op < 128) (h : ¬ InsA op d n m imm) :
    Calls Tryd.prog 9 #[.agg #[.int .i8 op, .int .i8 d, .int .i8 n, .int .i8 m, .int .i64 imm]] w fun e w' => e = .returned (.int .i64 60) ∧ Kp w w' := chkA_no h ▸ check_any op d n m imm w hT hop

/-! Memory. -/
def memB (op d n m imm : Int) : Bool := decide (InsA op d n m imm ∧ 8 ≤ op ∧ op ≤ 12)
theorem memory_any (op d n m imm : Int) (w : World) (hT : TabsOk w) (hop : -128 ≤ op ∧ op < 128) :
    Calls Tryd.prog 11 #[.agg #[.int .i8 op, .int .i8 d, .int .i8 n, .int .i8 m, .int .i64 imm]] w fun e w' => e = .returned (.bool (memB op d n m imm)) ∧ Kp w w' := by
  by_cases h : 8 ≤ op ∧ op ≤ 12
  · by_cases g : InsA op d n m imm
    · rw [show memB op d n m imm = true from decide_eq_true ⟨g, h⟩]
      have G := Lib.hid g; clear g
      have HT := Lib.hid hT; clear hT
      have HP := Lib.hid hop; clear hop
      obtain rfl | rfl | rfl | rfl | rfl : op = 8 ∨ op = 9 ∨ op = 10 ∨ op = 11 ∨ op = 12 := by omega
      all_goals
        clear h
        go_enter Tryd.func11, Tryd.ntmps11
        go_wp2_with fail
        refine (check_ok _ d n m imm _ (HT.out.kp (by repeat (first | exact Kp.refl _ | apply Kp.alloc))) HP.out G.out).mono ?_; rintro e w1 ⟨rfl, hg⟩
        have H1 := Lib.hid hg; clear hg
        go_wp2
        go_ret
        exact ⟨rfl, by refine Kp.trans ?_ H1.out; repeat (first | exact Kp.refl _ | apply Kp.alloc)⟩
    · rw [show memB op d n m imm = false from decide_eq_false fun k => g k.1]
      have G := Lib.hid g; clear g
      have HT := Lib.hid hT; clear hT
      have HP := Lib.hid hop; clear hop
      obtain rfl | rfl | rfl | rfl | rfl : op = 8 ∨ op = 9 ∨ op = 10 ∨ op = 11 ∨ op = 12 := by omega
      all_goals
        clear h
        go_enter Tryd.func11, Tryd.ntmps11
        go_wp2_with fail
        refine (check_bad _ d n m imm _ (HT.out.kp (by repeat (first | exact Kp.refl _ | apply Kp.alloc))) HP.out G.out).mono ?_; rintro e w1 ⟨rfl, hg⟩
        have H1 := Lib.hid hg; clear hg
        go_wp2
        go_ret
        exact ⟨rfl, by refine Kp.trans ?_ H1.out; repeat (first | exact Kp.refl _ | apply Kp.alloc)⟩
  · rw [show memB op d n m imm = false from decide_eq_false fun k => h k.2]
    have n8 : ¬ op = 8 := by omega
    have n9 : ¬ op = 9 := by omega
    have n10 : ¬ op = 10 := by omega
    have n11 : ¬ op = 11 := by omega
    have n12 : ¬ op = 12 := by omega
    clear h hop
    go_enter Tryd.func11, Tryd.ntmps11
    go_wp2
    go_ret
    exact ⟨rfl, kpA _ _ _⟩

/-! Which registers are used so. -/
def rgOf (d n m : Int) (k : Nat) : Int := match k with | 0 => d | 1 => n | _ => m
def usOf (o : Nat) (k : Nat) : Int := match k with | 0 => uD o | 1 => uN o | _ => uM o
def usedTo (o : Nat) (d n m how : Int) : Nat → List Int
  | 0 => []
  | k + 1 => usedTo o d n m how k ++ if usOf o k = how then [rgOf d n m k] else []
theorem usedTo_le (o : Nat) (d n m how : Int) : ∀ k, (usedTo o d n m how k).length ≤ k
  | 0 => Nat.le_refl _
  | k + 1 => by
    have := usedTo_le o d n m how k
    unfold usedTo
    rw [List.length_append]
    split <;> simp <;> omega
theorem usedTo_yes {o : Nat} {d n m how : Int} {k : Nat} (h : usOf o k = how) : usedTo o d n m how (k + 1) = usedTo o d n m how k ++ [rgOf d n m k] := by
  show usedTo o d n m how k ++ _ = _
  rw [if_pos h]
theorem usedTo_no {o : Nat} {d n m how : Int} {k : Nat} (h : ¬ usOf o k = how) : usedTo o d n m how (k + 1) = usedTo o d n m how k := by
  show usedTo o d n m how k ++ _ = _
  rw [if_neg h, List.append_nil]
def callL (how : Int) : List Int := if how = 1 then [0, 1, 2, 3] else [0]
def usedA (op d n m imm how : Int) : List Int := if InsA op d n m imm then (if op = 17 then callL how else usedTo op.toNat d n m how 3) else []
theorem OwnsI.lit (w : World) (B : Nat) (zs : List Int) (hb : B ≤ w.heap.size) (hz : zs.length ≤ 100) : OwnsI (w.alloc (.cells ⟨zs.map (Value.int .i64)⟩ 3)) B (.slice (some ⟨w.heap.size, 0, none⟩) zs.length zs.length) zs :=
  World.ownsRow_lit w _ _ hb (by unfold maxLen; omega) (by simp)
theorem ofCall_any (how : Int) (w : World) (hh : how = 1 ∨ how = 2) :
    Calls Tryd.prog 27 #[.int .i8 how] w fun e w' => ∃ v, e = .returned v ∧ OwnsI w' w.heap.size v (callL how) ∧ Kp w w' := by
  rcases hh with rfl | rfl
  · go_enter Tryd.func27, Tryd.ntmps27
    go_wp2
    go_ret
    exact ⟨_, rfl, OwnsI.lit w w.heap.size [0, 1, 2, 3] (Nat.le_refl _) (by decide), kpA _ _ _⟩
  · go_enter Tryd.func27, Tryd.ntmps27
    go_wp2
    go_ret
    exact ⟨_, rfl, OwnsI.lit w w.heap.size [0] (Nat.le_refl _) (by decide), kpA _ _ _⟩

theorem maxl {n : Nat} (h : n ≤ 100) : n ≤ maxLen := by unfold maxLen; omega
theorem fits {n : Nat} (h : n ≤ 50) : n + 1 ≤ maxLen ∧ (n + 1) * 8 ≤ 140737488355328 := ⟨maxl (by omega), by omega⟩
theorem int_info : (Tryd.prog.info? 3).map (fun i => (i.zero, i.size, i.bytes)) = some (some (.int .i64 0), 1, 8) := by kernel_rfl
theorem cell_one_new2 (w : World) (o : Obj) (x : Value) (t : TypeId) : ∀ j u, [x][j]? = some u → ((w.alloc o).alloc (.cells #[x] t)).cell? ((⟨w.heap.size + 1, 0, none⟩ : Addr).add j) = some u := by
  intro j u h
  have := cell_one_new (w.alloc o) x t j u h
  simpa using this
theorem one_int (a : Int) : ∀ u ∈ [Value.int .i64 a], u.oneCell' = true := by
  intro u hu
  simp at hu
  subst hu; rfl
/-- A step of the row: one more at its end. -/
theorem own_step {w w1 wz : World} {v v' : Value} {zs : List Int} {a : Int} (hz : Kp w wz) (ho : wz.ownsRow w.heap.size 3 1 v zs.length (zs.map (Value.int .i64))) (h1 : w1.ownsRow w.heap.size 3 1 v' (zs.length + 1) (zs.map (Value.int .i64) ++ [Value.int .i64 a])) (hg : wz.grownBy w1 v.ownBlock) :
    OwnsI w1 w.heap.size v' (zs ++ [a]) ∧ Kp w w1 := by
  refine ⟨?_, Kp.grown hz hg fun k e => (ho.lt k e).1⟩
  unfold OwnsI
  rw [List.length_append, List.map_append]
  exact h1

theorem rg_ok {o : Nat} {d n m imm : Int} {k : Nat} (h : InsA o d n m imm) (hk : k < 3) : 0 ≤ rgOf d n m k ∧ rgOf d n m k < 8 := by
  obtain ⟨-, -, -, h0, h1, h2⟩ := h
  rw [Int.toNat_natCast] at h0 h1 h2
  unfold MayR at h0 h1 h2
  obtain rfl | rfl | rfl : k = 0 ∨ k = 1 ∨ k = 2 := by omega
  · show 0 ≤ d ∧ d < 8
    omega
  · show 0 ≤ n ∧ n < 8
    omega
  · show 0 ≤ m ∧ m < 8
    omega
set_option maxHeartbeats 1000000 in
theorem used_loop (o : Nat) (d n m imm how : Int) (w : World) (hT : TabsOk w) (ho : o < 19) (hn : ¬ o = 17) (hok : InsA o d n m imm) :
    Calls Tryd.prog 19 #[.agg #[.int .i8 o, .int .i8 d, .int .i8 n, .int .i8 m, .int .i64 imm], .int .i8 how] w fun e w' => ∃ v, e = .returned v ∧ OwnsI w' w.heap.size v (usedTo o d n m how 3) ∧ Kp w w' := by
  obtain ⟨i0, hi0, hz0, hz1, hz2⟩ := info_parts int_info
  have HT := Lib.hid hT; clear hT
  have HK := Lib.hid hok; clear hok
  have HO := Lib.hid ho; clear ho
  have hn' : ¬ (o : Int) = 17 := by omega
  clear hn
  go_enter Tryd.func19, Tryd.ntmps19
  go_wp2_with fail
  refine (check_ok o d n m imm _ (HT.out.kp (by repeat (first | exact Kp.refl _ | apply Kp.alloc))) ⟨by omega, by have := HO.out; omega⟩ HK.out).mono ?_; rintro e w1 ⟨rfl, hg⟩
  have H1 := Lib.hid hg; clear hg
  have K1 : Hid (Kp w w1) := Lib.hid (by refine Kp.trans ?_ H1.out; repeat (first | exact Kp.refl _ | apply Kp.alloc))
  have hcell : w1.cell? ⟨w.heap.size, 0, none⟩ = some (.int .i8 o) := ((Blk.new w _ _).kp H1.out).cell 0
  have hc1 : w1.cell? ⟨w.heap.size, 1, none⟩ = some (.int .i8 d) := ((Blk.new w _ _).kp H1.out).cell 1
  have hc2 : w1.cell? ⟨w.heap.size, 2, none⟩ = some (.int .i8 n) := ((Blk.new w _ _).kp H1.out).cell 2
  have hc3 : w1.cell? ⟨w.heap.size, 3, none⟩ = some (.int .i8 m) := ((Blk.new w _ _).kp H1.out).cell 3
  have hc4 : w1.cell? ⟨w.heap.size, 4, none⟩ = some (.int .i64 imm) := ((Blk.new w _ _).kp H1.out).cell 4
  go_wp2_with fail
  refine (parts_any o d n m imm _ (HT.out.kp K1.out) HO.out).mono ?_; rintro e w2 ⟨rfl, hg⟩
  have K2 : Hid (Kp w w2) := Lib.hid (K1.out.trans hg)
  clear hg hcell hc1 hc2 hc3 hc4
  go_wp2_with fail
  go_loopw [5, 20] (fun l x wr => ∃ k : Nat, k ≤ 3 ∧ x = .int .i64 k ∧ OwnsI wr w.heap.size l (usedTo o d n m how k) ∧ Kp w wr) (fun _ x _ => 3 - (intOf x).toNat)
  case atStart => exact ⟨0, by omega, rfl, OwnsI.nil _ _, K2.out⟩
  case round =>
    obtain ⟨k, hk3, rfl, hown, hk⟩ := hrel
    by_cases h3 : k = 3
    · subst h3
      go_wp2_with fail
      go_ret
      exact ⟨_, rfl, hown, hk⟩
    · have hk2 : k < 3 := by omega
      have k0 : (0 : Int) ≤ (k : Int) := by omega
      have k1 : (k : Int) < 3 := by omega
      have HK2 := Lib.hid hk2
      have hidx := part_at (.int .i8 d) (.int .i8 (uD o)) (.int .i8 n) (.int .i8 (uN o)) (.int .i8 m) (.int .i8 (uM o)) k k rfl hk2 (.int .i8 (rgOf d n m k)) (.int .i8 (usOf o k)) (by
        obtain rfl | rfl | rfl : k = 0 ∨ k = 1 ∨ k = 2 := by omega
        all_goals rfl)
      have HM := Lib.hid (fits (n := (usedTo o d n m how k).length) (by have := usedTo_le o d n m how k; omega))
      clear hk3 h3 hk2
      have HZ : Hid (Kp w ((wr.alloc (.cells #[.int .i8 (rgOf d n m k), .int .i8 how] 49)).alloc (.cells #[.int .i64 (rgOf d n m k)] 3))) := Lib.hid ((hk.alloc _ _).alloc _ _)
      have HKP := Lib.hid hk; clear hk
      have HOW := Lib.hid hown; clear hown
      by_cases hu : usOf o k = how
      · have HU := Lib.hid (usedTo_yes (d := d) (n := n) (m := m) hu)
        obtain ⟨r0, r8⟩ := rg_ok HK.out HK2.out
        rw [hu] at hidx
        clear hu
        go_wp2_with (at_builtin; refine wpList_append_own_at _ rfl (.tmp 27) (.tmp 31) _ rfl w.heap.size 3 i0 _ 1 8 Tryd.underlying31 hi0 hz0 hz1 hz2 rfl (by decide) _ _ _ rfl ((World.ownsRow.alloc HOW.out _).alloc _) ⟨wr.heap.size + 1, 0, none⟩ 1 1 [.int .i64 (rgOf d n m k)] rfl rfl (cell_one_new2 wr _ _ _) (one_int _) HM.out.1 HM.out.2 HZ.out.size ?_; intro v' w3 hown1 hg1 hn1 hat1; have HA := Lib.hid (own_step HZ.out ((World.ownsRow.alloc HOW.out _).alloc _) hown1 hg1); clear hown1 hg1 hn1 hat1)
        go_roundw
        case rel => exact ⟨k + 1, by have := HK2.out; omega, by go_num, HU.out ▸ HA.out.1, HA.out.2⟩
        case measure => have := HK2.out; simp [intOf]; omega
      · have HU := Lib.hid (usedTo_no (d := d) (n := n) (m := m) hu)
        go_wp2_with fail
        go_roundw
        case rel => exact ⟨k + 1, by have := HK2.out; omega, by go_num, HU.out ▸ World.ownsRow.alloc HOW.out _, HKP.out.alloc _ _⟩
        case measure => have := HK2.out; simp [intOf]; omega

theorem OwnsI.mono {w : World} {B B' : Nat} {v : Value} {zs : List Int} (h : OwnsI w B v zs) (hb : B' ≤ B) : OwnsI w B' v zs := by
  rcases h.parts with ⟨rfl, rfl⟩ | ⟨g, cap, cur, rfl, h1, h2, h3, h4, h5, h6⟩
  · exact OwnsI.nil _ _
  · exact OwnsI.mk (Nat.le_trans hb h1) h2 h3 h4 h5 h6
theorem OwnsI.kp {w w' : World} {B : Nat} {v : Value} {zs : List Int} (h : OwnsI w B v zs) (hk : Kp w w') : OwnsI w' B v zs := by
  rcases h.parts with ⟨rfl, rfl⟩ | ⟨g, cap, cur, rfl, h1, h2, h3, h4, h5, h6⟩
  · exact OwnsI.nil _ _
  · exact OwnsI.mk h1 ((Below.block hk g (Array.getElem?_eq_some_iff.1 h2).1).trans h2) h3 h4 h5 h6
theorem usedA_le (op d n m imm how : Int) : (usedA op d n m imm how).length ≤ 4 := by
  unfold usedA callL
  have := usedTo_le op.toNat d n m how 3
  split
  · split
    · split <;> decide
    · omega
  · decide
theorem used_any (op d n m imm how : Int) (w : World) (hT : TabsOk w) (hop : -128 ≤ op ∧ op < 128) (hh : how = 1 ∨ how = 2) :
    Calls Tryd.prog 19 #[.agg #[.int .i8 op, .int .i8 d, .int .i8 n, .int .i8 m, .int .i64 imm], .int .i8 how] w fun e w' => ∃ v, e = .returned v ∧ OwnsI w' w.heap.size v (usedA op d n m imm how) ∧ Kp w w' := by
  by_cases g : InsA op d n m imm
  · by_cases h17 : op = 17
    · rw [show usedA op d n m imm how = callL how by unfold usedA; rw [if_pos g, if_pos h17]]
      subst h17
      have G := Lib.hid g; clear g
      have HT := Lib.hid hT; clear hT
      have HH := Lib.hid hh; clear hh hop
      go_enter Tryd.func19, Tryd.ntmps19
      go_wp2_with fail
      refine (check_ok _ d n m imm _ (HT.out.kp (by repeat (first | exact Kp.refl _ | apply Kp.alloc))) ⟨by decide, by decide⟩ G.out).mono ?_; rintro e w1 ⟨rfl, hg⟩
      have hcell : w1.cell? ⟨w.heap.size, 0, none⟩ = some (.int .i8 17) := ((Blk.new w _ _).kp hg).cell 0
      have K1 : Hid (Kp w w1) := Lib.hid (by refine Kp.trans ?_ hg; repeat (first | exact Kp.refl _ | apply Kp.alloc))
      clear hg
      go_wp2_with fail
      refine (ofCall_any how _ HH.out).mono ?_; rintro e w2 ⟨v, rfl, ho, hg⟩
      have K2 := Lib.hid (K1.out.trans hg)
      have HO := Lib.hid (ho.mono K1.out.size); clear ho hg
      go_wp2
      go_ret
      exact ⟨_, rfl, HO.out, K2.out⟩
    · obtain ⟨o, rfl⟩ := Int.eq_ofNat_of_zero_le g.1
      rw [show usedA o d n m imm how = usedTo o d n m how 3 by unfold usedA; rw [if_pos g, if_neg h17, Int.toNat_natCast]]
      exact used_loop o d n m imm how w hT (by have := g.2.1; omega) (by omega) g
  · rw [show usedA op d n m imm how = [] from if_neg g]
    have G := Lib.hid g; clear g
    have HT := Lib.hid hT; clear hT
    have HP := Lib.hid hop; clear hop hh
    go_enter Tryd.func19, Tryd.ntmps19
    go_wp2_with fail
    refine (check_bad _ d n m imm _ (HT.out.kp (by repeat (first | exact Kp.refl _ | apply Kp.alloc))) HP.out G.out).mono ?_; rintro e w1 ⟨rfl, hg⟩
    have H1 := Lib.hid hg; clear hg
    go_wp2
    go_ret
    exact ⟨_, rfl, OwnsI.nil _ _, by refine Kp.trans ?_ H1.out; repeat (first | exact Kp.refl _ | apply Kp.alloc)⟩

/-! Reads and Writes. -/
def readsA (op d n m imm : Int) : List Int := Lib.compact (sortL (usedA op d n m imm 1))
theorem reads_any (op d n m imm : Int) (w : World) (hT : TabsOk w) (hop : -128 ≤ op ∧ op < 128) :
    Calls Tryd.prog 14 #[.agg #[.int .i8 op, .int .i8 d, .int .i8 n, .int .i8 m, .int .i64 imm]] w fun e w' => ∃ v, e = .returned v ∧ OwnsI w' w.heap.size v (readsA op d n m imm) ∧ Kp w w' := by
  have HT := Lib.hid hT; clear hT
  have HP := Lib.hid hop; clear hop
  have HL := Lib.hid (usedA_le op d n m imm 1)
  go_enter Tryd.func14, Tryd.ntmps14
  go_wp2_with fail
  refine (used_any op d n m imm 1 _ (HT.out.kp (by repeat (first | exact Kp.refl _ | apply Kp.alloc))) HP.out (.inl rfl)).mono ?_; rintro e w1 ⟨v, rfl, ho, hg⟩
  have K1 := Lib.hid ((kpA w _ _).trans hg)
  have O1 := Lib.hid (ho.mono (kpA w _ _).size); clear ho hg
  go_wp2_with fail
  refine (sort_own w w1 v _ K1.out O1.out (by have := HL.out; omega)).mono ?_; rintro e w2 ⟨rfl, ho, hg⟩
  have K2 := Lib.hid hg
  have O2 := Lib.hid ho; clear ho hg
  go_wp2_with fail
  refine (compact_own w w2 v _ K2.out O2.out (by have := HL.out; simp; omega)).mono ?_; rintro e w3 ⟨u, rfl, ho, hg⟩
  have K3 := Lib.hid hg
  have O3 := Lib.hid ho; clear ho hg
  go_wp2
  go_ret
  exact ⟨_, rfl, O3.out, K3.out⟩
def firstOf : List Int → Int × Bool
  | [] => (0, false)
  | k :: _ => (k, true)
def writesA (op d n m imm : Int) : Int × Bool := firstOf (usedA op d n m imm 2)
theorem writes_any (op d n m imm : Int) (w : World) (hT : TabsOk w) (hop : -128 ≤ op ∧ op < 128) :
    Calls Tryd.prog 7 #[.agg #[.int .i8 op, .int .i8 d, .int .i8 n, .int .i8 m, .int .i64 imm]] w fun e w' => e = .returned (.tuple #[.int .i64 (writesA op d n m imm).1, .bool (writesA op d n m imm).2]) ∧ Kp w w' := by
  have HT := Lib.hid hT; clear hT
  have HP := Lib.hid hop; clear hop
  rcases hz : usedA op d n m imm 2 with _ | ⟨k, l⟩
  · rw [show writesA op d n m imm = (0, false) by unfold writesA; rw [hz]; rfl]
    go_enter Tryd.func7, Tryd.ntmps7
    go_wp2_with fail
    refine (used_any op d n m imm 2 _ (HT.out.kp (by repeat (first | exact Kp.refl _ | apply Kp.alloc))) HP.out (.inr rfl)).mono ?_; rintro e w1 ⟨v, rfl, ho, hg⟩
    have K1 := Lib.hid ((kpA w _ _).trans hg)
    clear hg
    rw [hz] at ho
    have hv : v = .slice none 0 0 ∨ ∃ g cap, v = .slice (some ⟨g, 0, none⟩) 0 cap := by
      rcases ho.parts with ⟨rfl, _⟩ | ⟨g, cap, cur, rfl, _⟩
      · exact .inl rfl
      · exact .inr ⟨g, cap, rfl⟩
    clear ho hz
    rcases hv with rfl | ⟨g, cap, rfl⟩
    all_goals
      go_wp2
      refine bodyPost_ret (results_tmp2 rfl _ _ _) rfl ?_
      exact ⟨rfl, K1.out⟩
  · rw [show writesA op d n m imm = (k, true) by unfold writesA; rw [hz]; rfl]
    go_enter Tryd.func7, Tryd.ntmps7
    go_wp2_with fail
    refine (used_any op d n m imm 2 _ (HT.out.kp (by repeat (first | exact Kp.refl _ | apply Kp.alloc))) HP.out (.inr rfl)).mono ?_; rintro e w1 ⟨v, rfl, ho, hg⟩
    have K1 := Lib.hid ((kpA w _ _).trans hg)
    clear hg
    rw [hz] at ho
    obtain ⟨g, cap, N, rfl, hc, hN⟩ : ∃ g cap N, v = .slice (some ⟨g, 0, none⟩) (N + 1) cap ∧ w1.cell? ⟨g, 0, none⟩ = some (.int .i64 k) ∧ N ≤ 4 := by
      rcases ho.parts with ⟨_, h⟩ | ⟨g, cap, cur, rfl, _, hg, _, _, _, ht⟩
      · cases h
      · refine ⟨g, cap, l.length, rfl, ?_, by have := usedA_le op d n m imm 2; rw [hz] at this; simp at this; omega⟩
        have e := (holds_own hg ht 0 (by simp)).1
        simpa using e
    clear ho hz
    go_wp2
    refine bodyPost_ret (results_tmp2 rfl _ _ _) rfl ?_
    exact ⟨rfl, K1.out⟩
end Go.Proofs.YtieffpgiliebmaaDoor
