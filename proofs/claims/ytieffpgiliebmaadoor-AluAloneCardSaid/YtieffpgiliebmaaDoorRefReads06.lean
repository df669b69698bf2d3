/-
  The document's Writes and Reads of an instruction; two rows of numbers held against each other. No condition.
-/
import Derived.Test.YtieffpgiliebmaaDoorRefAlu06
namespace Go.Proofs.YtieffpgiliebmaaDoor
open Go Go.RowKit

theorem InsA.rg {op d n m imm : Int} (h : InsA op d n m imm) : (0 ≤ d ∧ d < 8) ∧ (0 ≤ n ∧ n < 8) ∧ (0 ≤ m ∧ m < 8) := by
  obtain ⟨-, -, -, h0, h1, h2⟩ := h
  unfold MayR at h0 h1 h2
  omega
theorem writes_bad {op d n m imm : Int} (g : ¬ InsA op d n m imm) : writesA op d n m imm = (0, false) := by
  unfold writesA usedA
  rw [if_neg g]; rfl
theorem writes_call {d n m imm : Int} (g : InsA 17 d n m imm) : writesA 17 d n m imm = (0, true) := by
  unfold writesA usedA
  rw [if_pos g, if_pos rfl]
  rfl
def wrT (o : Nat) (d m : Int) : Int × Bool := [((0 : Int), false), (d, true), (d, true), (d, true), (d, true), (d, true), (d, true), (d, true), (d, true), (0, false), (d, true), (m, true)].getD o (0, false)
theorem writes_is {o : Nat} {d n m imm : Int} (g : InsA o d n m imm) (h17 : ¬ (o : Int) = 17) : writesA o d n m imm = wrT o d m := by
  unfold writesA usedA
  rw [if_pos g, if_neg h17, Int.toNat_natCast]
  have ho : o < 19 := by have := g.2.1; omega
  clear g
  obtain rfl | rfl | rfl | rfl | rfl | rfl | rfl | rfl | rfl | rfl | rfl | rfl | rfl | rfl | rfl | rfl | rfl | rfl | rfl : o = 0 ∨ o = 1 ∨ o = 2 ∨ o = 3 ∨ o = 4 ∨ o = 5 ∨ o = 6 ∨ o = 7 ∨ o = 8 ∨ o = 9 ∨ o = 10 ∨ o = 11 ∨ o = 12 ∨ o = 13 ∨ o = 14 ∨ o = 15 ∨ o = 16 ∨ o = 17 ∨ o = 18 := by omega
  all_goals first | rfl | (exfalso; exact h17 rfl)
theorem rwrites_any (op d n m imm : Int) (w : World) :
    Calls Tryd.prog 8 #[.agg #[.int .i8 op, .int .i8 d, .int .i8 n, .int .i8 m, .int .i64 imm]] w fun e w' => e = .returned (.tuple #[.int .i64 (writesA op d n m imm).1, .bool (writesA op d n m imm).2]) ∧ Kp w w' := by
  by_cases g : InsA op d n m imm
  · obtain ⟨o, rfl⟩ := Int.eq_ofNat_of_zero_le g.1
    have ho : o < 19 := by have := g.2.1; omega
    obtain ⟨⟨d0, d8⟩, ⟨n0, n8⟩, ⟨m0, m8⟩⟩ := g.rg
    have G := Lib.hid g; clear g
    obtain rfl | rfl | rfl | rfl | rfl | rfl | rfl | rfl | rfl | rfl | rfl | rfl | rfl | rfl | rfl | rfl | rfl | rfl | rfl : o = 0 ∨ o = 1 ∨ o = 2 ∨ o = 3 ∨ o = 4 ∨ o = 5 ∨ o = 6 ∨ o = 7 ∨ o = 8 ∨ o = 9 ∨ o = 10 ∨ o = 11 ∨ o = 12 ∨ o = 13 ∨ o = 14 ∨ o = 15 ∨ o = 16 ∨ o = 17 ∨ o = 18 := by omega
    all_goals
      clear ho
      first | rw [writes_is G.out (by decide)] | rw [show writesA ((17 : Nat) : Int) d n m imm = (0, true) from writes_call G.out]
      go_enter Tryd.func8, Tryd.ntmps8
      go_wp2_with fail
      refine (rcheck_ok _ d n m imm _ G.out).mono ?_; rintro e w1 ⟨rfl, hg⟩
      have H1 := Lib.hid hg; clear hg
      have B := (Blk.new w #[.int .i8 _, .int .i8 d, .int .i8 n, .int .i8 m, .int .i64 imm] 24).kp H1.out
      have c0 := B.cell 0
      have c1 := B.cell 1
      have c3 := B.cell 3
      clear B
      go_wp2
      go_ret2
      exact ⟨rfl, (by (repeat (first | apply Kp.drew | apply Kp.alloc)); refine Kp.trans ?_ H1.out; (repeat (first | apply Kp.drew | apply Kp.alloc)); exact Kp.refl _)⟩
  · rw [writes_bad g]
    have G := Lib.hid g; clear g
    go_enter Tryd.func8, Tryd.ntmps8
    go_wp2_with fail
    refine (rcheck_bad op d n m imm _ G.out).mono ?_; rintro e w2 ⟨rfl, hg⟩
    have H2 := Lib.hid hg; clear hg
    go_wp2
    go_ret2
    exact ⟨rfl, (by (repeat (first | apply Kp.drew | apply Kp.alloc)); refine Kp.trans ?_ H2.out; (repeat (first | apply Kp.drew | apply Kp.alloc)); exact Kp.refl _)⟩

/-! Which registers are marked, and the row that is read off the marks. -/
def bsL (ks : List Nat) : List Bool := ks.foldl (fun l k => l.set k true) (List.replicate 8 false)
def refTo (bs : List Bool) : Nat → List Int
  | 0 => []
  | k + 1 => refTo bs k ++ if bs.getD k false then [(k : Int)] else []
theorem refTo_le (bs : List Bool) : ∀ k, (refTo bs k).length ≤ k
  | 0 => Nat.le_refl _
  | k + 1 => by
    have := refTo_le bs k
    unfold refTo
    rw [List.length_append]
    split <;> simp <;> omega
theorem refTo_yes {bs : List Bool} {k : Nat} (h : bs.getD k false = true) : refTo bs (k + 1) = refTo bs k ++ [(k : Int)] := by
  show refTo bs k ++ _ = _
  rw [if_pos h]
theorem refTo_no {bs : List Bool} {k : Nat} (h : bs.getD k false = false) : refTo bs (k + 1) = refTo bs k := by
  show refTo bs k ++ _ = _
  rw [h]; simp
theorem sort_two (a b : Int) : sortL [a, b] = if a ≤ b then [a, b] else [b, a] := by
  simp [sortL, List.mergeSort, List.MergeSort.Internal.splitInTwo, List.merge]
theorem sort_one (a : Int) : sortL [a] = [a] := by simp [sortL]
theorem sort_four : sortL [0, 1, 2, 3] = [0, 1, 2, 3] := by
  simp [sortL, List.mergeSort, List.MergeSort.Internal.splitInTwo]
theorem two_fin : ∀ a b : Fin 8, Lib.compact (if (a.val : Int) ≤ (b.val : Int) then [(a.val : Int), (b.val : Int)] else [(b.val : Int), (a.val : Int)]) = refTo (bsL [a.val, b.val]) 8 ∧ Lib.compact (if (a.val : Int) ≤ (b.val : Int) then [(a.val : Int), (b.val : Int)] else [(b.val : Int), (a.val : Int)]) = refTo (bsL [b.val, a.val]) 8 := by decide +kernel
theorem one_fin : ∀ a : Fin 8, Lib.compact [(a.val : Int)] = refTo (bsL [a.val]) 8 := by decide +kernel
theorem two_ok (a b : Nat) (ha : a < 8) (hb : b < 8) : Lib.compact (sortL [(a : Int), (b : Int)]) = refTo (bsL [a, b]) 8 := by
  rw [sort_two]
  exact (two_fin ⟨a, ha⟩ ⟨b, hb⟩).1
theorem two_turned (a b : Nat) (ha : a < 8) (hb : b < 8) : Lib.compact (sortL [(a : Int), (b : Int)]) = refTo (bsL [b, a]) 8 := by
  rw [sort_two]
  exact (two_fin ⟨a, ha⟩ ⟨b, hb⟩).2
theorem one_ok (a : Nat) (ha : a < 8) : Lib.compact (sortL [(a : Int)]) = refTo (bsL [a]) 8 := by
  rw [sort_one]
  exact one_fin ⟨a, ha⟩
theorem four_ok : Lib.compact (sortL [0, 1, 2, 3]) = refTo (bsL [0, 1, 2, 3]) 8 := by
  rw [sort_four]
  decide +kernel
theorem none_ok : Lib.compact (sortL []) = refTo (bsL []) 8 := by
  rw [show sortL [] = [] by simp [sortL]]
  decide +kernel
theorem reads_is {o : Nat} {d n m imm : Int} (g : InsA o d n m imm) (h17 : ¬ (o : Int) = 17) : readsA o d n m imm = Lib.compact (sortL (usedTo o d n m 1 3)) := by
  unfold readsA usedA
  rw [if_pos g, if_neg h17, Int.toNat_natCast]
theorem reads_call {d n m imm : Int} (g : InsA 17 d n m imm) : readsA 17 d n m imm = Lib.compact (sortL [0, 1, 2, 3]) := by
  unfold readsA usedA
  rw [if_pos g, if_pos rfl]
  rfl
theorem reads_bad {op d n m imm : Int} (g : ¬ InsA op d n m imm) : readsA op d n m imm = [] := by
  unfold readsA usedA
  rw [if_neg g, none_ok]
  decide +kernel
abbrev boolsV (bs : List Bool) : Array Value := (bs.map Value.bool).toArray
theorem bools_len (ks : List Nat) : ∀ l : List Bool, (ks.foldl (fun l k => l.set k true) l).length = l.length := by
  induction ks with
  | nil => intro l; rfl
  | cons k ks ih => intro l; rw [List.foldl_cons, ih, List.length_set]
theorem bsL_len (ks : List Nat) : (bsL ks).length = 8 := bools_len ks _
theorem boolsV_at (bs : List Bool) (k : Nat) (hk : k < bs.length) : (boolsV bs)[k]? = some (.bool (bs.getD k false)) := by
  simp [boolsV, hk]
theorem one_bool (a : Int) : ∀ u ∈ [Value.int .i64 a], u.oneCell' = true := one_int a
theorem fits8 {n : Nat} (h : n ≤ 50) : n + 1 ≤ maxLen ∧ (n + 1) * 8 ≤ 140737488355328 := fits h
theorem z8_at (n : Nat) (h : n < 8) : ([.bool false, .bool false, .bool false, .bool false, .bool false, .bool false, .bool false, .bool false] : List Value)[n]? = some (.bool false) := by
  obtain rfl | rfl | rfl | rfl | rfl | rfl | rfl | rfl : n = 0 ∨ n = 1 ∨ n = 2 ∨ n = 3 ∨ n = 4 ∨ n = 5 ∨ n = 6 ∨ n = 7 := by omega
  all_goals rfl
theorem z8_set (n m : Nat) (h : m < 8) : ∃ v, (([.bool false, .bool false, .bool false, .bool false, .bool false, .bool false, .bool false, .bool false] : List Value).set n (.bool true))[m]? = some v := by
  have hl : m < (([.bool false, .bool false, .bool false, .bool false, .bool false, .bool false, .bool false, .bool false] : List Value).set n (.bool true)).length := by rw [List.length_set]; exact h
  exact ⟨_, List.getElem?_eq_getElem hl⟩

set_option maxHeartbeats 1000000 in
theorem rreads_nm (o : Nat) (d n m : Nat) (imm : Int) (w : World) (ho : o = 2 ∨ o = 3 ∨ o = 4 ∨ o = 5 ∨ o = 6) (g : InsA o d n m imm) :
    Calls Tryd.prog 15 #[.agg #[.int .i8 o, .int .i8 d, .int .i8 n, .int .i8 m, .int .i64 imm]] w fun e w' => ∃ v, e = .returned v ∧ OwnsI w' w.heap.size v (refTo (bsL [n, m]) 8) ∧ Kp w w' := by
  obtain ⟨i0, hi0, hz0, hz1, hz2⟩ := info_parts int_info
  obtain ⟨⟨d0, d8⟩, ⟨n0, n8⟩, ⟨m0, m8⟩⟩ := g.rg
  have HB8 := Lib.hid (bsL_len [n, m])
  have G := Lib.hid g; clear g
  obtain rfl | rfl | rfl | rfl | rfl := ho
  all_goals
    go_enter Tryd.func15, Tryd.ntmps15
    go_wp2_with fail
    refine (rcheck_ok _ d n m imm _ G.out).mono ?_; rintro e w1 ⟨rfl, hg⟩
    have B := (Blk.new w #[.int .i8 _, .int .i8 d, .int .i8 n, .int .i8 m, .int .i64 imm] 24).kp hg
    have hlt := B.lt
    have c0 := B.cell 0
    have c1 := B.cell 1
    have c2 := B.cell 2
    have c3 := B.cell 3
    have K1 : Hid (Kp w w1) := Lib.hid ((kpA w _ _).trans hg)
    clear B hg
    have zN : ([.bool false, .bool false, .bool false, .bool false, .bool false, .bool false, .bool false, .bool false] : List Value)[n]? = some (.bool false) := z8_at _ (by omega)
    obtain ⟨vM, zM⟩ : ∃ v, (([.bool false, .bool false, .bool false, .bool false, .bool false, .bool false, .bool false, .bool false] : List Value).set n (.bool true))[m]? = some v := z8_set _ _ (by omega)
    go_wp2_with fail
    rw [show w1.alloc (.cells (([.bool false, .bool false, .bool false, .bool false, .bool false, .bool false, .bool false, .bool false].set n (.bool true)).set m (.bool true)).toArray 57) = w1.alloc (.cells (boolsV (bsL [n, m])) 57) from by simp [boolsV, bsL]]
    have KS : Hid (Kp w (w1.alloc (.cells (boolsV (bsL [n, m])) 57))) := Lib.hid (K1.out.alloc _ _)
    have BS : Hid (Blk (w1.alloc (.cells (boolsV (bsL [n, m])) 57)) w1.heap.size (boolsV (bsL [n, m])) 57) := Lib.hid (Blk.new _ _ _)
    clear c0 c1 c2 c3 hlt zN zM
    generalize w1.alloc (.cells (boolsV (bsL [n, m])) 57) = wS at KS BS ⊢
    go_loopw [5, 6] (fun l x wr => ∃ k : Nat, k ≤ 8 ∧ x = .int .i64 k ∧ OwnsI wr wS.heap.size l (refTo (bsL [n, m]) k) ∧ Kp wS wr) (fun _ x _ => 8 - (intOf x).toNat)
    case atStart => exact ⟨0, by omega, rfl, OwnsI.nil _ _, Kp.refl _⟩
    case round =>
      obtain ⟨k, hk8, rfl, hown, hk⟩ := hrel
      by_cases h8 : k = 8
      · subst h8
        go_wp2_with fail
        go_ret
        exact ⟨_, rfl, hown.mono KS.out.size, KS.out.trans hk⟩
      · have hk7 : k < 8 := by omega
        have k0 : (0 : Int) ≤ (k : Int) := by omega
        have k1 : (k : Int) < 8 := by omega
        have HK7 := Lib.hid hk7
        have hcell := ((BS.out.kp hk).cell k).trans (boolsV_at _ k (by rw [HB8.out]; exact hk7))
        have HM := Lib.hid (fits (n := (refTo (bsL [n, m]) k).length) (by have := refTo_le (bsL [n, m]) k; omega))
        clear hk8 h8 hk7
        have HZ : Hid (Kp wS (wr.alloc (.cells #[.int .i64 k] 3))) := Lib.hid (hk.alloc _ _)
        have HKP := Lib.hid hk; clear hk
        have HOW := Lib.hid hown; clear hown
        rcases hb : (bsL [n, m]).getD k false with _ | _
        · rw [hb] at hcell
          have HU := Lib.hid (refTo_no hb)
          clear hb
          go_wp2_with fail
          go_roundw
          case rel => exact ⟨k + 1, by have := HK7.out; omega, by go_num, HU.out ▸ HOW.out, HKP.out⟩
          case measure => have := HK7.out; simp [intOf]; omega
        · rw [hb] at hcell
          have HU := Lib.hid (refTo_yes hb)
          clear hb
          go_wp2_with (at_builtin; refine wpList_append_own_at _ rfl (.tmp 62) (.tmp 64) _ rfl wS.heap.size 3 i0 _ 1 8 Tryd.underlying31 hi0 hz0 hz1 hz2 rfl (by decide) _ _ _ rfl (World.ownsRow.alloc HOW.out _) ⟨wr.heap.size, 0, none⟩ 1 1 [.int .i64 (k : Int)] rfl rfl (cell_one_new wr _ _) (one_int _) HM.out.1 HM.out.2 HZ.out.size ?_; intro v' w3 hown1 hg1 hn1 hat1; have HA := Lib.hid (own_step HZ.out (World.ownsRow.alloc HOW.out _) hown1 hg1); clear hown1 hg1 hn1 hat1)
          go_roundw
          case rel => exact ⟨k + 1, by have := HK7.out; omega, by go_num, HU.out ▸ HA.out.1, HA.out.2⟩
          case measure => have := HK7.out; simp [intOf]; omega
set_option maxHeartbeats 1000000 in
theorem rreads_n (o : Nat) (d n m : Nat) (imm : Int) (w : World) (ho : o = 7 ∨ o = 8 ∨ o = 10) (g : InsA o d n m imm) :
    Calls Tryd.prog 15 #[.agg #[.int .i8 o, .int .i8 d, .int .i8 n, .int .i8 m, .int .i64 imm]] w fun e w' => ∃ v, e = .returned v ∧ OwnsI w' w.heap.size v (refTo (bsL [n]) 8) ∧ Kp w w' := by
  obtain ⟨i0, hi0, hz0, hz1, hz2⟩ := info_parts int_info
  obtain ⟨⟨d0, d8⟩, ⟨n0, n8⟩, ⟨m0, m8⟩⟩ := g.rg
  have HB8 := Lib.hid (bsL_len [n])
  have G := Lib.hid g; clear g
  obtain rfl | rfl | rfl := ho
  all_goals
    go_enter Tryd.func15, Tryd.ntmps15
    go_wp2_with fail
    refine (rcheck_ok _ d n m imm _ G.out).mono ?_; rintro e w1 ⟨rfl, hg⟩
    have B := (Blk.new w #[.int .i8 _, .int .i8 d, .int .i8 n, .int .i8 m, .int .i64 imm] 24).kp hg
    have hlt := B.lt
    have c0 := B.cell 0
    have c1 := B.cell 1
    have c2 := B.cell 2
    have c3 := B.cell 3
    have K1 : Hid (Kp w w1) := Lib.hid ((kpA w _ _).trans hg)
    clear B hg
    have zN : ([.bool false, .bool false, .bool false, .bool false, .bool false, .bool false, .bool false, .bool false] : List Value)[n]? = some (.bool false) := z8_at _ (by omega)
    go_wp2_with fail
    rw [show w1.alloc (.cells ([.bool false, .bool false, .bool false, .bool false, .bool false, .bool false, .bool false, .bool false].set n (.bool true)).toArray 57) = w1.alloc (.cells (boolsV (bsL [n])) 57) from by simp [boolsV, bsL]]
    have KS : Hid (Kp w (w1.alloc (.cells (boolsV (bsL [n])) 57))) := Lib.hid (K1.out.alloc _ _)
    have BS : Hid (Blk (w1.alloc (.cells (boolsV (bsL [n])) 57)) w1.heap.size (boolsV (bsL [n])) 57) := Lib.hid (Blk.new _ _ _)
    clear c0 c1 c2 c3 hlt zN
    generalize w1.alloc (.cells (boolsV (bsL [n])) 57) = wS at KS BS ⊢
    go_loopw [5, 6] (fun l x wr => ∃ k : Nat, k ≤ 8 ∧ x = .int .i64 k ∧ OwnsI wr wS.heap.size l (refTo (bsL [n]) k) ∧ Kp wS wr) (fun _ x _ => 8 - (intOf x).toNat)
    case atStart => exact ⟨0, by omega, rfl, OwnsI.nil _ _, Kp.refl _⟩
    case round =>
      obtain ⟨k, hk8, rfl, hown, hk⟩ := hrel
      by_cases h8 : k = 8
      · subst h8
        go_wp2_with fail
        go_ret
        exact ⟨_, rfl, hown.mono KS.out.size, KS.out.trans hk⟩
      · have hk7 : k < 8 := by omega
        have k0 : (0 : Int) ≤ (k : Int) := by omega
        have k1 : (k : Int) < 8 := by omega
        have HK7 := Lib.hid hk7
        have hcell := ((BS.out.kp hk).cell k).trans (boolsV_at _ k (by rw [HB8.out]; exact hk7))
        have HM := Lib.hid (fits (n := (refTo (bsL [n]) k).length) (by have := refTo_le (bsL [n]) k; omega))
        clear hk8 h8 hk7
        have HZ : Hid (Kp wS (wr.alloc (.cells #[.int .i64 k] 3))) := Lib.hid (hk.alloc _ _)
        have HKP := Lib.hid hk; clear hk
        have HOW := Lib.hid hown; clear hown
        rcases hb : (bsL [n]).getD k false with _ | _
        · rw [hb] at hcell
          have HU := Lib.hid (refTo_no hb)
          clear hb
          go_wp2_with fail
          go_roundw
          case rel => exact ⟨k + 1, by have := HK7.out; omega, by go_num, HU.out ▸ HOW.out, HKP.out⟩
          case measure => have := HK7.out; simp [intOf]; omega
        · rw [hb] at hcell
          have HU := Lib.hid (refTo_yes hb)
          clear hb
          go_wp2_with (at_builtin; refine wpList_append_own_at _ rfl (.tmp 62) (.tmp 64) _ rfl wS.heap.size 3 i0 _ 1 8 Tryd.underlying31 hi0 hz0 hz1 hz2 rfl (by decide) _ _ _ rfl (World.ownsRow.alloc HOW.out _) ⟨wr.heap.size, 0, none⟩ 1 1 [.int .i64 (k : Int)] rfl rfl (cell_one_new wr _ _) (one_int _) HM.out.1 HM.out.2 HZ.out.size ?_; intro v' w3 hown1 hg1 hn1 hat1; have HA := Lib.hid (own_step HZ.out (World.ownsRow.alloc HOW.out _) hown1 hg1); clear hown1 hg1 hn1 hat1)
          go_roundw
          case rel => exact ⟨k + 1, by have := HK7.out; omega, by go_num, HU.out ▸ HA.out.1, HA.out.2⟩
          case measure => have := HK7.out; simp [intOf]; omega
set_option maxHeartbeats 1000000 in
theorem rreads_nd (o : Nat) (d n m : Nat) (imm : Int) (w : World) (ho : o = 9 ∨ o = 11 ∨ o = 12) (g : InsA o d n m imm) :
    Calls Tryd.prog 15 #[.agg #[.int .i8 o, .int .i8 d, .int .i8 n, .int .i8 m, .int .i64 imm]] w fun e w' => ∃ v, e = .returned v ∧ OwnsI w' w.heap.size v (refTo (bsL [n, d]) 8) ∧ Kp w w' := by
  obtain ⟨i0, hi0, hz0, hz1, hz2⟩ := info_parts int_info
  obtain ⟨⟨d0, d8⟩, ⟨n0, n8⟩, ⟨m0, m8⟩⟩ := g.rg
  have HB8 := Lib.hid (bsL_len [n, d])
  have G := Lib.hid g; clear g
  obtain rfl | rfl | rfl := ho
  all_goals
    go_enter Tryd.func15, Tryd.ntmps15
    go_wp2_with fail
    refine (rcheck_ok _ d n m imm _ G.out).mono ?_; rintro e w1 ⟨rfl, hg⟩
    have B := (Blk.new w #[.int .i8 _, .int .i8 d, .int .i8 n, .int .i8 m, .int .i64 imm] 24).kp hg
    have hlt := B.lt
    have c0 := B.cell 0
    have c1 := B.cell 1
    have c2 := B.cell 2
    have c3 := B.cell 3
    have K1 : Hid (Kp w w1) := Lib.hid ((kpA w _ _).trans hg)
    clear B hg
    have zN : ([.bool false, .bool false, .bool false, .bool false, .bool false, .bool false, .bool false, .bool false] : List Value)[n]? = some (.bool false) := z8_at _ (by omega)
    obtain ⟨vM, zM⟩ : ∃ v, (([.bool false, .bool false, .bool false, .bool false, .bool false, .bool false, .bool false, .bool false] : List Value).set n (.bool true))[d]? = some v := z8_set _ _ (by omega)
    go_wp2_with fail
    rw [show w1.alloc (.cells (([.bool false, .bool false, .bool false, .bool false, .bool false, .bool false, .bool false, .bool false].set n (.bool true)).set d (.bool true)).toArray 57) = w1.alloc (.cells (boolsV (bsL [n, d])) 57) from by simp [boolsV, bsL]]
    have KS : Hid (Kp w (w1.alloc (.cells (boolsV (bsL [n, d])) 57))) := Lib.hid (K1.out.alloc _ _)
    have BS : Hid (Blk (w1.alloc (.cells (boolsV (bsL [n, d])) 57)) w1.heap.size (boolsV (bsL [n, d])) 57) := Lib.hid (Blk.new _ _ _)
    clear c0 c1 c2 c3 hlt zN zM
    generalize w1.alloc (.cells (boolsV (bsL [n, d])) 57) = wS at KS BS ⊢
    go_loopw [5, 6] (fun l x wr => ∃ k : Nat, k ≤ 8 ∧ x = .int .i64 k ∧ OwnsI wr wS.heap.size l (refTo (bsL [n, d]) k) ∧ Kp wS wr) (fun _ x _ => 8 - (intOf x).toNat)
    case atStart => exact ⟨0, by omega, rfl, OwnsI.nil _ _, Kp.refl _⟩
    case round =>
      obtain ⟨k, hk8, rfl, hown, hk⟩ := hrel
      by_cases h8 : k = 8
      · subst h8
        go_wp2_with fail
        go_ret
        exact ⟨_, rfl, hown.mono KS.out.size, KS.out.trans hk⟩
      · have hk7 : k < 8 := by omega
        have k0 : (0 : Int) ≤ (k : Int) := by omega
        have k1 : (k : Int) < 8 := by omega
        have HK7 := Lib.hid hk7
        have hcell := ((BS.out.kp hk).cell k).trans (boolsV_at _ k (by rw [HB8.out]; exact hk7))
        have HM := Lib.hid (fits (n := (refTo (bsL [n, d]) k).length) (by have := refTo_le (bsL [n, d]) k; omega))
        clear hk8 h8 hk7
        have HZ : Hid (Kp wS (wr.alloc (.cells #[.int .i64 k] 3))) := Lib.hid (hk.alloc _ _)
        have HKP := Lib.hid hk; clear hk
        have HOW := Lib.hid hown; clear hown
        rcases hb : (bsL [n, d]).getD k false with _ | _
        · rw [hb] at hcell
          have HU := Lib.hid (refTo_no hb)
          clear hb
          go_wp2_with fail
          go_roundw
          case rel => exact ⟨k + 1, by have := HK7.out; omega, by go_num, HU.out ▸ HOW.out, HKP.out⟩
          case measure => have := HK7.out; simp [intOf]; omega
        · rw [hb] at hcell
          have HU := Lib.hid (refTo_yes hb)
          clear hb
          go_wp2_with (at_builtin; refine wpList_append_own_at _ rfl (.tmp 62) (.tmp 64) _ rfl wS.heap.size 3 i0 _ 1 8 Tryd.underlying31 hi0 hz0 hz1 hz2 rfl (by decide) _ _ _ rfl (World.ownsRow.alloc HOW.out _) ⟨wr.heap.size, 0, none⟩ 1 1 [.int .i64 (k : Int)] rfl rfl (cell_one_new wr _ _) (one_int _) HM.out.1 HM.out.2 HZ.out.size ?_; intro v' w3 hown1 hg1 hn1 hat1; have HA := Lib.hid (own_step HZ.out (World.ownsRow.alloc HOW.out _) hown1 hg1); clear hown1 hg1 hn1 hat1)
          go_roundw
          case rel => exact ⟨k + 1, by have := HK7.out; omega, by go_num, HU.out ▸ HA.out.1, HA.out.2⟩
          case measure => have := HK7.out; simp [intOf]; omega
set_option maxHeartbeats 1000000 in
theorem rreads_d (o : Nat) (d n m : Nat) (imm : Int) (w : World) (ho : o = 15 ∨ o = 16) (g : InsA o d n m imm) :
    Calls Tryd.prog 15 #[.agg #[.int .i8 o, .int .i8 d, .int .i8 n, .int .i8 m, .int .i64 imm]] w fun e w' => ∃ v, e = .returned v ∧ OwnsI w' w.heap.size v (refTo (bsL [d]) 8) ∧ Kp w w' := by
  obtain ⟨i0, hi0, hz0, hz1, hz2⟩ := info_parts int_info
  obtain ⟨⟨d0, d8⟩, ⟨n0, n8⟩, ⟨m0, m8⟩⟩ := g.rg
  have HB8 := Lib.hid (bsL_len [d])
  have G := Lib.hid g; clear g
  obtain rfl | rfl := ho
  all_goals
    go_enter Tryd.func15, Tryd.ntmps15
    go_wp2_with fail
    refine (rcheck_ok _ d n m imm _ G.out).mono ?_; rintro e w1 ⟨rfl, hg⟩
    have B := (Blk.new w #[.int .i8 _, .int .i8 d, .int .i8 n, .int .i8 m, .int .i64 imm] 24).kp hg
    have hlt := B.lt
    have c0 := B.cell 0
    have c1 := B.cell 1
    have c2 := B.cell 2
    have c3 := B.cell 3
    have K1 : Hid (Kp w w1) := Lib.hid ((kpA w _ _).trans hg)
    clear B hg
    have zN : ([.bool false, .bool false, .bool false, .bool false, .bool false, .bool false, .bool false, .bool false] : List Value)[d]? = some (.bool false) := z8_at _ (by omega)
    go_wp2_with fail
    rw [show w1.alloc (.cells ([.bool false, .bool false, .bool false, .bool false, .bool false, .bool false, .bool false, .bool false].set d (.bool true)).toArray 57) = w1.alloc (.cells (boolsV (bsL [d])) 57) from by simp [boolsV, bsL]]
    have KS : Hid (Kp w (w1.alloc (.cells (boolsV (bsL [d])) 57))) := Lib.hid (K1.out.alloc _ _)
    have BS : Hid (Blk (w1.alloc (.cells (boolsV (bsL [d])) 57)) w1.heap.size (boolsV (bsL [d])) 57) := Lib.hid (Blk.new _ _ _)
    clear c0 c1 c2 c3 hlt zN
    generalize w1.alloc (.cells (boolsV (bsL [d])) 57) = wS at KS BS ⊢
    go_loopw [5, 6] (fun l x wr => ∃ k : Nat, k ≤ 8 ∧ x = .int .i64 k ∧ OwnsI wr wS.heap.size l (refTo (bsL [d]) k) ∧ Kp wS wr) (fun _ x _ => 8 - (intOf x).toNat)
    case atStart => exact ⟨0, by omega, rfl, OwnsI.nil _ _, Kp.refl _⟩
    case round =>
      obtain ⟨k, hk8, rfl, hown, hk⟩ := hrel
      by_cases h8 : k = 8
      · subst h8
        go_wp2_with fail
        go_ret
        exact ⟨_, rfl, hown.mono KS.out.size, KS.out.trans hk⟩
      · have hk7 : k < 8 := by omega
        have k0 : (0 : Int) ≤ (k : Int) := by omega
        have k1 : (k : Int) < 8 := by omega
        have HK7 := Lib.hid hk7
        have hcell := ((BS.out.kp hk).cell k).trans (boolsV_at _ k (by rw [HB8.out]; exact hk7))
        have HM := Lib.hid (fits (n := (refTo (bsL [d]) k).length) (by have := refTo_le (bsL [d]) k; omega))
        clear hk8 h8 hk7
        have HZ : Hid (Kp wS (wr.alloc (.cells #[.int .i64 k] 3))) := Lib.hid (hk.alloc _ _)
        have HKP := Lib.hid hk; clear hk
        have HOW := Lib.hid hown; clear hown
        rcases hb : (bsL [d]).getD k false with _ | _
        · rw [hb] at hcell
          have HU := Lib.hid (refTo_no hb)
          clear hb
          go_wp2_with fail
          go_roundw
          case rel => exact ⟨k + 1, by have := HK7.out; omega, by go_num, HU.out ▸ HOW.out, HKP.out⟩
          case measure => have := HK7.out; simp [intOf]; omega
        · rw [hb] at hcell
          have HU := Lib.hid (refTo_yes hb)
          clear hb
          go_wp2_with (at_builtin; refine wpList_append_own_at _ rfl (.tmp 62) (.tmp 64) _ rfl wS.heap.size 3 i0 _ 1 8 Tryd.underlying31 hi0 hz0 hz1 hz2 rfl (by decide) _ _ _ rfl (World.ownsRow.alloc HOW.out _) ⟨wr.heap.size, 0, none⟩ 1 1 [.int .i64 (k : Int)] rfl rfl (cell_one_new wr _ _) (one_int _) HM.out.1 HM.out.2 HZ.out.size ?_; intro v' w3 hown1 hg1 hn1 hat1; have HA := Lib.hid (own_step HZ.out (World.ownsRow.alloc HOW.out _) hown1 hg1); clear hown1 hg1 hn1 hat1)
          go_roundw
          case rel => exact ⟨k + 1, by have := HK7.out; omega, by go_num, HU.out ▸ HA.out.1, HA.out.2⟩
          case measure => have := HK7.out; simp [intOf]; omega
set_option maxHeartbeats 1000000 in
theorem rreads_none (o : Nat) (d n m : Nat) (imm : Int) (w : World) (ho : o = 0 ∨ o = 1 ∨ o = 13 ∨ o = 14 ∨ o = 18) (g : InsA o d n m imm) :
    Calls Tryd.prog 15 #[.agg #[.int .i8 o, .int .i8 d, .int .i8 n, .int .i8 m, .int .i64 imm]] w fun e w' => ∃ v, e = .returned v ∧ OwnsI w' w.heap.size v (refTo (bsL []) 8) ∧ Kp w w' := by
  obtain ⟨i0, hi0, hz0, hz1, hz2⟩ := info_parts int_info
  obtain ⟨⟨d0, d8⟩, ⟨n0, n8⟩, ⟨m0, m8⟩⟩ := g.rg
  have HB8 := Lib.hid (bsL_len [])
  have G := Lib.hid g; clear g
  obtain rfl | rfl | rfl | rfl | rfl := ho
  all_goals
    go_enter Tryd.func15, Tryd.ntmps15
    go_wp2_with fail
    refine (rcheck_ok _ d n m imm _ G.out).mono ?_; rintro e w1 ⟨rfl, hg⟩
    have B := (Blk.new w #[.int .i8 _, .int .i8 d, .int .i8 n, .int .i8 m, .int .i64 imm] 24).kp hg
    have hlt := B.lt
    have c0 := B.cell 0
    have c1 := B.cell 1
    have c2 := B.cell 2
    have c3 := B.cell 3
    have K1 : Hid (Kp w w1) := Lib.hid ((kpA w _ _).trans hg)
    clear B hg
    go_wp2_with fail
    rw [show w1.alloc (.cells #[.bool false, .bool false, .bool false, .bool false, .bool false, .bool false, .bool false, .bool false] 57) = w1.alloc (.cells (boolsV (bsL [])) 57) from rfl]
    have KS : Hid (Kp w (w1.alloc (.cells (boolsV (bsL [])) 57))) := Lib.hid (K1.out.alloc _ _)
    have BS : Hid (Blk (w1.alloc (.cells (boolsV (bsL [])) 57)) w1.heap.size (boolsV (bsL [])) 57) := Lib.hid (Blk.new _ _ _)
    clear c0 c1 c2 c3 hlt
    generalize w1.alloc (.cells (boolsV (bsL [])) 57) = wS at KS BS ⊢
    go_loopw [5, 6] (fun l x wr => ∃ k : Nat, k ≤ 8 ∧ x = .int .i64 k ∧ OwnsI wr wS.heap.size l (refTo (bsL []) k) ∧ Kp wS wr) (fun _ x _ => 8 - (intOf x).toNat)
    case atStart => exact ⟨0, by omega, rfl, OwnsI.nil _ _, Kp.refl _⟩
    case round =>
      obtain ⟨k, hk8, rfl, hown, hk⟩ := hrel
      by_cases h8 : k = 8
      · subst h8
        go_wp2_with fail
        go_ret
        exact ⟨_, rfl, hown.mono KS.out.size, KS.out.trans hk⟩
      · have hk7 : k < 8 := by omega
        have k0 : (0 : Int) ≤ (k : Int) := by omega
        have k1 : (k : Int) < 8 := by omega
        have HK7 := Lib.hid hk7
        have hcell := ((BS.out.kp hk).cell k).trans (boolsV_at _ k (by rw [HB8.out]; exact hk7))
        have HM := Lib.hid (fits (n := (refTo (bsL []) k).length) (by have := refTo_le (bsL []) k; omega))
        clear hk8 h8 hk7
        have HZ : Hid (Kp wS (wr.alloc (.cells #[.int .i64 k] 3))) := Lib.hid (hk.alloc _ _)
        have HKP := Lib.hid hk; clear hk
        have HOW := Lib.hid hown; clear hown
        rcases hb : (bsL []).getD k false with _ | _
        · rw [hb] at hcell
          have HU := Lib.hid (refTo_no hb)
          clear hb
          go_wp2_with fail
          go_roundw
          case rel => exact ⟨k + 1, by have := HK7.out; omega, by go_num, HU.out ▸ HOW.out, HKP.out⟩
          case measure => have := HK7.out; simp [intOf]; omega
        · rw [hb] at hcell
          have HU := Lib.hid (refTo_yes hb)
          clear hb
          go_wp2_with (at_builtin; refine wpList_append_own_at _ rfl (.tmp 62) (.tmp 64) _ rfl wS.heap.size 3 i0 _ 1 8 Tryd.underlying31 hi0 hz0 hz1 hz2 rfl (by decide) _ _ _ rfl (World.ownsRow.alloc HOW.out _) ⟨wr.heap.size, 0, none⟩ 1 1 [.int .i64 (k : Int)] rfl rfl (cell_one_new wr _ _) (one_int _) HM.out.1 HM.out.2 HZ.out.size ?_; intro v' w3 hown1 hg1 hn1 hat1; have HA := Lib.hid (own_step HZ.out (World.ownsRow.alloc HOW.out _) hown1 hg1); clear hown1 hg1 hn1 hat1)
          go_roundw
          case rel => exact ⟨k + 1, by have := HK7.out; omega, by go_num, HU.out ▸ HA.out.1, HA.out.2⟩
          case measure => have := HK7.out; simp [intOf]; omega
set_option maxHeartbeats 1000000 in
theorem rreads_call (o : Nat) (d n m : Nat) (imm : Int) (w : World) (ho : o = 17) (g : InsA o d n m imm) :
    Calls Tryd.prog 15 #[.agg #[.int .i8 o, .int .i8 d, .int .i8 n, .int .i8 m, .int .i64 imm]] w fun e w' => ∃ v, e = .returned v ∧ OwnsI w' w.heap.size v (refTo (bsL [0, 1, 2, 3]) 8) ∧ Kp w w' := by
  obtain ⟨i0, hi0, hz0, hz1, hz2⟩ := info_parts int_info
  obtain ⟨⟨d0, d8⟩, ⟨n0, n8⟩, ⟨m0, m8⟩⟩ := g.rg
  have HB8 := Lib.hid (bsL_len [0, 1, 2, 3])
  have G := Lib.hid g; clear g
  obtain rfl := ho
  all_goals
    go_enter Tryd.func15, Tryd.ntmps15
    go_wp2_with fail
    refine (rcheck_ok _ d n m imm _ G.out).mono ?_; rintro e w1 ⟨rfl, hg⟩
    have B := (Blk.new w #[.int .i8 _, .int .i8 d, .int .i8 n, .int .i8 m, .int .i64 imm] 24).kp hg
    have hlt := B.lt
    have c0 := B.cell 0
    have c1 := B.cell 1
    have c2 := B.cell 2
    have c3 := B.cell 3
    have K1 : Hid (Kp w w1) := Lib.hid ((kpA w _ _).trans hg)
    clear B hg
    go_wp2_with fail
    refine wp_loop_rounds 5 ?_
    rw [rounds_succ]
    go_wp2_with fail
    rw [rounds_succ]
    go_wp2_with fail
    rw [rounds_succ]
    go_wp2_with fail
    rw [rounds_succ]
    go_wp2_with fail
    rw [rounds_succ]
    go_wp2_with fail
    rw [show w1.alloc (.cells #[.bool true, .bool true, .bool true, .bool true, .bool false, .bool false, .bool false, .bool false] 57) = w1.alloc (.cells (boolsV (bsL [0, 1, 2, 3])) 57) from rfl]
    have KS : Hid (Kp w (w1.alloc (.cells (boolsV (bsL [0, 1, 2, 3])) 57))) := Lib.hid (K1.out.alloc _ _)
    have BS : Hid (Blk (w1.alloc (.cells (boolsV (bsL [0, 1, 2, 3])) 57)) w1.heap.size (boolsV (bsL [0, 1, 2, 3])) 57) := Lib.hid (Blk.new _ _ _)
    clear c0 c1 c2 c3 hlt
    generalize w1.alloc (.cells (boolsV (bsL [0, 1, 2, 3])) 57) = wS at KS BS ⊢
    go_loopw [5, 6] (fun l x wr => ∃ k : Nat, k ≤ 8 ∧ x = .int .i64 k ∧ OwnsI wr wS.heap.size l (refTo (bsL [0, 1, 2, 3]) k) ∧ Kp wS wr) (fun _ x _ => 8 - (intOf x).toNat)
    case atStart => exact ⟨0, by omega, rfl, OwnsI.nil _ _, Kp.refl _⟩
    case round =>
      obtain ⟨k, hk8, rfl, hown, hk⟩ := hrel
      by_cases h8 : k = 8
      · subst h8
        go_wp2_with fail
        go_ret
        exact ⟨_, rfl, hown.mono KS.out.size, KS.out.trans hk⟩
      · have hk7 : k < 8 := by omega
        have k0 : (0 : Int) ≤ (k : Int) := by omega
        have k1 : (k : Int) < 8 := by omega
        have HK7 := Lib.hid hk7
        have hcell := ((BS.out.kp hk).cell k).trans (boolsV_at _ k (by rw [HB8.out]; exact hk7))
        have HM := Lib.hid (fits (n := (refTo (bsL [0, 1, 2, 3]) k).length) (by have := refTo_le (bsL [0, 1, 2, 3]) k; omega))
        clear hk8 h8 hk7
        have HZ : Hid (Kp wS (wr.alloc (.cells #[.int .i64 k] 3))) := Lib.hid (hk.alloc _ _)
        have HKP := Lib.hid hk; clear hk
        have HOW := Lib.hid hown; clear hown
        rcases hb : (bsL [0, 1, 2, 3]).getD k false with _ | _
        · rw [hb] at hcell
          have HU := Lib.hid (refTo_no hb)
          clear hb
          go_wp2_with fail
          go_roundw
          case rel => exact ⟨k + 1, by have := HK7.out; omega, by go_num, HU.out ▸ HOW.out, HKP.out⟩
          case measure => have := HK7.out; simp [intOf]; omega
        · rw [hb] at hcell
          have HU := Lib.hid (refTo_yes hb)
          clear hb
          go_wp2_with (at_builtin; refine wpList_append_own_at _ rfl (.tmp 62) (.tmp 64) _ rfl wS.heap.size 3 i0 _ 1 8 Tryd.underlying31 hi0 hz0 hz1 hz2 rfl (by decide) _ _ _ rfl (World.ownsRow.alloc HOW.out _) ⟨wr.heap.size, 0, none⟩ 1 1 [.int .i64 (k : Int)] rfl rfl (cell_one_new wr _ _) (one_int _) HM.out.1 HM.out.2 HZ.out.size ?_; intro v' w3 hown1 hg1 hn1 hat1; have HA := Lib.hid (own_step HZ.out (World.ownsRow.alloc HOW.out _) hown1 hg1); clear hown1 hg1 hn1 hat1)
          go_roundw
          case rel => exact ⟨k + 1, by have := HK7.out; omega, by go_num, HU.out ▸ HA.out.1, HA.out.2⟩
          case measure => have := HK7.out; simp [intOf]; omega

/-! The whole. -/
theorem rreads_any (op d n m imm : Int) (w : World) :
    Calls Tryd.prog 15 #[.agg #[.int .i8 op, .int .i8 d, .int .i8 n, .int .i8 m, .int .i64 imm]] w fun e w' => ∃ v, e = .returned v ∧ OwnsI w' w.heap.size v (readsA op d n m imm) ∧ Kp w w' := by
  by_cases g : InsA op d n m imm
  · obtain ⟨o, rfl⟩ := Int.eq_ofNat_of_zero_le g.1
    obtain ⟨⟨d0, d8⟩, ⟨n0, n8⟩, ⟨m0, m8⟩⟩ := g.rg
    obtain ⟨d, rfl⟩ := Int.eq_ofNat_of_zero_le d0
    obtain ⟨n, rfl⟩ := Int.eq_ofNat_of_zero_le n0
    obtain ⟨m, rfl⟩ := Int.eq_ofNat_of_zero_le m0
    have d8' : d < 8 := by omega
    have n8' : n < 8 := by omega
    have m8' : m < 8 := by omega
    have ho : o < 19 := by have := g.2.1; omega
    by_cases a : o = 2 ∨ o = 3 ∨ o = 4 ∨ o = 5 ∨ o = 6
    · have e : readsA o d n m imm = refTo (bsL [n, m]) 8 := by
        rw [reads_is g (by omega), ← two_ok n m n8' m8']
        rcases a with rfl | rfl | rfl | rfl | rfl <;> rfl
      rw [e]
      exact rreads_nm o d n m imm w a g
    by_cases a2 : o = 7 ∨ o = 8 ∨ o = 10
    · have e : readsA o d n m imm = refTo (bsL [n]) 8 := by
        rw [reads_is g (by omega), ← one_ok n n8']
        rcases a2 with rfl | rfl | rfl <;> rfl
      rw [e]
      exact rreads_n o d n m imm w a2 g
    by_cases a3 : o = 9 ∨ o = 11 ∨ o = 12
    · have e : readsA o d n m imm = refTo (bsL [n, d]) 8 := by
        rw [reads_is g (by omega), ← two_turned d n d8' n8']
        rcases a3 with rfl | rfl | rfl <;> rfl
      rw [e]
      exact rreads_nd o d n m imm w a3 g
    by_cases a4 : o = 15 ∨ o = 16
    · have e : readsA o d n m imm = refTo (bsL [d]) 8 := by
        rw [reads_is g (by omega), ← one_ok d d8']
        rcases a4 with rfl | rfl <;> rfl
      rw [e]
      exact rreads_d o d n m imm w a4 g
    by_cases a5 : o = 17
    · subst a5
      have e : readsA ((17 : Nat) : Int) d n m imm = refTo (bsL [0, 1, 2, 3]) 8 := by
        rw [← four_ok]
        exact reads_call g
      rw [e]
      exact rreads_call 17 d n m imm w rfl g
    · have a6 : o = 0 ∨ o = 1 ∨ o = 13 ∨ o = 14 ∨ o = 18 := by omega
      have e : readsA o d n m imm = refTo (bsL []) 8 := by
        rw [reads_is g (by omega), ← none_ok]
        rcases a6 with rfl | rfl | rfl | rfl | rfl <;> rfl
      rw [e]
      exact rreads_none o d n m imm w a6 g
  · rw [reads_bad g]
    have G := Lib.hid g; clear g
    go_enter Tryd.func15, Tryd.ntmps15
    go_wp2_with fail
    refine (rcheck_bad op d n m imm _ G.out).mono ?_; rintro e w1 ⟨rfl, hg⟩
    have H1 := Lib.hid hg; clear hg
    go_wp2
    go_ret
    exact ⟨_, rfl, OwnsI.nil _ _, (by (repeat (first | apply Kp.drew | apply Kp.alloc)); refine Kp.trans ?_ H1.out; (repeat (first | apply Kp.drew | apply Kp.alloc)); exact Kp.refl _)⟩
end Go.Proofs.YtieffpgiliebmaaDoor
