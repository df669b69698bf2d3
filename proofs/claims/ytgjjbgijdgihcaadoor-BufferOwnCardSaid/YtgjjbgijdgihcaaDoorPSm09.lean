/-
  Package buffer: the table of kinds; the contracts of numbers, one, all, meets and may, for every entry. No condition but the table.
-/
import Derived.Test.YtgjjbgijdgihcaaDoorBuf09
import Derived.Test.YtgjjbgijdgihcaaDoorRows
import Derived.Tactics
import Derived.Tactics2
import Derived.Laws.Tables
import Derived.Deep.DeepCutAuto
import Derived.Deep.OwnRows
import Derived.Deep.RegionHeld3
import Derived.BigRegion
namespace Go.Proofs.YtgjjbgijdgihcaaDoor
open Go Go.RowKit

/-! The table of kinds, cell by cell. -/
def kindL : List Value := [.bool true, .bool false, .bool false, .bool false, .bool false, .bool false, .bool false, .bool true, .bool false, .bool false, .bool true, .bool true]
def TabsOk (w : World) : Prop := ∀ i, i < 12 → w.cell? ⟨0, i, none⟩ = kindL[i]?
theorem lt_of_cell {w : World} {b o : Nat} {v : Value} (h : w.cell? ⟨b, o, none⟩ = some v) : b < w.heap.size := by
  unfold World.cell? at h
  apply Nat.lt_of_not_le
  intro hn
  rw [Array.getElem?_eq_none hn] at h
  simp at h
theorem TabsOk.lt {w : World} (h : TabsOk w) : 0 < w.heap.size := lt_of_cell (h 0 (by decide))
theorem TabsOk.kp {w w' : World} (h : TabsOk w) (hk : Kp w w') : TabsOk w' := fun i hi => (hk.cell h.lt).trans (h i hi)
theorem kpA (w : World) (c : Array Value) (t : TypeId) : Kp w (w.alloc (.cells c t)) := (Kp.refl w).alloc c t
/-- The three cells of one kind, as the walk reckons them. -/
theorem TabsOk.at {w : World} (h : TabsOk w) (o : Nat) (ho : o < 4) (a b c : Bool) (e : kindL[o * 3]? = some (.bool a) ∧ kindL[o * 3 + 1]? = some (.bool b) ∧ kindL[o * 3 + 2]? = some (.bool c)) : w.cell? ⟨0, o * 3, none⟩ = some (.bool a) ∧ w.cell? ⟨0, o * 3 + 1, none⟩ = some (.bool b) ∧ w.cell? ⟨0, o * 3 + 2, none⟩ = some (.bool c) :=
  ⟨(h _ (by omega)).trans e.1, (h _ (by omega)).trans e.2.1, (h _ (by omega)).trans e.2.2⟩

def numB (n : Int) : Bool := decide (0 ≤ n) && decide (n ≤ 1048576)
theorem num_any (n : Int) (w : World) : Calls Tryd.prog 35 #[.int .i64 n] w fun r w' => r = .returned (.bool (numB n)) ∧ w' = w := by
  cases h0 : decide (0 ≤ n) with
  | false =>
    rw [show numB n = false by unfold numB; rw [h0]; rfl]
    go_enter Tryd.func35, Tryd.ntmps35
    go_wp2
    go_ret
    exact ⟨rfl, rfl⟩
  | true =>
    rw [show numB n = decide (n ≤ 1048576) by unfold numB; rw [h0]; rfl]
    go_enter Tryd.func35, Tryd.ntmps35
    go_wp2
    go_ret
    exact ⟨rfl, rfl⟩
theorem one_any (x : Nat) (hx : x < 1099511627776) (w : World) : Calls Tryd.prog 32 #[.int .u64 x] w fun r w' => r = .returned (.agg #[.int .u64 x, .int .u64 (x + 1 : Nat)]) ∧ Kp w w' := by
  have e1 : IntKind.u64.wrap ((x : Int) + 1) = ((x + 1 : Nat) : Int) := by rw [show IntKind.u64.wrap ((x : Int) + 1) = ((x : Int) + 1) % 18446744073709551616 from IntKind.wrap_u64 _]; omega
  have HX := Lib.hid hx; clear hx
  generalize x + 1 = y at *
  go_enter Tryd.func32, Tryd.ntmps32
  go_wp2
  refine bodyPost_ret (results_cell_row rfl _ _ _ _ _ _ _ rfl (Blk.new w _ _) Tryd.underlying55 rfl (by kernel_rfl)) rfl ?_
  exact ⟨rfl, by repeat (first | exact Kp.refl _ | apply Kp.alloc)⟩
theorem all_any (n : Int) (h : 0 ≤ n ∧ n ≤ 1048576) (w : World) : Calls Tryd.prog 38 #[.int .i64 n] w fun r w' => r = .returned (.agg #[.int .u64 (n.toNat * 512 : Nat), .int .u64 (n.toNat * 512 + 512 : Nat)]) ∧ Kp w w' := by
  obtain ⟨m, rfl⟩ : ∃ m : Nat, n = (m : Int) := ⟨n.toNat, by omega⟩
  have hm : m ≤ 1048576 := by omega
  clear h
  rw [Int.toNat_natCast]
  have e1 : IntKind.u64.wrap (m : Int) = (m : Int) := by rw [show IntKind.u64.wrap (m : Int) = (m : Int) % 18446744073709551616 from IntKind.wrap_u64 _]; omega
  have e2 : IntKind.u64.wrap ((m : Int) * 512) = ((m * 512 : Nat) : Int) := by rw [show IntKind.u64.wrap ((m : Int) * 512) = ((m : Int) * 512) % 18446744073709551616 from IntKind.wrap_u64 _]; omega
  have e3 : IntKind.i64.wrap ((m : Int) + 1) = (m : Int) + 1 := by rw [show IntKind.i64.wrap ((m : Int) + 1) = ((m : Int) + 1 + 9223372036854775808) % 18446744073709551616 - 9223372036854775808 from IntKind.wrap_i64 _]; omega
  have e4 : IntKind.u64.wrap ((m : Int) + 1) = (m : Int) + 1 := by rw [show IntKind.u64.wrap ((m : Int) + 1) = ((m : Int) + 1) % 18446744073709551616 from IntKind.wrap_u64 _]; omega
  have e5 : IntKind.u64.wrap (((m : Int) + 1) * 512) = ((m * 512 + 512 : Nat) : Int) := by rw [show IntKind.u64.wrap (((m : Int) + 1) * 512) = (((m : Int) + 1) * 512) % 18446744073709551616 from IntKind.wrap_u64 _]; omega
  generalize m * 512 + 512 = q at *
  generalize m * 512 = p at *
  have HM := Lib.hid hm; clear hm
  go_enter Tryd.func38, Tryd.ntmps38
  go_wp2
  refine bodyPost_ret (results_cell_row rfl _ _ _ _ _ _ _ rfl (Blk.new w _ _) Tryd.underlying55 rfl (by kernel_rfl)) rfl ?_
  exact ⟨rfl, by repeat (first | exact Kp.refl _ | apply Kp.alloc)⟩
def meetB (a b c d : Nat) : Bool := decide (a < d) && decide (c < b)
theorem meets_any (a b c d : Nat) (w : World) : Calls Tryd.prog 31 #[.agg #[.int .u64 a, .int .u64 b], .agg #[.int .u64 c, .int .u64 d]] w fun r w' => r = .returned (.bool (meetB a b c d)) ∧ Kp w w' := by
  cases h0 : decide (a < d) with
  | false =>
    rw [show meetB a b c d = false by unfold meetB; rw [h0]; rfl]
    have h1 : ¬ ((a : Int) < (d : Int)) := by simp at h0; omega
    clear h0
    go_enter Tryd.func31, Tryd.ntmps31
    go_wp2
    go_ret
    exact ⟨rfl, by repeat (first | exact Kp.refl _ | apply Kp.alloc)⟩
  | true =>
    rw [show meetB a b c d = decide (c < b) by unfold meetB; rw [h0]; rfl]
    have h1 : ((a : Int) < (d : Int)) := by simp at h0; omega
    clear h0
    go_enter Tryd.func31, Tryd.ntmps31
    go_wp2
    go_ret
    exact ⟨rfl, by repeat (first | exact Kp.refl _ | apply Kp.alloc)⟩
theorem num_is (n : Int) (b : Bool) (h : numB n = b) (w : World) : Calls Tryd.prog 35 #[.int .i64 n] w fun r w' => r = .returned (.bool b) ∧ w' = w := h ▸ num_any n w
theorem ent_equal (k x v a b k' x' v' a' b' : Int) (w : World) :
    (Op.equalIn 10000 26 (.agg #[.int .i8 k, .int .u64 x, .int .u64 v, .int .i64 a, .int .i64 b]) (.agg #[.int .i8 k', .int .u64 x', .int .u64 v', .int .i64 a', .int .i64 b'])).run Tryd.prog w
      = .ok (decide (k = k' ∧ x = x' ∧ v = v' ∧ a = a' ∧ b = b')) w := by
  by_cases h0 : k = k'
  · subst h0
    by_cases h1 : x = x'
    · subst h1
      by_cases h2 : v = v'
      · subst h2
        by_cases h3 : a = a'
        · subst h3
          by_cases h4 : b = b'
          · subst h4
            go_simp
          · go_simp
        · go_simp
      · go_simp
    · go_simp
  · go_simp
theorem ent_eq (k x v a b k' x' v' a' b' : Int) (q : Bool) (h : decide (k = k' ∧ x = x' ∧ v = v' ∧ a = a' ∧ b = b') = q) : ∀ w, (Op.equalIn 10000 26 (.agg #[.int .i8 k, .int .u64 x, .int .u64 v, .int .i64 a, .int .i64 b]) (.agg #[.int .i8 k', .int .u64 x', .int .u64 v', .int .i64 a', .int .i64 b'])).run Tryd.prog w = .ok q w := fun _ => h ▸ ent_equal ..
/-- What may holds behind its two new variables. -/
def MayAt (w wx : World) (o : Nat) (x v : Nat) (fr fm : Int) (b0 b1 b2 : Bool) (B1 B2 : Nat) : Prop := Blk wx B1 #[.bool b0, .bool b1, .bool b2] 60 ∧ Blk wx B2 #[.int .i8 o, .int .u64 0, .int .u64 0, .int .i64 0, .int .i64 0] 26 ∧ Blk wx w.heap.size #[.int .i8 o, .int .u64 x, .int .u64 v, .int .i64 fr, .int .i64 fm] 26 ∧ Kp w wx ∧ w.heap.size < B1 ∧ w.heap.size < B2 ∧ B1 ≠ B2
set_option maxHeartbeats 1000000 in
theorem pmay_in (o x v : Nat) (fr fm : Int) (w : World) (hT : TabsOk w) (ho : o < 4) :
    Calls Tryd.prog 22 #[.agg #[.int .i8 o, .int .u64 x, .int .u64 v, .int .i64 fr, .int .i64 fm]] w fun r w' => r = .returned (.bool (mayB ⟨o, x, v, fr, fm⟩)) ∧ Kp w w' := by
  obtain ⟨b0, b1, b2, hb, hb'⟩ : ∃ b0 b1 b2 : Bool, (kindL[o * 3]? = some (.bool b0) ∧ kindL[o * 3 + 1]? = some (.bool b1) ∧ kindL[o * 3 + 2]? = some (.bool b2)) ∧ (b0, b1, b2) = (decide (o = 0), decide (2 ≤ o), decide (o = 3)) := by
    obtain rfl | rfl | rfl | rfl : o = 0 ∨ o = 1 ∨ o = 2 ∨ o = 3 := by omega
    all_goals exact ⟨_, _, _, ⟨rfl, rfl, rfl⟩, rfl⟩
  obtain ⟨c0, c1, c2⟩ := (hT.kp (kpA w #[.int .i8 o, .int .u64 x, .int .u64 v, .int .i64 fr, .int .i64 fm] 26)).at o ho b0 b1 b2 hb
  have HL : Hid (0 < w.heap.size) := Lib.hid hT.lt
  have HT := Lib.hid hT
  have HB := Lib.hid hb'
  have i0 : (0 : Int) ≤ (o : Int) := by omega
  have i1 : (o : Int) < 4 := by omega
  have HO := Lib.hid ho
  clear hT hb hb' ho
  obtain ⟨M, hM⟩ : ∃ M, mayB ⟨o, x, v, fr, fm⟩ = M := ⟨_, rfl⟩
  rw [hM]
  have HM := Lib.hid hM; clear hM
  go_enter Tryd.func22, Tryd.ntmps22
  go_upto_region 3 with fail
  go_cut [3, 4] from 14 (fun s3 s4 wx => ∃ B1 B2, s3 = .pointer (some ⟨B1, 0, none⟩) ∧ s4 = .pointer (some ⟨B2, 0, none⟩) ∧ MayAt w wx o x v fr fm b0 b1 b2 B1 B2)
  case first =>
    go_region
    all_goals (go_wp2_with fail; go_meet)
    · exact ⟨_, _, rfl, rfl, ((Blk.new2 w _ _ _).alloc _).drew, (by have := Blk.new ((w.alloc (.cells #[.int .i8 o, .int .u64 x, .int .u64 v, .int .i64 fr, .int .i64 fm] 26)).alloc (.cells #[.bool b0, .bool b1, .bool b2] 60)) #[.int .i8 o, .int .u64 0, .int .u64 0, .int .i64 0, .int .i64 0] 26; simpa using this.drew), (((Blk.new w _ _).alloc _).alloc _).drew, (by repeat (first | exact Kp.refl _ | apply Kp.drew | apply Kp.alloc)), by omega, by omega, by omega⟩
    · exact ⟨_, _, rfl, rfl, (by have := Blk.new ((w.alloc (.cells #[.int .i8 o, .int .u64 x, .int .u64 v, .int .i64 fr, .int .i64 fm] 26)).alloc (.cells #[.int .i8 o, .int .u64 0, .int .u64 0, .int .i64 0, .int .i64 0] 26)) #[.bool b0, .bool b1, .bool b2] 60; simpa using this.drew), ((Blk.new2 w _ _ _).alloc _).drew, (((Blk.new w _ _).alloc _).alloc _).drew, (by repeat (first | exact Kp.refl _ | apply Kp.drew | apply Kp.alloc)), by omega, by omega, by omega⟩
  case rest =>
    obtain ⟨B1, B2, rfl, rfl, k1, k2, k3, hk, l1, l2, ne⟩ := hcut
    have HK := Lib.hid hk
    have H1 := Lib.hid k1; have H2 := Lib.hid k2; have H3 := Lib.hid k3
    have HBd := Lib.hid (And.intro l1 l2)
    obtain ⟨p0, p1, p2⟩ : wc.cell? ⟨B1, 0, none⟩ = some (.bool b0) ∧ wc.cell? ⟨B1, 1, none⟩ = some (.bool b1) ∧ wc.cell? ⟨B1, 2, none⟩ = some (.bool b2) := ⟨k1.cell 0, k1.cell 1, k1.cell 2⟩
    obtain ⟨q0, q1, q2, q3, q4⟩ : wc.cell? ⟨B2, 0, none⟩ = some (.int .i8 o) ∧ wc.cell? ⟨B2, 1, none⟩ = some (.int .u64 0) ∧ wc.cell? ⟨B2, 2, none⟩ = some (.int .u64 0) ∧ wc.cell? ⟨B2, 3, none⟩ = some (.int .i64 0) ∧ wc.cell? ⟨B2, 4, none⟩ = some (.int .i64 0) := ⟨k2.cell 0, k2.cell 1, k2.cell 2, k2.cell 3, k2.cell 4⟩
    obtain ⟨f1, f2, f3, f4⟩ : wc.frozen? ⟨B2, 1, none⟩ = false ∧ wc.frozen? ⟨B2, 2, none⟩ = false ∧ wc.frozen? ⟨B2, 3, none⟩ = false ∧ wc.frozen? ⟨B2, 4, none⟩ = false := ⟨k2.frozen 1, k2.frozen 2, k2.frozen 3, k2.frozen 4⟩
    obtain ⟨r0, r1, r2, r3, r4⟩ : wc.cell? ⟨w.heap.size, 0, none⟩ = some (.int .i8 o) ∧ wc.cell? ⟨w.heap.size, 1, none⟩ = some (.int .u64 x) ∧ wc.cell? ⟨w.heap.size, 2, none⟩ = some (.int .u64 v) ∧ wc.cell? ⟨w.heap.size, 3, none⟩ = some (.int .i64 fr) ∧ wc.cell? ⟨w.heap.size, 4, none⟩ = some (.int .i64 fm) := ⟨k3.cell 0, k3.cell 1, k3.cell 2, k3.cell 3, k3.cell 4⟩
    have n1 : (w.heap.size == B2) = false := by simp; omega
    have n2 : (B2 == w.heap.size) = false := by simp; omega
    have n3 : (B1 == B2) = false := by simpa using ne
    have n4 : (B2 == B1) = false := by simpa using fun q : B2 = B1 => ne q.symm
    have n5 : ¬ w.heap.size = B2 := by omega
    have n6 : ¬ B2 = w.heap.size := by omega
    have n7 : ¬ B2 = B1 := fun q => ne q.symm
    clear k1 k2 k3 hk l1 l2 HT HL c0 c1 c2
    obtain ⟨ho, hb0, hb1, hb2⟩ | ⟨ho, hb0, hb1, hb2⟩ | ⟨ho, hb0, hb1, hb2⟩ | ⟨ho, hb0, hb1, hb2⟩ : (o = 0 ∧ b0 = true ∧ b1 = false ∧ b2 = false) ∨ (o = 1 ∧ b0 = false ∧ b1 = false ∧ b2 = false) ∨ (o = 2 ∧ b0 = false ∧ b1 = true ∧ b2 = false) ∨ (o = 3 ∧ b0 = false ∧ b1 = true ∧ b2 = true) := by
      have h := HB.out
      have h' := HO.out
      obtain rfl | rfl | rfl | rfl : o = 0 ∨ o = 1 ∨ o = 2 ∨ o = 3 := by omega
      all_goals simpa using h
    all_goals
      subst hb0 hb1 hb2
      clear HB HO i0 i1
      generalize hKo : (o : Int) = K at *
      rw [ho] at hKo
      subst hKo
      clear H1 H2 H3
      simp only [Int.cast_ofNat_Int] at *
    · have hm : mayB ⟨0, x, v, fr, fm⟩ = (decide ((x : Int) < 1099511627776) && (fr == 0) && (fm == 0)) := rfl
      by_cases c : fr = 0 ∧ fm = 0
      · obtain ⟨rfl, rfl⟩ := c
        have he := ent_eq 0 x v 0 0 0 x v 0 0 true (by simp)
        cases d : decide ((x : Int) < 1099511627776) with
        | false =>
          obtain rfl : M = false := HM.out.symm.trans (by rw [hm, d]; rfl)
          clear HM
          clear hm
          go_wp2_with fail
          go_region
          go_wp2_with fail
          go_ret
          exact ⟨rfl, by have hl := HBd.out; (try apply Kp.drew); repeat (first | exact HK.out | apply Kp.drew | refine Kp.setCell ?_ (by show w.heap.size ≤ B2; omega) _)⟩
        | true =>
          obtain rfl : M = true := HM.out.symm.trans (by rw [hm, d]; rfl)
          clear HM
          clear hm
          go_wp2_with fail
          go_region
          go_wp2_with fail
          refine (num_is _ true rfl _).mono ?_; rintro r w' ⟨rfl, rfl⟩
          go_wp2_with fail
          refine (num_is _ true rfl _).mono ?_; rintro r w' ⟨rfl, rfl⟩
          go_wp2_with fail
          go_ret
          exact ⟨rfl, by have hl := HBd.out; (try apply Kp.drew); repeat (first | exact HK.out | apply Kp.drew | refine Kp.setCell ?_ (by show w.heap.size ≤ B2; omega) _)⟩
      · obtain rfl : M = false := HM.out.symm.trans (by rw [hm]; apply Bool.eq_false_iff.2; intro q; simp at q; exact c (by omega))
        have he := ent_eq 0 x v fr fm 0 x v 0 0 false (by simpa using c)
        have HC := Lib.hid c; clear c HM hm
        go_wp2_with fail
        go_region
        go_wp2_with fail
        go_ret
        exact ⟨rfl, by have hl := HBd.out; (try apply Kp.drew); repeat (first | exact HK.out | apply Kp.drew | refine Kp.setCell ?_ (by show w.heap.size ≤ B2; omega) _)⟩
    · have hm : mayB ⟨1, x, v, fr, fm⟩ = (((x : Int) == 0) && ((v : Int) == 0) && (fr == 0) && (fm == 0)) := rfl
      by_cases c : (x : Int) = 0 ∧ (v : Int) = 0 ∧ fr = 0 ∧ fm = 0
      · obtain ⟨hx, hv, rfl, rfl⟩ := c
        obtain rfl : x = 0 := by omega
        obtain rfl : v = 0 := by omega
        clear hx hv
        have he := ent_eq 1 0 0 0 0 1 0 0 0 0 true (by simp)
        simp only [Int.cast_ofNat_Int] at r1 r2 he ⊢
        obtain rfl : M = true := HM.out.symm.trans (by rfl)
        clear HM
        clear hm
        go_wp2_with fail
        refine (num_is _ true rfl _).mono ?_; rintro r w' ⟨rfl, rfl⟩
        go_wp2_with fail
        refine (num_is _ true rfl _).mono ?_; rintro r w' ⟨rfl, rfl⟩
        go_wp2_with fail
        go_ret
        exact ⟨rfl, by have hl := HBd.out; (try apply Kp.drew); repeat (first | exact HK.out | apply Kp.drew | refine Kp.setCell ?_ (by show w.heap.size ≤ B2; omega) _)⟩
      · obtain rfl : M = false := HM.out.symm.trans (by rw [hm]; apply Bool.eq_false_iff.2; intro q; simp at q; exact c (by omega))
        have he := ent_eq 1 x v fr fm 1 0 0 0 0 false (by simpa using c)
        have HC := Lib.hid c; clear c HM hm
        go_wp2_with fail
        go_ret
        exact ⟨rfl, by have hl := HBd.out; (try apply Kp.drew); repeat (first | exact HK.out | apply Kp.drew | refine Kp.setCell ?_ (by show w.heap.size ≤ B2; omega) _)⟩
    · have hm : mayB ⟨2, x, v, fr, fm⟩ = (((x : Int) == 0) && ((v : Int) == 0) && (fr == 0) && decide (0 ≤ fm) && decide (fm ≤ 1048576)) := rfl
      by_cases c : (x : Int) = 0 ∧ (v : Int) = 0 ∧ fr = 0
      · obtain ⟨hx, hv, rfl⟩ := c
        obtain rfl : x = 0 := by omega
        obtain rfl : v = 0 := by omega
        clear hx hv
        have he := ent_eq 2 0 0 0 fm 2 0 0 0 fm true (by simp)
        simp only [Int.cast_ofNat_Int] at r1 r2 he ⊢
        have hn : mayB ⟨2, 0, 0, 0, fm⟩ = numB fm := by rw [hm]; simp [numB]
        clear hm
        cases d : numB fm with
        | false =>
          obtain rfl : M = false := HM.out.symm.trans (by exact hn.trans d)
          clear HM
          clear hn
          have D := Lib.hid d; clear d
          go_wp2_with fail
          refine (num_is _ false D.out _).mono ?_; rintro r w' ⟨rfl, rfl⟩
          go_wp2_with fail
          go_ret
          exact ⟨rfl, by have hl := HBd.out; (try apply Kp.drew); repeat (first | exact HK.out | apply Kp.drew | refine Kp.setCell ?_ (by show w.heap.size ≤ B2; omega) _)⟩
        | true =>
          obtain rfl : M = true := HM.out.symm.trans (by exact hn.trans d)
          clear HM
          clear hn
          have D := Lib.hid d; clear d
          go_wp2_with fail
          refine (num_is _ true D.out _).mono ?_; rintro r w' ⟨rfl, rfl⟩
          go_wp2_with fail
          refine (num_is _ true rfl _).mono ?_; rintro r w' ⟨rfl, rfl⟩
          go_wp2_with fail
          go_ret
          exact ⟨rfl, by have hl := HBd.out; (try apply Kp.drew); repeat (first | exact HK.out | apply Kp.drew | refine Kp.setCell ?_ (by show w.heap.size ≤ B2; omega) _)⟩
      · obtain rfl : M = false := HM.out.symm.trans (by rw [hm]; apply Bool.eq_false_iff.2; intro q; simp at q; exact c (by omega))
        have he := ent_eq 2 x v fr fm 2 0 0 0 fm false (by simpa using c)
        have HC := Lib.hid c; clear c HM hm
        go_wp2_with fail
        go_ret
        exact ⟨rfl, by have hl := HBd.out; (try apply Kp.drew); repeat (first | exact HK.out | apply Kp.drew | refine Kp.setCell ?_ (by show w.heap.size ≤ B2; omega) _)⟩
    · have hm : mayB ⟨3, x, v, fr, fm⟩ = (((x : Int) == 0) && ((v : Int) == 0) && decide (0 ≤ fr) && decide (fr ≤ 1048576) && decide (0 ≤ fm) && decide (fm ≤ 1048576)) := rfl
      by_cases c : (x : Int) = 0 ∧ (v : Int) = 0
      · obtain ⟨hx, hv⟩ := c
        obtain rfl : x = 0 := by omega
        obtain rfl : v = 0 := by omega
        clear hx hv
        have he := ent_eq 3 0 0 fr fm 3 0 0 fr fm true (by simp)
        simp only [Int.cast_ofNat_Int] at r1 r2 he ⊢
        have hn : mayB ⟨3, 0, 0, fr, fm⟩ = (numB fm && numB fr) := by rw [hm]; simp [numB]; rw [Bool.eq_iff_iff]; simp; omega
        clear hm
        cases d : numB fm with
        | false =>
          obtain rfl : M = false := HM.out.symm.trans (by rw [hn, d]; rfl)
          clear HM
          clear hn
          have D := Lib.hid d; clear d
          go_wp2_with fail
          refine (num_is _ false D.out _).mono ?_; rintro r w' ⟨rfl, rfl⟩
          go_wp2_with fail
          go_ret
          exact ⟨rfl, by have hl := HBd.out; (try apply Kp.drew); repeat (first | exact HK.out | apply Kp.drew | refine Kp.setCell ?_ (by show w.heap.size ≤ B2; omega) _)⟩
        | true =>
          cases d2 : numB fr with
          | false =>
            obtain rfl : M = false := HM.out.symm.trans (by rw [hn, d, d2]; rfl)
            clear HM
            clear hn
            have D := Lib.hid d; clear d
            have D2 := Lib.hid d2; clear d2
            go_wp2_with fail
            refine (num_is _ true D.out _).mono ?_; rintro r w' ⟨rfl, rfl⟩
            go_wp2_with fail
            refine (num_is _ false D2.out _).mono ?_; rintro r w' ⟨rfl, rfl⟩
            go_wp2_with fail
            go_ret
            exact ⟨rfl, by have hl := HBd.out; (try apply Kp.drew); repeat (first | exact HK.out | apply Kp.drew | refine Kp.setCell ?_ (by show w.heap.size ≤ B2; omega) _)⟩
          | true =>
            obtain rfl : M = true := HM.out.symm.trans (by rw [hn, d, d2]; rfl)
            clear HM
            clear hn
            have D := Lib.hid d; clear d
            have D2 := Lib.hid d2; clear d2
            go_wp2_with fail
            refine (num_is _ true D.out _).mono ?_; rintro r w' ⟨rfl, rfl⟩
            go_wp2_with fail
            refine (num_is _ true D2.out _).mono ?_; rintro r w' ⟨rfl, rfl⟩
            go_wp2_with fail
            go_ret
            exact ⟨rfl, by have hl := HBd.out; (try apply Kp.drew); repeat (first | exact HK.out | apply Kp.drew | refine Kp.setCell ?_ (by show w.heap.size ≤ B2; omega) _)⟩
      · obtain rfl : M = false := HM.out.symm.trans (by rw [hm]; apply Bool.eq_false_iff.2; intro q; simp at q; exact c (by omega))
        have he := ent_eq 3 x v fr fm 3 0 0 fr fm false (by simpa using c)
        have HC := Lib.hid c; clear c HM hm
        go_wp2_with fail
        go_ret
        exact ⟨rfl, by have hl := HBd.out; (try apply Kp.drew); repeat (first | exact HK.out | apply Kp.drew | refine Kp.setCell ?_ (by show w.heap.size ≤ B2; omega) _)⟩
theorem pmay_any (e : Ent) (w : World) (hT : TabsOk w) (hk : -128 ≤ e.k ∧ e.k < 128) : Calls Tryd.prog 22 #[.agg (Ent.arr e)] w fun r w' => r = .returned (.bool (mayB e)) ∧ Kp w w' := by
  obtain ⟨k, x, v, fr, fm⟩ := e
  simp only at hk
  by_cases h0 : 0 ≤ k ∧ k < 4
  · obtain ⟨o, rfl⟩ : ∃ o : Nat, k = (o : Int) := ⟨k.toNat, by omega⟩
    exact pmay_in o x v fr fm w hT (by omega)
  rw [show mayB ⟨k, x, v, fr, fm⟩ = false by unfold mayB; rw [if_neg (by simp; omega), if_neg (by simp; omega), if_neg (by simp; omega), if_neg (by simp; omega)]]
  unfold Ent.arr
  rcases (by omega : k < 0 ∨ 4 ≤ k) with h | h
  all_goals
    go_enter Tryd.func22, Tryd.ntmps22
    go_wp2
    go_ret
    exact ⟨rfl, kpA _ _ _⟩
end Go.Proofs.YtgjjbgijdgihcaaDoor
