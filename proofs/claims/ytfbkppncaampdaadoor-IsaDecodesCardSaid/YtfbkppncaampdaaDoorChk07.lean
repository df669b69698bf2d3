/-
  Package alu's Check over any op, and the document's Check. No condition but the table.
-/
import Derived.Test.YtfbkppncaampdaaDoorAlu06
namespace Go.Proofs.YtfbkppncaampdaaDoor
open Go Go.RowKit

/-! Over any op. -/
def InsA (op d n m imm : Int) : Prop := 0 ≤ op ∧ op < 19 ∧ InsOk op.toNat d n m imm
instance (op d n m imm : Int) : Decidable (InsA op d n m imm) := by unfold InsA; infer_instance
def chkA (op d n m imm : Int) : Int := if InsA op d n m imm then 0 else 60
theorem chkA_yes {op d n m imm : Int} (h : InsA op d n m imm) : chkA op d n m imm = 0 := if_pos h
theorem chkA_no {op d n m imm : Int} (h : ¬ InsA op d n m imm) : chkA op d n m imm = 60 := if_neg h
theorem check_any (op d n m imm : Int) (w : World) (hT : TabsOk w) (hop : -128 ≤ op ∧ op < 128) :
    Calls Tryd.prog 16 #[.agg #[.int .i8 op, .int .i8 d, .int .i8 n, .int .i8 m, .int .i64 imm]] w fun e w' => e = .returned (.int .i64 (chkA op d n m imm)) ∧ Kp w w' := by
  by_cases h : 0 ≤ op ∧ op < 19
  · obtain ⟨o, rfl⟩ := Int.eq_ofNat_of_zero_le h.1
    have e : chkA o d n m imm = chkI o d n m imm := by
      unfold chkA chkI InsA
      have : InsOk (o : Int).toNat d n m imm = InsOk o d n m imm := by rw [Int.toNat_natCast]
      simp only [this, h.1, h.2, true_and]
    rw [e]
    exact check_in o d n m imm w hT (by omega)
  · rw [chkA_no (fun g => h ⟨g.1, g.2.1⟩)]
    exact check_out op d n m imm w (by omega)
theorem check_ok (op d n m imm : Int) (w : World) (hT : TabsOk w) (hop : -128 ≤ op ∧ op < 128) (h : InsA op d n m imm) :
    Calls Tryd.prog 16 #[.agg #[.int .i8 op, .int .i8 d, .int .i8 n, .int .i8 m, .int .i64 imm]] w fun e w' => e = .returned (.int .i64 0) ∧ Kp w w' := chkA_yes h ▸ check_any op d n m imm w hT hop
theorem check_bad (op d n m imm : Int) (w : World) (hT : TabsOk w) (hop : -128 ≤ op ∧ op < 128) (h : ¬ InsA op d n m imm) :
    Calls Tryd.prog 16 #[.agg #[.int .i8 op, .int .i8 d, .int .i8 n, .int .i8 m, .int .i64 imm]] w fun e w' => e = .returned (.int .i64 60) ∧ Kp w w' := chkA_no h ▸ check_any op d n m imm w hT hop
theorem results_tmp6 {fn : Func} {t u v x y z : Tmp} (h : fn.results = #[.tmp t, .tmp u, .tmp v, .tmp x, .tmp y, .tmp z]) (tmps : Array Value) (P : Program) (w : World) :
    (results fn tmps).run P w = .ok (.tuple #[tmps.getD t undef, tmps.getD u undef, tmps.getD v undef, tmps.getD x undef, tmps.getD y undef, tmps.getD z undef]) w := by
  simp [results, h]
def hasU (u : Int) : Bool := decide (u ≠ 0)
theorem has_in (o : Nat) (w : World) (ho : o < 19) :
    Calls Tryd.prog 38 #[.int .i8 o] w fun e w' => e = .returned (.tuple #[.bool (hasU (uD o)), .bool (hasU (uN o)), .bool (hasU (uM o)), .int .i64 (loI o), .int .i64 (hiI o), .bool true]) ∧ w = w' := by
  obtain rfl | rfl | rfl | rfl | rfl | rfl | rfl | rfl | rfl | rfl | rfl | rfl | rfl | rfl | rfl | rfl | rfl | rfl | rfl : o = 0 ∨ o = 1 ∨ o = 2 ∨ o = 3 ∨ o = 4 ∨ o = 5 ∨ o = 6 ∨ o = 7 ∨ o = 8 ∨ o = 9 ∨ o = 10 ∨ o = 11 ∨ o = 12 ∨ o = 13 ∨ o = 14 ∨ o = 15 ∨ o = 16 ∨ o = 17 ∨ o = 18 := by omega
  all_goals
    clear ho
    go_enter Tryd.func38, Tryd.ntmps38
    go_wp2
    refine bodyPost_ret (results_tmp6 rfl _ _ _) rfl ?_
    exact ⟨rfl, rfl⟩
theorem has_out (op : Int) (w : World) (h : op < 0 ∨ 19 ≤ op) :
    Calls Tryd.prog 38 #[.int .i8 op] w fun e w' => e = .returned (.tuple #[.bool false, .bool false, .bool false, .int .i64 0, .int .i64 0, .bool false]) ∧ w = w' := by
  have n0 : ¬ op = 0 := by omega
  have n1 : ¬ op = 1 := by omega
  have n2 : ¬ op = 2 := by omega
  have n3 : ¬ op = 3 := by omega
  have n4 : ¬ op = 4 := by omega
  have n5 : ¬ op = 5 := by omega
  have n6 : ¬ op = 6 := by omega
  have n7 : ¬ op = 7 := by omega
  have n8 : ¬ op = 8 := by omega
  have n9 : ¬ op = 9 := by omega
  have n10 : ¬ op = 10 := by omega
  have n11 : ¬ op = 11 := by omega
  have n12 : ¬ op = 12 := by omega
  have n13 : ¬ op = 13 := by omega
  have n14 : ¬ op = 14 := by omega
  have n15 : ¬ op = 15 := by omega
  have n16 : ¬ op = 16 := by omega
  have n17 : ¬ op = 17 := by omega
  have n18 : ¬ op = 18 := by omega
  clear h
  go_enter Tryd.func38, Tryd.ntmps38
  go_wp2
  refine bodyPost_ret (results_tmp6 rfl _ _ _) rfl ?_
  exact ⟨rfl, rfl⟩
theorem register_is (r u : Int) (b : Bool) (h : decide (MayR u r) = b) (w : World) :
    Calls Tryd.prog 39 #[.int .i8 r, .bool (hasU u)] w fun e w' => e = .returned (.bool b) ∧ w = w' := by
  subst h
  by_cases hu : u = 0
  · subst hu
    rw [show hasU 0 = false from rfl]
    by_cases hr : r = 0
    · subst hr
      go_enter Tryd.func39, Tryd.ntmps39
      go_wp2
      go_ret
      exact ⟨rfl, rfl⟩
    · rw [show decide (MayR 0 r) = false from decide_eq_false (by unfold MayR; omega)]
      by_cases h0 : 0 ≤ r
      · by_cases h8 : r < 8
        · go_enter Tryd.func39, Tryd.ntmps39
          go_wp2
          go_ret
          exact ⟨ret_bool (by simp [hr]), rfl⟩
        · go_enter Tryd.func39, Tryd.ntmps39
          go_wp2
          go_ret
          exact ⟨rfl, rfl⟩
      · go_enter Tryd.func39, Tryd.ntmps39
        go_wp2
        go_ret
        exact ⟨rfl, rfl⟩
  · rw [show hasU u = true from decide_eq_true hu]
    by_cases h0 : 0 ≤ r
    · by_cases h8 : r < 8
      · rw [show decide (MayR u r) = true from decide_eq_true (.inr ⟨hu, h0, h8⟩)]
        clear hu
        go_enter Tryd.func39, Tryd.ntmps39
        go_wp2
        go_ret
        exact ⟨rfl, rfl⟩
      · rw [show decide (MayR u r) = false from decide_eq_false (by unfold MayR; omega)]
        clear hu
        go_enter Tryd.func39, Tryd.ntmps39
        go_wp2
        go_ret
        exact ⟨rfl, rfl⟩
    · rw [show decide (MayR u r) = false from decide_eq_false (by unfold MayR; omega)]
      clear hu
      go_enter Tryd.func39, Tryd.ntmps39
      go_wp2
      go_ret
      exact ⟨rfl, rfl⟩

set_option maxHeartbeats 1000000 in
theorem rcheck_in (o : Nat) (d n m imm : Int) (w : World) (ho : o < 19) :
    Calls Tryd.prog 21 #[.agg #[.int .i8 o, .int .i8 d, .int .i8 n, .int .i8 m, .int .i64 imm]] w fun e w' => e = .returned (.int .i64 (chkI o d n m imm)) ∧ Kp w w' := by
  have HO := Lib.hid ho; clear ho
  rcases hb0 : decide (MayR (uD o) d) with _ | _
  · rw [chk_no (fun g => of_decide_eq_false hb0 g.2.1)]
    have B0 := Lib.hid hb0; clear hb0
    go_enter Tryd.func21, Tryd.ntmps21
    go_wp2_with fail
    refine (has_in o _ HO.out).mono ?_; rintro e w1 ⟨rfl, rfl⟩
    go_wp2_with fail
    refine (register_is d (uD o) _ B0.out _).mono ?_; rintro e w2 ⟨rfl, rfl⟩
    go_wp2
    go_ret
    exact ⟨rfl, kpA _ _ _⟩
  rcases hb1 : decide (MayR (uN o) n) with _ | _
  · rw [chk_no (fun g => of_decide_eq_false hb1 g.2.2.1)]
    have B0 := Lib.hid hb0; clear hb0
    have B1 := Lib.hid hb1; clear hb1
    go_enter Tryd.func21, Tryd.ntmps21
    go_wp2_with fail
    refine (has_in o _ HO.out).mono ?_; rintro e w3 ⟨rfl, rfl⟩
    go_wp2_with fail
    refine (register_is d (uD o) _ B0.out _).mono ?_; rintro e w4 ⟨rfl, rfl⟩
    go_wp2_with fail
    refine (register_is n (uN o) _ B1.out _).mono ?_; rintro e w5 ⟨rfl, rfl⟩
    go_wp2
    go_ret
    exact ⟨rfl, kpA _ _ _⟩
  rcases hb2 : decide (MayR (uM o) m) with _ | _
  · rw [chk_no (fun g => of_decide_eq_false hb2 g.2.2.2)]
    have B0 := Lib.hid hb0; clear hb0
    have B1 := Lib.hid hb1; clear hb1
    have B2 := Lib.hid hb2; clear hb2
    go_enter Tryd.func21, Tryd.ntmps21
    go_wp2_with fail
    refine (has_in o _ HO.out).mono ?_; rintro e w6 ⟨rfl, rfl⟩
    go_wp2_with fail
    refine (register_is d (uD o) _ B0.out _).mono ?_; rintro e w7 ⟨rfl, rfl⟩
    go_wp2_with fail
    refine (register_is n (uN o) _ B1.out _).mono ?_; rintro e w8 ⟨rfl, rfl⟩
    go_wp2_with fail
    refine (register_is m (uM o) _ B2.out _).mono ?_; rintro e w9 ⟨rfl, rfl⟩
    go_wp2
    go_ret
    exact ⟨rfl, kpA _ _ _⟩
  by_cases hlo : imm < loI o
  · rw [chk_no (by intro g; have := g.1; omega)]
    have B0 := Lib.hid hb0; clear hb0
    have B1 := Lib.hid hb1; clear hb1
    have B2 := Lib.hid hb2; clear hb2
    go_enter Tryd.func21, Tryd.ntmps21
    go_wp2_with fail
    refine (has_in o _ HO.out).mono ?_; rintro e w10 ⟨rfl, rfl⟩
    go_wp2_with fail
    refine (register_is d (uD o) _ B0.out _).mono ?_; rintro e w11 ⟨rfl, rfl⟩
    go_wp2_with fail
    refine (register_is n (uN o) _ B1.out _).mono ?_; rintro e w12 ⟨rfl, rfl⟩
    go_wp2_with fail
    refine (register_is m (uM o) _ B2.out _).mono ?_; rintro e w13 ⟨rfl, rfl⟩
    go_wp2
    go_ret
    exact ⟨rfl, kpA _ _ _⟩
  by_cases hhi : hiI o < imm
  · rw [chk_no (by intro g; have := g.1; omega)]
    have B0 := Lib.hid hb0; clear hb0
    have B1 := Lib.hid hb1; clear hb1
    have B2 := Lib.hid hb2; clear hb2
    go_enter Tryd.func21, Tryd.ntmps21
    go_wp2_with fail
    refine (has_in o _ HO.out).mono ?_; rintro e w14 ⟨rfl, rfl⟩
    go_wp2_with fail
    refine (register_is d (uD o) _ B0.out _).mono ?_; rintro e w15 ⟨rfl, rfl⟩
    go_wp2_with fail
    refine (register_is n (uN o) _ B1.out _).mono ?_; rintro e w16 ⟨rfl, rfl⟩
    go_wp2_with fail
    refine (register_is m (uM o) _ B2.out _).mono ?_; rintro e w17 ⟨rfl, rfl⟩
    go_wp2
    go_ret
    exact ⟨rfl, kpA _ _ _⟩
  · rw [chk_yes ⟨⟨by omega, by omega⟩, of_decide_eq_true hb0, of_decide_eq_true hb1, of_decide_eq_true hb2⟩]
    have B0 := Lib.hid hb0; clear hb0
    have B1 := Lib.hid hb1; clear hb1
    have B2 := Lib.hid hb2; clear hb2
    go_enter Tryd.func21, Tryd.ntmps21
    go_wp2_with fail
    refine (has_in o _ HO.out).mono ?_; rintro e w18 ⟨rfl, rfl⟩
    go_wp2_with fail
    refine (register_is d (uD o) _ B0.out _).mono ?_; rintro e w19 ⟨rfl, rfl⟩
    go_wp2_with fail
    refine (register_is n (uN o) _ B1.out _).mono ?_; rintro e w20 ⟨rfl, rfl⟩
    go_wp2_with fail
    refine (register_is m (uM o) _ B2.out _).mono ?_; rintro e w21 ⟨rfl, rfl⟩
    go_wp2
    go_ret
    exact ⟨rfl, kpA _ _ _⟩
theorem rcheck_any (op d n m imm : Int) (w : World) :
    Calls Tryd.prog 21 #[.agg #[.int .i8 op, .int .i8 d, .int .i8 n, .int .i8 m, .int .i64 imm]] w fun e w' => e = .returned (.int .i64 (chkA op d n m imm)) ∧ Kp w w' := by
  by_cases h : 0 ≤ op ∧ op < 19
  · obtain ⟨o, rfl⟩ := Int.eq_ofNat_of_zero_le h.1
    have e : chkA o d n m imm = chkI o d n m imm := by
      unfold chkA chkI InsA
      have : InsOk (o : Int).toNat d n m imm = InsOk o d n m imm := by rw [Int.toNat_natCast]
      simp only [this, h.1, h.2, true_and]
    rw [e]
    exact rcheck_in o d n m imm w (by omega)
  · rw [chkA_no (fun g => h ⟨g.1, g.2.1⟩)]
    have H : Hid (op < 0 ∨ 19 ≤ op) := Lib.hid (by omega)
    clear h
    go_enter Tryd.func21, Tryd.ntmps21
    go_wp2_with fail
    refine (has_out op _ H.out).mono ?_; rintro e w1 ⟨rfl, rfl⟩
    go_wp2
    go_ret
    exact ⟨rfl, kpA _ _ _⟩
theorem rcheck_ok (op d n m imm : Int) (w : World) (h : InsA op d n m imm) :
    Calls Tryd.prog 21 #[.agg #[.int .i8 op, .int .i8 d, .int .i8 n, .int .i8 m, .int .i64 imm]] w fun e w' => e = .returned (.int .i64 0) ∧ Kp w w' := chkA_yes h ▸ rcheck_any op d n m imm w
theorem rcheck_bad (op d n m imm : Int) (w : World) (h : ¬ InsA op d n m imm) :
    Calls Tryd.prog 21 #[.agg #[.int .i8 op, .int .i8 d, .int .i8 n, .int .i8 m, .int .i64 imm]] w fun e w' => e = .returned (.int .i64 60) ∧ Kp w w' := chkA_no h ▸ rcheck_any op d n m imm w
end Go.Proofs.YtfbkppncaampdaaDoor
