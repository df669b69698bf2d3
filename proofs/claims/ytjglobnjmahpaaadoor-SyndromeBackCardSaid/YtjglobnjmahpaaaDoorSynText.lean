/-
  The contract of package syndrome's Text, for every syndrome, where the library's table holds what its text lays. No condition.
-/
import Derived.Test.YtjglobnjmahpaaaDoorFmt
import Derived.Laws.Concat
namespace Go.Proofs.YtjglobnjmahpaaaDoor
open Go Go.RowKit

/-! What it comes to. -/
def accL (st : Bool) : List UInt8 := if st then [115, 116, 111, 114, 101] else [108, 111, 97, 100]
def fltL (f l : Int) : List UInt8 := if f = 1 then [116, 114, 97, 110, 115] ++ hexL l.toNat else if f = 2 then [112, 101, 114, 109] else [97, 108, 105, 103, 110]
def clsT (c : Int) : List UInt8 := if c = 1 then [99, 97, 108, 108] else if c = 3 then [105, 110, 115, 116, 114] else if c = 4 then [116, 105, 99, 107] else [110, 111, 110, 101]
def txtL (c : Int) (st : Bool) (f l : Int) (va : Int) : List UInt8 :=
  if SOk c st f l va then (if c = 2 then accL st ++ ([32] ++ (fltL f l ++ ([32] ++ hexL va.toNat))) else clsT c) else [63]
theorem access_any (c : Int) (st : Bool) (f l va : Int) (w : World) :
    Calls Tryd.prog 17 #[.agg #[.int .i8 c, .bool st, .int .i8 f, .int .i8 l, .int .u64 va]] w fun e w' => e = .returned (.string (strB (accL st))) ∧ Kp w w' := by
  cases st
  all_goals
    go_enter Tryd.func17, Tryd.ntmps17
    go_wp2
    go_ret
    exact ⟨rfl, kpA _ _ _⟩
theorem fault_any (c : Int) (st : Bool) (f l va : Int) (w : World) (h : FOk f l) :
    Calls Tryd.prog 18 #[.agg #[.int .i8 c, .bool st, .int .i8 f, .int .i8 l, .int .u64 va]] w fun e w' => e = .returned (.string (strB (fltL f l))) ∧ Kp w w' := by
  rcases h with ⟨rfl, h0, h1⟩ | ⟨rfl, rfl⟩ | ⟨rfl, rfl⟩
  · obtain ⟨n, rfl⟩ := Int.eq_ofNat_of_zero_le h0
    have HL : Hid (n ≤ 3) := Lib.hid (by omega)
    go_enter Tryd.func18, Tryd.ntmps18
    go_wp2_with fail
    refine (itoa_any _ _ HL.out).mono ?_; rintro e w1 ⟨rfl, rfl⟩
    go_wp2
    · exfalso
      have h2 : (hexL n).length = 1 := by rw [hexL_low (by have := HL.out; omega)]; rfl
      exact no_over [116, 114, 97, 110, 115] (hexL n) (by rw [h2]; decide) (by assumption)
    · go_ret
      exact ⟨ret_str (strB_append [116, 114, 97, 110, 115] _), kpA _ _ _⟩
  all_goals
    go_enter Tryd.func18, Tryd.ntmps18
    go_wp2
    go_ret
    exact ⟨rfl, kpA _ _ _⟩
theorem txt_no {c : Int} {st : Bool} {f l va : Int} (h : ¬ SOk c st f l va) : txtL c st f l va = [63] := if_neg h
theorem txt_plain {c : Int} {st : Bool} {f l va : Int} (h : SOk c st f l va) (hc : c ≠ 2) : txtL c st f l va = clsT c := (if_pos h).trans (if_neg hc)
theorem txt_data {st : Bool} {f l va : Int} (h : SOk 2 st f l va) : txtL 2 st f l va = accL st ++ ([32] ++ (fltL f l ++ ([32] ++ hexL va.toNat))) := (if_pos h).trans (if_pos rfl)
theorem text_no (c : Int) (st : Bool) (f l va : Int) (w : World) (wc : (Lit.int .i8 c).wf = true) (h : ¬ SOk c st f l va) :
    Calls Tryd.prog 10 #[.agg #[.int .i8 c, .bool st, .int .i8 f, .int .i8 l, .int .u64 va]] w fun e w' => e = .returned (.string (strB (txtL c st f l va))) ∧ Kp w w' := by
  rw [txt_no h]
  have HC := Lib.hid (chk_no h)
  have WC := Lib.hid wc
  clear h wc
  go_enter Tryd.func10, Tryd.ntmps10
  go_wp2_with fail
  refine (check_any _ st f l va _ WC.out).mono ?_; rintro e w1 ⟨rfl, hg⟩
  have H1 := Lib.hid hg; clear hg
  rw [HC.out]
  go_wp2_with fail
  go_ret
  exact ⟨rfl, (by (repeat (first | apply Kp.drew | apply Kp.alloc)); refine Kp.trans ?_ H1.out; (repeat (first | apply Kp.drew | apply Kp.alloc)); exact Kp.refl _)⟩
theorem text_plain (c : Int) (w : World) (hc : c = 0 ∨ c = 1 ∨ c = 3 ∨ c = 4) (h : SOk c false 0 0 0) :
    Calls Tryd.prog 10 #[.agg #[.int .i8 c, .bool false, .int .i8 0, .int .i8 0, .int .u64 0]] w fun e w' => e = .returned (.string (strB (txtL c false 0 0 0))) ∧ Kp w w' := by
  rw [txt_plain h (by omega)]
  have HC := Lib.hid (chk_yes h)
  clear h
  rcases hc with rfl | rfl | rfl | rfl
  all_goals
    go_enter Tryd.func10, Tryd.ntmps10
    go_wp2_with fail
    refine (check_any _ false 0 0 0 _ (by decide)).mono ?_; rintro e w1 ⟨rfl, hg⟩
    rw [HC.out]
    have z0 := ((Blk.new w _ 25).kp hg).cell 0
    simp at z0
    have H1 := Lib.hid ((kpA w _ _).trans hg); clear hg
    go_wp2_with fail
    go_ret
    exact ⟨rfl, H1.out⟩
theorem fltL_len (f l : Int) (h : FOk f l) : (fltL f l).length ≤ 6 := by
  rcases h with ⟨rfl, h0, h1⟩ | ⟨rfl, rfl⟩ | ⟨rfl, rfl⟩
  · obtain ⟨n, rfl⟩ := Int.eq_ofNat_of_zero_le h0
    show ([116, 114, 97, 110, 115] ++ hexL n).length ≤ 6
    rw [hexL_low (by omega)]; simp
  · decide
  · decide
theorem accL_len (st : Bool) : (accL st).length ≤ 5 := by cases st <;> decide
theorem add_any (a b : List UInt8) (h : a.length + b.length ≤ 1000) : ∃ s : ByteArray, s = strB (a ++ b) ∧ ∀ w, (Op.stringOp .add (strB a) (strB b)).run Tryd.prog w = .ok (.string s) w := by
  refine ⟨_, rfl, fun w => ?_⟩
  rw [run_string_add_sum w _ _ (by rw [strB_size, strB_size]; omega), strB_append]
set_option maxHeartbeats 2000000 in
theorem text_data (st : Bool) (f l : Int) (n : Nat) (w : World) (hT : TabsOk w) (hB : Bru w) (hn : n < 18446744073709551616) (h : SOk 2 st f l n) :
    Calls Tryd.prog 10 #[.agg #[.int .i8 2, .bool st, .int .i8 f, .int .i8 l, .int .u64 n]] w fun e w' => e = .returned (.string (strB (txtL 2 st f l n))) ∧ Kp w w' := by
  rw [txt_data h]
  have HC := Lib.hid (chk_yes h)
  have HF : Hid (FOk f l) := Lib.hid (by rcases h with h | ⟨h, -⟩; exact h.2; omega)
  have HT := Lib.hid hT
  have HB := Lib.hid hB
  have HN := Lib.hid hn
  clear h hT hB hn
  go_enter Tryd.func10, Tryd.ntmps10
  go_wp2_with fail
  refine (check_any _ st f l n _ (by decide)).mono ?_; rintro e w1 ⟨rfl, hg⟩
  rw [HC.out]
  have hS : SynAt w w1 2 st f l n := ((synAt_new w 2 st f l n HT.out).kp hg)
  have HS := Lib.hid hS
  obtain ⟨z0, z1, z2, z3, z4, -⟩ := hS
  clear hg
  have hfl := fltL_len f l HF.out
  have hal := accL_len st
  have hxl := hexL_16 n HN.out
  obtain ⟨s1, e1, a1⟩ := add_any (accL st) [32] (by simp; omega)
  obtain ⟨s2, e2, a2⟩ := add_any (accL st ++ [32]) (fltL f l) (by simp; omega)
  obtain ⟨s3, e3, a3⟩ := add_any (accL st ++ [32] ++ fltL f l) [32] (by simp; omega)
  obtain ⟨s4, e4, a4⟩ := add_any (accL st ++ [32] ++ fltL f l ++ [32]) (hexL n) (by simp; omega)
  rw [← e1] at a2
  rw [← e2] at a3
  rw [← e3] at a4
  have E4 := Lib.hid e4
  clear hfl hal hxl e1 e2 e3 e4
  have a1 : ∀ w, (Op.stringOp .add (strB (accL st)) ⟨#[32]⟩).run Tryd.prog w = .ok (.string s1) w := a1
  have a3 : ∀ w, (Op.stringOp .add s2 ⟨#[32]⟩).run Tryd.prog w = .ok (.string s3) w := a3
  go_wp2_with fail
  go_region_held3 (fun w' => w'.cell? ⟨w.heap.size, 0, none⟩ = some (.int .i8 2) ∧ w'.cell? ⟨w.heap.size, 1, none⟩ = some (.bool st) ∧ w'.cell? ⟨w.heap.size, 2, none⟩ = some (.int .i8 f) ∧ w'.cell? ⟨w.heap.size, 3, none⟩ = some (.int .i8 l) ∧ w'.cell? ⟨w.heap.size, 4, none⟩ = some (.int .u64 n) ∧ TabsOk w' ∧ w.heap.size < w'.heap.size ∧ Kp w w')
      (first | exact HS.out.drew | assumption | exact SynAt.drew (by assumption))
      (first | (go_at_call 17; rename_i hh _ _; refine (access_any _ _ _ _ _ _).mono ?_; rintro e w' ⟨rfl, hg⟩; have hh' := SynAt.kp hh hg; clear hh hg) | (go_at_call 18; rename_i hh _ _; refine (fault_any _ _ _ _ _ _ HF.out).mono ?_; rintro e w' ⟨rfl, hg⟩; have hh' := SynAt.kp hh hg; clear hh hg) | (go_at_call 19; rename_i hh _ _; refine (fuint_any _ _ HN.out (HB.out.kp hh.2.2.2.2.2.2.2)).mono ?_; rintro e w' ⟨rfl, hg⟩; have hh' := SynAt.kp hh hg; clear hh hg))
  rename_i hh
  have HH := Lib.hid hh; clear hh
  go_wp2_with fail
  go_ret
  exact ⟨ret_str (by rw [E4.out, show Int.toNat (n : Int) = n from rfl]; simp), HH.out.2.2.2.2.2.2.2⟩
theorem text_any (c : Int) (st : Bool) (f l : Int) (n : Nat) (w : World) (hT : TabsOk w) (hB : Bru w) (hn : n < 18446744073709551616) (wc : (Lit.int .i8 c).wf = true) :
    Calls Tryd.prog 10 #[.agg #[.int .i8 c, .bool st, .int .i8 f, .int .i8 l, .int .u64 n]] w fun e w' => e = .returned (.string (strB (txtL c st f l n))) ∧ Kp w w' := by
  by_cases h : SOk c st f l n
  · have h' := h
    rcases h with ⟨rfl, hf⟩ | ⟨hc, rfl, rfl, rfl, h0⟩
    · exact text_data st f l n w hT hB hn h'
    · obtain rfl : n = 0 := by omega
      exact text_plain c w hc h'
  · exact text_no c st f l n w wc h
end Go.Proofs.YtjglobnjmahpaaaDoor
