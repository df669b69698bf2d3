/-
  The contracts of package syndrome's Check and the document's Check, for every syndrome. No condition.
-/
import Derived.Test.YtjglobnjmahpaaaDoorRows
import Derived.Test.YtjglobnjmahpaaaDoorBlk
import Derived.Test.YtjglobnjmahpaaaDoorIdx
import Derived.BigQuiet
namespace Go.Proofs.YtjglobnjmahpaaaDoor
open Go Go.RowKit

/-! What they come to. -/
def FOk (f l : Int) : Prop := (f = 1 ∧ 0 ≤ l ∧ l ≤ 3) ∨ (f = 2 ∧ l = 3) ∨ (f = 3 ∧ l = 0)
instance (f l : Int) : Decidable (FOk f l) := by unfold FOk; infer_instance
def Plain (st : Bool) (f l va : Int) : Prop := st = false ∧ f = 0 ∧ l = 0 ∧ va = 0
instance (st : Bool) (f l va : Int) : Decidable (Plain st f l va) := by unfold Plain; infer_instance
def SOk (c : Int) (st : Bool) (f l va : Int) : Prop := (c = 2 ∧ FOk f l) ∨ ((c = 0 ∨ c = 1 ∨ c = 3 ∨ c = 4) ∧ Plain st f l va)
instance (c : Int) (st : Bool) (f l va : Int) : Decidable (SOk c st f l va) := by unfold SOk; infer_instance
def chkE (c : Int) (st : Bool) (f l va : Int) : Int := if SOk c st f l va then 0 else 2
theorem chk_yes {c : Int} {st : Bool} {f l va : Int} (h : SOk c st f l va) : chkE c st f l va = 0 := if_pos h
theorem chk_no {c : Int} {st : Bool} {f l va : Int} (h : ¬ SOk c st f l va) : chkE c st f l va = 2 := if_neg h

theorem may_yes (f l : Int) (w : World) (h : FOk f l) :
    Calls Tryd.prog 16 #[.int .i8 f, .int .i8 l] w fun e w' => e = .returned (.bool true) ∧ w = w' := by
  rcases h with ⟨rfl, h0, h1⟩ | ⟨rfl, rfl⟩ | ⟨rfl, rfl⟩
  all_goals
    go_enter Tryd.func16, Tryd.ntmps16
    go_wp2
    go_ret
    exact ⟨rfl, rfl⟩
theorem may_no (f l : Int) (w : World) (h : ¬ FOk f l) :
    Calls Tryd.prog 16 #[.int .i8 f, .int .i8 l] w fun e w' => e = .returned (.bool false) ∧ w = w' := by
  by_cases a : f = 1
  · subst a
    by_cases b : 0 ≤ l
    · have b' : ¬ l ≤ 3 := by unfold FOk at h; omega
      clear h
      go_enter Tryd.func16, Tryd.ntmps16
      go_wp2
      go_ret
      exact ⟨rfl, rfl⟩
    · clear h
      go_enter Tryd.func16, Tryd.ntmps16
      go_wp2
      go_ret
      exact ⟨rfl, rfl⟩
  · by_cases b : f = 2
    · subst b
      have b' : ¬ l = 3 := by unfold FOk at h; omega
      clear h a
      go_enter Tryd.func16, Tryd.ntmps16
      go_wp2
      go_ret
      exact ⟨ret_bool (by simp [b']), rfl⟩
    · by_cases c : f = 3
      · subst c
        have b' : ¬ l = 0 := by unfold FOk at h; omega
        clear h a b
        go_enter Tryd.func16, Tryd.ntmps16
        go_wp2
        go_ret
        exact ⟨ret_bool (by simp [b']), rfl⟩
      · clear h
        go_enter Tryd.func16, Tryd.ntmps16
        go_wp2
        go_ret
        exact ⟨rfl, rfl⟩

theorem kpA (w : World) (c : Array Value) (t : TypeId) : Kp w (w.alloc (.cells c t)) := (Kp.refl w).alloc c t
theorem check_out (c : Int) (st : Bool) (f l va : Int) (w : World) (h : c < 0 ∨ (4 < c ∧ c < 128)) :
    Calls Tryd.prog 8 #[.agg #[.int .i8 c, .bool st, .int .i8 f, .int .i8 l, .int .u64 va]] w fun e w' => e = .returned (.int .i64 (chkE c st f l va)) ∧ Kp w w' := by
  rw [chk_no (by intro g; unfold SOk at g; omega)]
  rcases h with h | ⟨h, h'⟩
  · go_enter Tryd.func8, Tryd.ntmps8
    go_wp2
    go_ret
    exact ⟨rfl, kpA _ _ _⟩
  · go_enter Tryd.func8, Tryd.ntmps8
    go_wp2
    go_ret
    exact ⟨rfl, kpA _ _ _⟩
theorem check_data (st : Bool) (f l va : Int) (w : World) :
    Calls Tryd.prog 8 #[.agg #[.int .i8 2, .bool st, .int .i8 f, .int .i8 l, .int .u64 va]] w fun e w' => e = .returned (.int .i64 (chkE 2 st f l va)) ∧ Kp w w' := by
  by_cases h : FOk f l
  · rw [chk_yes (.inl ⟨rfl, h⟩)]
    have H := Lib.hid h; clear h
    go_enter Tryd.func8, Tryd.ntmps8
    go_wp2_with fail
    refine (may_yes f l _ H.out).mono ?_; rintro e w1 ⟨rfl, rfl⟩
    go_wp2
    go_ret
    exact ⟨rfl, kpA _ _ _⟩
  · rw [chk_no (by intro g; unfold SOk at g; rcases g with g | g; exact h g.2; omega)]
    have H := Lib.hid h; clear h
    go_enter Tryd.func8, Tryd.ntmps8
    go_wp2_with fail
    refine (may_no f l _ H.out).mono ?_; rintro e w1 ⟨rfl, rfl⟩
    go_wp2
    go_ret
    exact ⟨rfl, kpA _ _ _⟩
theorem check_plain (c : Int) (st : Bool) (f l va : Int) (w : World) (hc : c = 0 ∨ c = 1 ∨ c = 3 ∨ c = 4) :
    Calls Tryd.prog 8 #[.agg #[.int .i8 c, .bool st, .int .i8 f, .int .i8 l, .int .u64 va]] w fun e w' => e = .returned (.int .i64 (chkE c st f l va)) ∧ Kp w w' := by
  by_cases h : Plain st f l va
  · rw [chk_yes (.inr ⟨hc, h⟩)]
    obtain ⟨rfl, rfl, rfl, rfl⟩ := h
    rcases hc with rfl | rfl | rfl | rfl
    all_goals
      go_enter Tryd.func8, Tryd.ntmps8
      go_wp2
      go_ret
      exact ⟨rfl, kpA _ _ _⟩
  · rw [chk_no (by intro g; unfold SOk at g; rcases g with g | g; omega; exact h g.2)]
    have H := Lib.hid h; clear h
    rcases hc with rfl | rfl | rfl | rfl
    all_goals
      go_enter Tryd.func8, Tryd.ntmps8
      go_wp2
      all_goals first | (go_ret; exact ⟨rfl, kpA _ _ _⟩) | (exfalso; exact H.out ⟨by simp_all, by assumption, by assumption, by assumption⟩)
theorem check_any (c : Int) (st : Bool) (f l va : Int) (w : World) (wc : (Lit.int .i8 c).wf = true) :
    Calls Tryd.prog 8 #[.agg #[.int .i8 c, .bool st, .int .i8 f, .int .i8 l, .int .u64 va]] w fun e w' => e = .returned (.int .i64 (chkE c st f l va)) ∧ Kp w w' := by
  have hc : -128 ≤ c ∧ c < 128 := by
    simp [Lit.wf, IntKind.min, IntKind.max, IntKind.bits, IntKind.signed] at wc
    omega
  by_cases h : c < 0 ∨ 4 < c
  · exact check_out c st f l va w (by omega)
  · by_cases h2 : c = 2
    · subst h2; exact check_data st f l va w
    · exact check_plain c st f l va w (by omega)
end Go.Proofs.YtjglobnjmahpaaaDoor
