/-
  The contract of the document's Check, for every syndrome. No condition.
-/
import Derived.Test.YtjglobnjmahpaaaDoorSynChk
namespace Go.Proofs.YtjglobnjmahpaaaDoor
open Go Go.RowKit

theorem rcheck_out (c : Int) (st : Bool) (f l va : Int) (w : World) (h : ¬ (c = 0 ∨ c = 1 ∨ c = 2 ∨ c = 3 ∨ c = 4)) :
    Calls Tryd.prog 9 #[.agg #[.int .i8 c, .bool st, .int .i8 f, .int .i8 l, .int .u64 va]] w fun e w' => e = .returned (.int .i64 (chkE c st f l va)) ∧ Kp w w' := by
  rw [chk_no (by intro g; unfold SOk at g; omega)]
  have h0 : (c == 0) = false := by simp; omega
  have h1 : (c == 1) = false := by simp; omega
  have h2 : (c == 2) = false := by simp; omega
  have h3 : (c == 3) = false := by simp; omega
  have h4 : (c == 4) = false := by simp; omega
  clear h
  go_enter Tryd.func9, Tryd.ntmps9
  go_wp2
  go_ret
  exact ⟨rfl, kpA _ _ _⟩
theorem rcheck_data (st : Bool) (f l va : Int) (w : World) :
    Calls Tryd.prog 9 #[.agg #[.int .i8 2, .bool st, .int .i8 f, .int .i8 l, .int .u64 va]] w fun e w' => e = .returned (.int .i64 (chkE 2 st f l va)) ∧ Kp w w' := by
  by_cases h : FOk f l
  · rw [chk_yes (.inl ⟨rfl, h⟩)]
    rcases h with ⟨rfl, h0, h1⟩ | ⟨rfl, rfl⟩ | ⟨rfl, rfl⟩
    all_goals
      go_enter Tryd.func9, Tryd.ntmps9
      go_wp2
      go_ret
      exact ⟨rfl, kpA _ _ _⟩
  · rw [chk_no (by intro g; unfold SOk at g; rcases g with g | g; exact h g.2; omega)]
    by_cases a : f = 1
    · subst a
      by_cases b : l < 0
      · clear h
        go_enter Tryd.func9, Tryd.ntmps9
        go_wp2
        go_ret
        exact ⟨rfl, kpA _ _ _⟩
      · have b' : 3 < l := by unfold FOk at h; omega
        clear h
        go_enter Tryd.func9, Tryd.ntmps9
        go_wp2
        go_ret
        exact ⟨rfl, kpA _ _ _⟩
    · by_cases b : f = 2
      · subst b
        have b' : (l == 3) = false := by unfold FOk at h; simp; omega
        clear h a
        go_enter Tryd.func9, Tryd.ntmps9
        go_wp2
        go_ret
        exact ⟨rfl, kpA _ _ _⟩
      · by_cases d : f = 3
        · subst d
          have b' : (l == 0) = false := by unfold FOk at h; simp; omega
          clear h a b
          go_enter Tryd.func9, Tryd.ntmps9
          go_wp2
          go_ret
          exact ⟨rfl, kpA _ _ _⟩
        · have a' : (f == 1) = false := by simp; omega
          have b' : (f == 2) = false := by simp; omega
          have d' : (f == 3) = false := by simp; omega
          clear h a b d
          go_enter Tryd.func9, Tryd.ntmps9
          go_wp2
          go_ret
          exact ⟨rfl, kpA _ _ _⟩
theorem rcheck_plain (c : Int) (st : Bool) (f l va : Int) (w : World) (hc : c = 0 ∨ c = 1 ∨ c = 3 ∨ c = 4) :
    Calls Tryd.prog 9 #[.agg #[.int .i8 c, .bool st, .int .i8 f, .int .i8 l, .int .u64 va]] w fun e w' => e = .returned (.int .i64 (chkE c st f l va)) ∧ Kp w w' := by
  by_cases h : Plain st f l va
  · rw [chk_yes (.inr ⟨hc, h⟩)]
    obtain ⟨rfl, rfl, rfl, rfl⟩ := h
    rcases hc with rfl | rfl | rfl | rfl
    all_goals
      go_enter Tryd.func9, Tryd.ntmps9
      go_wp2
      go_ret
      exact ⟨rfl, kpA _ _ _⟩
  · rw [chk_no (by intro g; unfold SOk at g; rcases g with g | g; omega; exact h g.2)]
    have H := Lib.hid h; clear h
    rcases hc with rfl | rfl | rfl | rfl
    all_goals
      go_enter Tryd.func9, Tryd.ntmps9
      go_wp2
      all_goals first | (go_ret; exact ⟨rfl, kpA _ _ _⟩) | (exfalso; exact H.out ⟨by simp_all, by assumption, by assumption, by assumption⟩)
theorem rcheck_any (c : Int) (st : Bool) (f l va : Int) (w : World) :
    Calls Tryd.prog 9 #[.agg #[.int .i8 c, .bool st, .int .i8 f, .int .i8 l, .int .u64 va]] w fun e w' => e = .returned (.int .i64 (chkE c st f l va)) ∧ Kp w w' := by
  by_cases h : c = 0 ∨ c = 1 ∨ c = 2 ∨ c = 3 ∨ c = 4
  · by_cases h2 : c = 2
    · subst h2; exact rcheck_data st f l va w
    · exact rcheck_plain c st f l va w (by omega)
  · exact rcheck_out c st f l va w h
end Go.Proofs.YtjglobnjmahpaaaDoor
