/-
  AddrPages, AddrIndices and AddrWords return true. No condition.
-/
import Derived.Test.YtnibapincdjaaaaWakes02
import Derived.Test.YtnibapincdjaaaaRef02
import Derived.Test.YtnibapincdjaaaaRef02From
namespace Go.Proofs.Ytnibapincdjaaaa
open Go Go.RowKit

theorem cells4 {w wr : World} {a b c d : Value} {t : TypeId} (h : Kp (w.alloc (.cells #[a, b, c, d] t)) wr) :
    wr.cell? ⟨w.heap.size, 0, none⟩ = some a ∧ wr.cell? ⟨w.heap.size, 1, none⟩ = some b ∧ wr.cell? ⟨w.heap.size, 2, none⟩ = some c ∧ wr.cell? ⟨w.heap.size, 3, none⟩ = some d := by
  refine ⟨?_, ?_, ?_, ?_⟩ <;> (rw [h.cell (by simp)]; simp)
theorem walkPages (a0 a1 a2 : Int) (w0 : (Lit.int .u64 a0).wf = true) (w1 : (Lit.int .u64 a1).wf = true) (w : World) :
    Calls Try.prog 3 #[.int .u64 a0, .int .u64 a1, .int .i64 a2] w fun e w' => e = .returned (.bool true) ∧ Kp w w' := by
  obtain ⟨x, rfl⟩ := word_of a0 w0
  obtain ⟨p, rfl⟩ := word_of a1 w1
  clear w0 w1
  go_enter Try.func3, Try.ntmps3
  go_wp2_with fail
  refine (va_any p a2 _).mono ?_; rintro e w1 ⟨rfl, rfl⟩
  go_wp2_with fail
  refine (rva_any p a2 _).mono ?_; rintro e w2 ⟨rfl, rfl⟩
  go_wp2_with fail
  refine (user_any x _).mono ?_; rintro e w3 ⟨rfl, hg⟩
  have H3 := Lib.hid hg; clear hg
  go_wp2_with fail
  refine (ruser_any x _).mono ?_; rintro e w4 ⟨rfl, rfl⟩
  go_wp2_with fail
  refine (align_any x _).mono ?_; rintro e w5 ⟨rfl, hg⟩
  have H5 := Lib.hid hg; clear hg
  go_wp2_with fail
  refine (ralign_any x _).mono ?_; rintro e w6 ⟨rfl, rfl⟩
  go_wp2_with fail
  refine (page_any x _).mono ?_; rintro e w7 ⟨rfl, hg⟩
  have H7 := Lib.hid hg; clear hg
  go_wp2_with fail
  refine (rpage_any x _).mono ?_; rintro e w8 ⟨rfl, rfl⟩
  go_wp2_with fail
  refine (place_any x _).mono ?_; rintro e w9 ⟨rfl, hg⟩
  have H9 := Lib.hid hg; clear hg
  go_wp2_with fail
  refine (rplace_any x _).mono ?_; rintro e w10 ⟨rfl, rfl⟩
  go_wp2_with fail
  refine (wakes_any _).mono ?_; rintro e w11 ⟨rfl, hg⟩
  have H11 := Lib.hid hg; clear hg
  go_wp2_with fail
  go_ret
  exact ⟨rfl, (by (repeat (first | apply Kp.drew | apply Kp.alloc)); refine Kp.trans ?_ H11.out; (repeat (first | apply Kp.drew | apply Kp.alloc)); refine Kp.trans ?_ H9.out; (repeat (first | apply Kp.drew | apply Kp.alloc)); refine Kp.trans ?_ H7.out; (repeat (first | apply Kp.drew | apply Kp.alloc)); refine Kp.trans ?_ H5.out; (repeat (first | apply Kp.drew | apply Kp.alloc)); refine Kp.trans ?_ H3.out; (repeat (first | apply Kp.drew | apply Kp.alloc)); exact Kp.refl _)⟩
theorem walkWords (a0 a1 a2 : Int) (w2 : (Lit.int .u64 a2).wf = true) (w : World) :
    Calls Try.prog 5 #[.int .i64 a0, .int .i64 a1, .int .u64 a2] w fun e w' => e = .returned (.bool true) ∧ Kp w w' := by
  obtain ⟨x, rfl⟩ := word_of a2 w2
  clear w2
  go_enter Try.func5, Try.ntmps5
  go_wp2_with fail
  refine (word_any a0 a1 _).mono ?_; rintro e w1 ⟨rfl, rfl⟩
  go_wp2_with fail
  refine (rword_any a0 a1 _).mono ?_; rintro e w2 ⟨rfl, rfl⟩
  go_wp2_with fail
  refine (split_any x _).mono ?_; rintro e w3 ⟨rfl, hg⟩
  have H3 := Lib.hid hg; clear hg
  go_wp2_with fail
  refine (rsplit_any x _).mono ?_; rintro e w4 ⟨rfl, rfl⟩
  go_wp2_with fail
  refine (wakes_any _).mono ?_; rintro e w5 ⟨rfl, hg⟩
  have H5 := Lib.hid hg; clear hg
  go_wp2_with fail
  go_ret
  exact ⟨rfl, (by (repeat (first | apply Kp.drew | apply Kp.alloc)); refine Kp.trans ?_ H5.out; (repeat (first | apply Kp.drew | apply Kp.alloc)); refine Kp.trans ?_ H3.out; (repeat (first | apply Kp.drew | apply Kp.alloc)); exact Kp.refl _)⟩
theorem walkIndices (a0 a1 a b c d : Int) (w0 : (Lit.int .u64 a0).wf = true) (ha : (Lit.int .i64 a).wf = true) (hb : (Lit.int .i64 b).wf = true) (hc : (Lit.int .i64 c).wf = true) (hd : (Lit.int .i64 d).wf = true) (w : World) :
    Calls Try.prog 4 #[.int .u64 a0, .int .i64 a1, .agg #[.int .i64 a, .int .i64 b, .int .i64 c, .int .i64 d]] w fun e w' => e = .returned (.bool true) ∧ Kp w w' := by
  obtain ⟨p, rfl⟩ := word_of a0 w0
  clear w0
  have HA := Lib.hid ha; clear ha
  have HB := Lib.hid hb; clear hb
  have HC := Lib.hid hc; clear hc
  have HD := Lib.hid hd; clear hd
  go_enter Try.func4, Try.ntmps4
  go_wp2_with fail
  refine (index_any p a1 _).mono ?_; rintro e w1 ⟨rfl, hg⟩
  have H1 := Lib.hid hg; clear hg
  go_wp2_with fail
  refine (rindex_any p a1 _).mono ?_; rintro e w2 ⟨rfl, rfl⟩
  go_wp2_with fail
  refine (prefix_any p a1 _).mono ?_; rintro e w3 ⟨rfl, hg⟩
  have H3 := Lib.hid hg; clear hg
  go_wp2_with fail
  refine (rprefix_any p a1 _).mono ?_; rintro e w4 ⟨rfl, rfl⟩
  have HK := Lib.hid (Kp.trans H1.out H3.out)
  obtain ⟨c0, c1, c2, c3⟩ := cells4 HK.out
  go_wp2_with fail
  refine (from_any a b c d _ HA.out HB.out HC.out HD.out).mono ?_; rintro e w5 ⟨rfl, hg⟩
  have H5 := Lib.hid hg; clear hg
  clear c0 c1 c2 c3
  obtain ⟨c0, c1, c2, c3⟩ := cells4 (Kp.trans HK.out H5.out)
  go_wp2_with fail
  refine (rfrom_any a b c d _).mono ?_; rintro e w6 ⟨rfl, hg⟩
  have H6 := Lib.hid hg; clear hg
  clear c0 c1 c2 c3
  go_wp2_with fail
  refine (wakes_any _).mono ?_; rintro e w7 ⟨rfl, hg⟩
  have H7 := Lib.hid hg; clear hg
  go_wp2_with fail
  go_ret
  exact ⟨rfl, (by (repeat (first | apply Kp.drew | apply Kp.alloc)); refine Kp.trans ?_ H7.out; (repeat (first | apply Kp.drew | apply Kp.alloc)); refine Kp.trans ?_ H6.out; (repeat (first | apply Kp.drew | apply Kp.alloc)); refine Kp.trans ?_ H5.out; (repeat (first | apply Kp.drew | apply Kp.alloc)); refine Kp.trans ?_ H3.out; (repeat (first | apply Kp.drew | apply Kp.alloc)); refine Kp.trans ?_ H1.out; (repeat (first | apply Kp.drew | apply Kp.alloc)); exact Kp.refl _)⟩
end Go.Proofs.Ytnibapincdjaaaa
