/-
  A buffer's functions, as the document writes them (tenement/tenementref09): which entries may be, which touch. No condition.
-/
import Derived.Test.YtgjjbgijdgihcaaDoorBuf09
import Derived.Test.YtgjjbgijdgihcaaDoorRows
import Derived.Tactics
import Derived.Tactics2
import Derived.Laws.Tables
import Derived.Deep.DeepCutAuto
import Derived.Deep.OwnRows
import Derived.Deep.RegionHeld3
namespace Go.Proofs.YtgjjbgijdgihcaaDoor
open Go Go.RowKit

theorem rmay_0 (e : Ent) (w : World) (hk : e.k = 0) :
    Calls Tryd.prog 25 #[.agg (Ent.arr e)] w fun r w' => r = .returned (.bool (mayB e)) ∧ Kp w w' := by
  have hm : mayB e = (decide ((e.w : Int) < 1099511627776) && (e.fr == 0) && (e.fm == 0)) := by
    unfold mayB
    rw [if_pos hk]
  have d0 : (e.k == 0) = true := by simp [hk]
  unfold Ent.arr
  cases hw : decide ((e.w : Int) < 1099511627776) with
  | false =>
    rw [show mayB e = false by rw [hm, hw]; rfl]
    clear hm
    go_enter Tryd.func25, Tryd.ntmps25
    go_wp2
    go_ret
    exact ⟨rfl, (Kp.refl w).alloc _ _⟩
  | true =>
    cases hfr : (e.fr == 0) with
    | false =>
      rw [show mayB e = false by rw [hm, hw, hfr]; rfl]
      clear hm
      go_enter Tryd.func25, Tryd.ntmps25
      go_wp2
      go_ret
      exact ⟨rfl, (Kp.refl w).alloc _ _⟩
    | true =>
      cases hfm : (e.fm == 0) with
      | false =>
        rw [show mayB e = false by rw [hm, hw, hfr, hfm]; rfl]
        clear hm
        go_enter Tryd.func25, Tryd.ntmps25
        go_wp2
        go_ret
        exact ⟨rfl, (Kp.refl w).alloc _ _⟩
      | true =>
        rw [show mayB e = true by rw [hm, hw, hfr, hfm]; rfl]
        clear hm
        go_enter Tryd.func25, Tryd.ntmps25
        go_wp2
        go_ret
        exact ⟨rfl, (Kp.refl w).alloc _ _⟩
theorem rmay_1 (e : Ent) (w : World) (hk : e.k = 1) :
    Calls Tryd.prog 25 #[.agg (Ent.arr e)] w fun r w' => r = .returned (.bool (mayB e)) ∧ Kp w w' := by
  have hm : mayB e = (((e.w : Int) == 0) && ((e.x : Int) == 0) && (e.fr == 0) && (e.fm == 0)) := by
    unfold mayB
    rw [if_neg (by omega)]; rw [if_pos hk]
  have d0 : (e.k == 0) = false := by simp; omega
  have d1 : (e.k == 1) = true := by simp [hk]
  unfold Ent.arr
  cases hw : ((e.w : Int) == 0) with
  | false =>
    rw [show mayB e = false by rw [hm, hw]; rfl]
    clear hm
    go_enter Tryd.func25, Tryd.ntmps25
    go_wp2
    go_ret
    exact ⟨rfl, (Kp.refl w).alloc _ _⟩
  | true =>
    cases hx : ((e.x : Int) == 0) with
    | false =>
      rw [show mayB e = false by rw [hm, hw, hx]; rfl]
      clear hm
      go_enter Tryd.func25, Tryd.ntmps25
      go_wp2
      go_ret
      exact ⟨rfl, (Kp.refl w).alloc _ _⟩
    | true =>
      cases hfr : (e.fr == 0) with
      | false =>
        rw [show mayB e = false by rw [hm, hw, hx, hfr]; rfl]
        clear hm
        go_enter Tryd.func25, Tryd.ntmps25
        go_wp2
        go_ret
        exact ⟨rfl, (Kp.refl w).alloc _ _⟩
      | true =>
        cases hfm : (e.fm == 0) with
        | false =>
          rw [show mayB e = false by rw [hm, hw, hx, hfr, hfm]; rfl]
          clear hm
          go_enter Tryd.func25, Tryd.ntmps25
          go_wp2
          go_ret
          exact ⟨rfl, (Kp.refl w).alloc _ _⟩
        | true =>
          rw [show mayB e = true by rw [hm, hw, hx, hfr, hfm]; rfl]
          clear hm
          go_enter Tryd.func25, Tryd.ntmps25
          go_wp2
          go_ret
          exact ⟨rfl, (Kp.refl w).alloc _ _⟩
theorem rmay_2 (e : Ent) (w : World) (hk : e.k = 2) :
    Calls Tryd.prog 25 #[.agg (Ent.arr e)] w fun r w' => r = .returned (.bool (mayB e)) ∧ Kp w w' := by
  have hm : mayB e = (((e.w : Int) == 0) && ((e.x : Int) == 0) && (e.fr == 0) && decide (0 ≤ e.fm) && decide (e.fm ≤ 1048576)) := by
    unfold mayB
    rw [if_neg (by omega)]; rw [if_neg (by omega)]; rw [if_pos hk]
  have d0 : (e.k == 0) = false := by simp; omega
  have d1 : (e.k == 1) = false := by simp; omega
  have d2 : (e.k == 2) = true := by simp [hk]
  unfold Ent.arr
  cases hw : ((e.w : Int) == 0) with
  | false =>
    rw [show mayB e = false by rw [hm, hw]; rfl]
    clear hm
    go_enter Tryd.func25, Tryd.ntmps25
    go_wp2
    go_ret
    exact ⟨rfl, (Kp.refl w).alloc _ _⟩
  | true =>
    cases hx : ((e.x : Int) == 0) with
    | false =>
      rw [show mayB e = false by rw [hm, hw, hx]; rfl]
      clear hm
      go_enter Tryd.func25, Tryd.ntmps25
      go_wp2
      go_ret
      exact ⟨rfl, (Kp.refl w).alloc _ _⟩
    | true =>
      cases hfr : (e.fr == 0) with
      | false =>
        rw [show mayB e = false by rw [hm, hw, hx, hfr]; rfl]
        clear hm
        go_enter Tryd.func25, Tryd.ntmps25
        go_wp2
        go_ret
        exact ⟨rfl, (Kp.refl w).alloc _ _⟩
      | true =>
        cases ha : decide (0 ≤ e.fm) with
        | false =>
          rw [show mayB e = false by rw [hm, hw, hx, hfr, ha]; rfl]
          clear hm
          go_enter Tryd.func25, Tryd.ntmps25
          go_wp2
          go_ret
          exact ⟨rfl, (Kp.refl w).alloc _ _⟩
        | true =>
          cases hb : decide (e.fm ≤ 1048576) with
          | false =>
            rw [show mayB e = false by rw [hm, hw, hx, hfr, ha, hb]; rfl]
            clear hm
            go_enter Tryd.func25, Tryd.ntmps25
            go_wp2
            go_ret
            exact ⟨rfl, (Kp.refl w).alloc _ _⟩
          | true =>
            rw [show mayB e = true by rw [hm, hw, hx, hfr, ha, hb]; rfl]
            clear hm
            go_enter Tryd.func25, Tryd.ntmps25
            go_wp2
            go_ret
            exact ⟨rfl, (Kp.refl w).alloc _ _⟩
theorem rmay_3 (e : Ent) (w : World) (hk : e.k = 3) :
    Calls Tryd.prog 25 #[.agg (Ent.arr e)] w fun r w' => r = .returned (.bool (mayB e)) ∧ Kp w w' := by
  have hm : mayB e = (((e.w : Int) == 0) && ((e.x : Int) == 0) && decide (0 ≤ e.fr) && decide (e.fr ≤ 1048576) && decide (0 ≤ e.fm) && decide (e.fm ≤ 1048576)) := by
    unfold mayB
    rw [if_neg (by omega)]; rw [if_neg (by omega)]; rw [if_neg (by omega)]; rw [if_pos hk]
  have d0 : (e.k == 0) = false := by simp; omega
  have d1 : (e.k == 1) = false := by simp; omega
  have d2 : (e.k == 2) = false := by simp; omega
  have d3 : (e.k == 3) = true := by simp [hk]
  unfold Ent.arr
  cases hw : ((e.w : Int) == 0) with
  | false =>
    rw [show mayB e = false by rw [hm, hw]; rfl]
    clear hm
    go_enter Tryd.func25, Tryd.ntmps25
    go_wp2
    go_ret
    exact ⟨rfl, (Kp.refl w).alloc _ _⟩
  | true =>
    cases hx : ((e.x : Int) == 0) with
    | false =>
      rw [show mayB e = false by rw [hm, hw, hx]; rfl]
      clear hm
      go_enter Tryd.func25, Tryd.ntmps25
      go_wp2
      go_ret
      exact ⟨rfl, (Kp.refl w).alloc _ _⟩
    | true =>
      cases hc : decide (0 ≤ e.fr) with
      | false =>
        rw [show mayB e = false by rw [hm, hw, hx, hc]; rfl]
        clear hm
        go_enter Tryd.func25, Tryd.ntmps25
        go_wp2
        go_ret
        exact ⟨rfl, (Kp.refl w).alloc _ _⟩
      | true =>
        cases hd : decide (e.fr ≤ 1048576) with
        | false =>
          rw [show mayB e = false by rw [hm, hw, hx, hc, hd]; rfl]
          clear hm
          go_enter Tryd.func25, Tryd.ntmps25
          go_wp2
          go_ret
          exact ⟨rfl, (Kp.refl w).alloc _ _⟩
        | true =>
          cases ha : decide (0 ≤ e.fm) with
          | false =>
            rw [show mayB e = false by rw [hm, hw, hx, hc, hd, ha]; rfl]
            clear hm
            go_enter Tryd.func25, Tryd.ntmps25
            go_wp2
            go_ret
            exact ⟨rfl, (Kp.refl w).alloc _ _⟩
          | true =>
            cases hb : decide (e.fm ≤ 1048576) with
            | false =>
              rw [show mayB e = false by rw [hm, hw, hx, hc, hd, ha, hb]; rfl]
              clear hm
              go_enter Tryd.func25, Tryd.ntmps25
              go_wp2
              go_ret
              exact ⟨rfl, (Kp.refl w).alloc _ _⟩
            | true =>
              rw [show mayB e = true by rw [hm, hw, hx, hc, hd, ha, hb]; rfl]
              clear hm
              go_enter Tryd.func25, Tryd.ntmps25
              go_wp2
              go_ret
              exact ⟨rfl, (Kp.refl w).alloc _ _⟩
theorem rmay_x (e : Ent) (w : World) (h0 : e.k ≠ 0) (h1 : e.k ≠ 1) (h2 : e.k ≠ 2) (h3 : e.k ≠ 3) :
    Calls Tryd.prog 25 #[.agg (Ent.arr e)] w fun r w' => r = .returned (.bool (mayB e)) ∧ Kp w w' := by
  rw [show mayB e = false by unfold mayB; rw [if_neg h0, if_neg h1, if_neg h2, if_neg h3]]
  have d0 : (e.k == 0) = false := by simp [h0]
  have d1 : (e.k == 1) = false := by simp [h1]
  have d2 : (e.k == 2) = false := by simp [h2]
  have d3 : (e.k == 3) = false := by simp [h3]
  unfold Ent.arr
  go_enter Tryd.func25, Tryd.ntmps25
  go_wp2
  go_ret
  exact ⟨rfl, (Kp.refl w).alloc _ _⟩
theorem rmay_any (e : Ent) (w : World) : Calls Tryd.prog 25 #[.agg (Ent.arr e)] w fun r w' => r = .returned (.bool (mayB e)) ∧ Kp w w' := by
  by_cases h0 : e.k = 0
  · exact rmay_0 e w h0
  by_cases h1 : e.k = 1
  · exact rmay_1 e w h1
  by_cases h2 : e.k = 2
  · exact rmay_2 e w h2
  by_cases h3 : e.k = 3
  · exact rmay_3 e w h3
  exact rmay_x e w h0 h1 h2 h3
theorem rnames_0 (e : Ent) (g u : Nat) (all : Bool) (w : World) (hk : e.k = 0) (hw : e.w < 18446744073709551616) : Calls Tryd.prog 34 #[.agg (Ent.arr e), .int .u64 g, .int .u64 u, .bool all] w fun r w' => r = .returned (.bool (nmB e g u all)) ∧ Kp w w' := by
  have d0 : (e.k == 0) = true := by simp [hk]
  have hn : nmB e g u all = ((e.w / 512 == g) && (all || e.w == u)) := by unfold nmB; rw [if_pos hk]
  have e1 : IntKind.u64.wrap ((e.w : Int) / 512) = ((e.w / 512 : Nat) : Int) := by rw [show IntKind.u64.wrap ((e.w : Int) / 512) = ((e.w : Int) / 512) % 18446744073709551616 from IntKind.wrap_u64 _]; omega
  have e2 : (e.w : Int) / 512 = ((e.w / 512 : Nat) : Int) := by omega
  have e3 : IntKind.u64.wrap ((e.w / 512 : Nat) : Int) = ((e.w / 512 : Nat) : Int) := by rw [show IntKind.u64.wrap ((e.w / 512 : Nat) : Int) = ((e.w / 512 : Nat) : Int) % 18446744073709551616 from IntKind.wrap_u64 _]; omega
  clear hk hw
  unfold Ent.arr
  generalize e.w / 512 = q at *
  cases c1 : (q == g) with
  | false =>
    have c1' : ((q : Int) == (g : Int)) = false := by simp at c1 ⊢; omega
    rw [show nmB e g u all = false by rw [hn, c1]; rfl]
    clear hn c1
    go_enter Tryd.func34, Tryd.ntmps34
    go_wp2
    go_ret
    exact ⟨rfl, (Kp.refl w).alloc _ _⟩
  | true =>
    have c1' : ((q : Int) == (g : Int)) = true := by simp at c1 ⊢; omega
    cases all with
    | true =>
      rw [show nmB e g u true = true by rw [hn, c1]; rfl]
      clear hn c1
      go_enter Tryd.func34, Tryd.ntmps34
      go_wp2
      go_ret
      exact ⟨rfl, (Kp.refl w).alloc _ _⟩
    | false =>
      cases c2 : (e.w == u) with
      | false =>
        have c2' : ((e.w : Int) == (u : Int)) = false := by simp at c2 ⊢; omega
        rw [show nmB e g u false = false by rw [hn, c1, c2]; rfl]
        clear hn c1 c2
        go_enter Tryd.func34, Tryd.ntmps34
        go_wp2
        go_ret
        exact ⟨rfl, (Kp.refl w).alloc _ _⟩
      | true =>
        have c2' : ((e.w : Int) == (u : Int)) = true := by simp at c2 ⊢; omega
        rw [show nmB e g u false = true by rw [hn, c1, c2]; rfl]
        clear hn c1 c2
        go_enter Tryd.func34, Tryd.ntmps34
        go_wp2
        go_ret
        exact ⟨rfl, (Kp.refl w).alloc _ _⟩
theorem rnames_2 (e : Ent) (g u : Nat) (all : Bool) (w : World) (hk : e.k = 2) (hf : 0 ≤ e.fm ∧ e.fm < 18446744073709551616) : Calls Tryd.prog 34 #[.agg (Ent.arr e), .int .u64 g, .int .u64 u, .bool all] w fun r w' => r = .returned (.bool (nmB e g u all)) ∧ Kp w w' := by
  have d0 : (e.k == 0) = false := by simp; omega
  have d2 : (e.k == 2) = true := by simp [hk]
  have hn : nmB e g u all = (e.fm == (g : Int)) := by unfold nmB; rw [if_neg (by omega), if_pos hk]
  have e1 : IntKind.u64.wrap e.fm = e.fm := by rw [show IntKind.u64.wrap e.fm = e.fm % 18446744073709551616 from IntKind.wrap_u64 _]; omega
  clear hk hf
  unfold Ent.arr
  rw [hn]
  clear hn
  go_enter Tryd.func34, Tryd.ntmps34
  go_wp2
  go_ret
  exact ⟨rfl, (Kp.refl w).alloc _ _⟩
theorem rnames_3 (e : Ent) (g u : Nat) (all : Bool) (w : World) (hk : e.k = 3) (hf : 0 ≤ e.fm ∧ e.fm < 18446744073709551616) (hr : 0 ≤ e.fr ∧ e.fr < 18446744073709551616) : Calls Tryd.prog 34 #[.agg (Ent.arr e), .int .u64 g, .int .u64 u, .bool all] w fun r w' => r = .returned (.bool (nmB e g u all)) ∧ Kp w w' := by
  have d0 : (e.k == 0) = false := by simp; omega
  have d2 : (e.k == 2) = false := by simp; omega
  have d3 : (e.k == 3) = true := by simp [hk]
  have hn : nmB e g u all = ((e.fm == (g : Int)) || (e.fr == (g : Int))) := by unfold nmB; rw [if_neg (by omega), if_neg (by omega), if_pos hk]
  have e1 : IntKind.u64.wrap e.fm = e.fm := by rw [show IntKind.u64.wrap e.fm = e.fm % 18446744073709551616 from IntKind.wrap_u64 _]; omega
  have e2 : IntKind.u64.wrap e.fr = e.fr := by rw [show IntKind.u64.wrap e.fr = e.fr % 18446744073709551616 from IntKind.wrap_u64 _]; omega
  clear hk hf hr
  unfold Ent.arr
  rw [hn]
  clear hn
  cases c1 : (e.fm == (g : Int)) with
  | false =>
    rw [Bool.false_or]
    go_enter Tryd.func34, Tryd.ntmps34
    go_wp2
    go_ret
    exact ⟨rfl, (Kp.refl w).alloc _ _⟩
  | true =>
    rw [Bool.true_or]
    go_enter Tryd.func34, Tryd.ntmps34
    go_wp2
    go_ret
    exact ⟨rfl, (Kp.refl w).alloc _ _⟩
theorem rnames_1 (e : Ent) (g u : Nat) (all : Bool) (w : World) (hk : e.k = 1) : Calls Tryd.prog 34 #[.agg (Ent.arr e), .int .u64 g, .int .u64 u, .bool all] w fun r w' => r = .returned (.bool (nmB e g u all)) ∧ Kp w w' := by
  have d0 : (e.k == 0) = false := by simp; omega
  have d2 : (e.k == 2) = false := by simp; omega
  have d3 : (e.k == 3) = false := by simp; omega
  have hn : nmB e g u all = false := by unfold nmB; rw [if_neg (by omega), if_neg (by omega), if_neg (by omega)]
  clear hk
  unfold Ent.arr
  rw [hn]
  clear hn
  go_enter Tryd.func34, Tryd.ntmps34
  go_wp2
  go_ret
  exact ⟨rfl, (Kp.refl w).alloc _ _⟩
set_option maxHeartbeats 2000000 in
theorem rtouch_no (a b : Ent) (w : World) (h : (mayB a && mayB b) = false) : Calls Tryd.prog 20 #[.agg (Ent.arr a), .agg (Ent.arr b)] w fun r w' => r = .returned (.bool (tchB a b)) ∧ Kp w w' := by
  rw [show tchB a b = false by unfold tchB; rw [h]; exact if_neg Bool.false_ne_true]
  have HA := Lib.hid (((Blk.new w (Ent.arr a) 26).alloc (.cells (Ent.arr b) 26)))
  have HB := Lib.hid (Blk.new2 w (.cells (Ent.arr a) 26) (Ent.arr b) 26)
  have HK := Lib.hid (((Kp.refl w).alloc (Ent.arr a) 26).alloc (Ent.arr b) 26)
  have HM1 := Lib.hid (fun w => rmay_any a w)
  have HM2 : Hid (∀ w0 w1, Kp w0 w1 → Calls Tryd.prog 25 #[.agg (Ent.arr b)] w1 fun r w' => r = .returned (.bool (mayB b)) ∧ Kp w1 w') := Lib.hid (fun _ w1 _ => rmay_any b w1)
  cases ha : mayB a with
  | false =>
    rw [ha] at HM1
    clear h
    unfold Ent.arr at HA HB HK HM1 HM2 ⊢
    go_enter Tryd.func20, Tryd.ntmps20
    go_wp2_with (first
      | (go_at_call 25; refine (HM1.out _).mono ?_; rintro e w1 ⟨rfl, hg⟩; have K1 := Lib.hid hg; clear hg))
    go_ret
    exact ⟨rfl, HK.out.trans K1.out⟩
  | true =>
    rw [ha, Bool.true_and] at h
    rw [ha] at HM1
    rw [h] at HM2
    clear h
    unfold Ent.arr at HA HB HK HM1 HM2 ⊢
    go_enter Tryd.func20, Tryd.ntmps20
    go_wp2_with (first
      | (go_at_call 25; refine (HM2.out _ _ K1.out).mono ?_; rintro e w2 ⟨rfl, hg⟩; have K2 := Lib.hid hg; clear hg)
      | (go_at_call 25; refine (HM1.out _).mono ?_; rintro e w1 ⟨rfl, hg⟩; have K1 := Lib.hid hg; clear hg; have q0 := (HB.out.kp K1.out).cell 0; have q1 := (HB.out.kp K1.out).cell 1; have q2 := (HB.out.kp K1.out).cell 2; have q3 := (HB.out.kp K1.out).cell 3; have q4 := (HB.out.kp K1.out).cell 4))
    go_ret
    exact ⟨rfl, (HK.out.trans K1.out).trans K2.out⟩
theorem rnames_any (e : Ent) (g u : Nat) (all : Bool) (w : World) (he : mayB e = true) (hw : e.wf) : Calls Tryd.prog 34 #[.agg (Ent.arr e), .int .u64 g, .int .u64 u, .bool all] w fun r w' => r = .returned (.bool (nmB e g u all)) ∧ Kp w w' := by
  obtain ⟨_, h1, _, h3, h4⟩ := hw
  rcases kinds he with ⟨a, _, _⟩ | a | ⟨a, b⟩ | ⟨a, b, c⟩
  · exact rnames_0 e g u all w a h1
  · exact rnames_1 e g u all w a
  · exact rnames_2 e g u all w a (by omega)
  · exact rnames_3 e g u all w a (by omega) (by omega)
set_option maxHeartbeats 2000000 in
theorem rtouch_1 (a b : Ent) (w : World) (ha : mayB a = true) (hb : mayB b = true) (hk : a.k = 1) : Calls Tryd.prog 20 #[.agg (Ent.arr a), .agg (Ent.arr b)] w fun r w' => r = .returned (.bool (tchB a b)) ∧ Kp w w' := by
  have ht : tchB a b = false := by
    unfold tchB
    rw [ha, hb, Bool.and_self, if_pos rfl]
    rw [if_neg (by omega), if_neg (by omega), if_neg (by omega)]
  rw [ht]
  have d0 : (a.k == 0) = false := by simp; omega
  have d2 : (a.k == 2) = false := by simp; omega
  have d3 : (a.k == 3) = false := by simp; omega
  have HM1 : Hid (∀ w0, Calls Tryd.prog 25 #[.agg (Ent.arr a)] w0 fun r w' => r = .returned (.bool true) ∧ Kp w0 w') := Lib.hid (fun w => by rw [← ha]; exact rmay_any a w)
  have HM2 : Hid (∀ w0 w1, Kp w0 w1 → Calls Tryd.prog 25 #[.agg (Ent.arr b)] w1 fun r w' => r = .returned (.bool true) ∧ Kp w1 w') := Lib.hid (fun _ w1 _ => by rw [← hb]; exact rmay_any b w1)
  have HA := Lib.hid ((Blk.new w (Ent.arr a) 26).alloc (.cells (Ent.arr b) 26))
  have HB := Lib.hid (Blk.new2 w (.cells (Ent.arr a) 26) (Ent.arr b) 26)
  have HK := Lib.hid (((Kp.refl w).alloc (Ent.arr a) 26).alloc (Ent.arr b) 26)
  clear ht ha hb hk
  unfold Ent.arr at HA HB HK HM1 HM2 ⊢
  go_enter Tryd.func20, Tryd.ntmps20
  go_wp2_with (first
      | (go_at_call 25; refine (HM2.out _ _ K1.out).mono ?_; rintro e w2 ⟨rfl, hg⟩; have K2 := Lib.hid hg; clear hg q0 q1 q2 q3 q4; have p0 := ((HA.out.kp K1.out).kp K2.out).cell 0; have p1 := ((HA.out.kp K1.out).kp K2.out).cell 1; have p2 := ((HA.out.kp K1.out).kp K2.out).cell 2; have p3 := ((HA.out.kp K1.out).kp K2.out).cell 3; have p4 := ((HA.out.kp K1.out).kp K2.out).cell 4; have q0 := ((HB.out.kp K1.out).kp K2.out).cell 0; have q1 := ((HB.out.kp K1.out).kp K2.out).cell 1; have q2 := ((HB.out.kp K1.out).kp K2.out).cell 2; have q3 := ((HB.out.kp K1.out).kp K2.out).cell 3; have q4 := ((HB.out.kp K1.out).kp K2.out).cell 4)
      | (go_at_call 25; refine (HM1.out _).mono ?_; rintro e w1 ⟨rfl, hg⟩; have K1 := Lib.hid hg; clear hg; have q0 := (HB.out.kp K1.out).cell 0; have q1 := (HB.out.kp K1.out).cell 1; have q2 := (HB.out.kp K1.out).cell 2; have q3 := (HB.out.kp K1.out).cell 3; have q4 := (HB.out.kp K1.out).cell 4))
  go_ret
  exact ⟨rfl, (HK.out.trans K1.out).trans K2.out⟩
set_option maxHeartbeats 2000000 in
theorem rtouch_0 (a b : Ent) (w : World) (ha : mayB a = true) (hb : mayB b = true) (wa : a.wf) (wb : b.wf) (hk : a.k = 0) : Calls Tryd.prog 20 #[.agg (Ent.arr a), .agg (Ent.arr b)] w fun r w' => r = .returned (.bool (tchB a b)) ∧ Kp w w' := by
  have ht : tchB a b = nmB b (a.w / 512) a.w false := by
    unfold tchB
    rw [ha, hb, Bool.and_self, if_pos rfl]
    rw [if_pos hk]
  rw [ht]
  have d0 : (a.k == 0) = true := by simp [hk]
  have HM1 : Hid (∀ w0, Calls Tryd.prog 25 #[.agg (Ent.arr a)] w0 fun r w' => r = .returned (.bool true) ∧ Kp w0 w') := Lib.hid (fun w => by rw [← ha]; exact rmay_any a w)
  have HM2 : Hid (∀ w0 w1, Kp w0 w1 → Calls Tryd.prog 25 #[.agg (Ent.arr b)] w1 fun r w' => r = .returned (.bool true) ∧ Kp w1 w') := Lib.hid (fun _ w1 _ => by rw [← hb]; exact rmay_any b w1)
  have HA := Lib.hid ((Blk.new w (Ent.arr a) 26).alloc (.cells (Ent.arr b) 26))
  have HB := Lib.hid (Blk.new2 w (.cells (Ent.arr a) 26) (Ent.arr b) 26)
  have HK := Lib.hid (((Kp.refl w).alloc (Ent.arr a) 26).alloc (Ent.arr b) 26)
  have HN : Hid (∀ w0 w1, Kp w0 w1 → Calls Tryd.prog 34 #[.agg (Ent.arr b), .int .u64 ((a.w / 512 : Nat) : Int), .int .u64 a.w, .bool false] w1 fun r w' => r = .returned (.bool (nmB b (a.w / 512) a.w false)) ∧ Kp w1 w') := Lib.hid (fun _ w1 _ => rnames_any b (a.w / 512) a.w false w1 hb wb)
  have e1 : IntKind.u64.wrap ((a.w : Int) / 512) = ((a.w / 512 : Nat) : Int) := by rw [show IntKind.u64.wrap ((a.w : Int) / 512) = ((a.w : Int) / 512) % 18446744073709551616 from IntKind.wrap_u64 _]; have := wa.2.1; omega
  have e2 : (a.w : Int) / 512 = ((a.w / 512 : Nat) : Int) := by omega
  have e3 : IntKind.u64.wrap ((a.w / 512 : Nat) : Int) = ((a.w / 512 : Nat) : Int) := by rw [← e2]; exact e1.trans e2.symm
  clear ht ha hb wa wb hk
  generalize nmB b (a.w / 512) a.w false = Z at *
  generalize a.w / 512 = q at *
  unfold Ent.arr at HA HB HK HM1 HM2 HN ⊢
  go_enter Tryd.func20, Tryd.ntmps20
  go_wp2_with (first
      | (go_at_call 34; refine (HN.out _ _ K2.out).mono ?_; rintro e w3 ⟨rfl, hg⟩; have K3 := Lib.hid hg; clear hg)
      | (go_at_call 25; refine (HM2.out _ _ K1.out).mono ?_; rintro e w2 ⟨rfl, hg⟩; have K2 := Lib.hid hg; clear hg q0 q1 q2 q3 q4; have p0 := ((HA.out.kp K1.out).kp K2.out).cell 0; have p1 := ((HA.out.kp K1.out).kp K2.out).cell 1; have p2 := ((HA.out.kp K1.out).kp K2.out).cell 2; have p3 := ((HA.out.kp K1.out).kp K2.out).cell 3; have p4 := ((HA.out.kp K1.out).kp K2.out).cell 4; have q0 := ((HB.out.kp K1.out).kp K2.out).cell 0; have q1 := ((HB.out.kp K1.out).kp K2.out).cell 1; have q2 := ((HB.out.kp K1.out).kp K2.out).cell 2; have q3 := ((HB.out.kp K1.out).kp K2.out).cell 3; have q4 := ((HB.out.kp K1.out).kp K2.out).cell 4)
      | (go_at_call 25; refine (HM1.out _).mono ?_; rintro e w1 ⟨rfl, hg⟩; have K1 := Lib.hid hg; clear hg; have q0 := (HB.out.kp K1.out).cell 0; have q1 := (HB.out.kp K1.out).cell 1; have q2 := (HB.out.kp K1.out).cell 2; have q3 := (HB.out.kp K1.out).cell 3; have q4 := (HB.out.kp K1.out).cell 4))
  go_ret
  exact ⟨rfl, ((HK.out.trans K1.out).trans K2.out).trans K3.out⟩
set_option maxHeartbeats 2000000 in
theorem rtouch_2 (a b : Ent) (w : World) (ha : mayB a = true) (hb : mayB b = true) (wa : a.wf) (wb : b.wf) (hk : a.k = 2) : Calls Tryd.prog 20 #[.agg (Ent.arr a), .agg (Ent.arr b)] w fun r w' => r = .returned (.bool (tchB a b)) ∧ Kp w w' := by
  have ht : tchB a b = nmB b a.fm.toNat 0 true := by
    unfold tchB
    rw [ha, hb, Bool.and_self, if_pos rfl]
    rw [if_neg (by omega), if_pos hk]
  rw [ht]
  have d0 : (a.k == 0) = false := by simp; omega
  have d2 : (a.k == 2) = true := by simp [hk]
  have HM1 : Hid (∀ w0, Calls Tryd.prog 25 #[.agg (Ent.arr a)] w0 fun r w' => r = .returned (.bool true) ∧ Kp w0 w') := Lib.hid (fun w => by rw [← ha]; exact rmay_any a w)
  have HM2 : Hid (∀ w0 w1, Kp w0 w1 → Calls Tryd.prog 25 #[.agg (Ent.arr b)] w1 fun r w' => r = .returned (.bool true) ∧ Kp w1 w') := Lib.hid (fun _ w1 _ => by rw [← hb]; exact rmay_any b w1)
  have HA := Lib.hid ((Blk.new w (Ent.arr a) 26).alloc (.cells (Ent.arr b) 26))
  have HB := Lib.hid (Blk.new2 w (.cells (Ent.arr a) 26) (Ent.arr b) 26)
  have HK := Lib.hid (((Kp.refl w).alloc (Ent.arr a) 26).alloc (Ent.arr b) 26)
  have HN : Hid (∀ w0 w1, Kp w0 w1 → Calls Tryd.prog 34 #[.agg (Ent.arr b), .int .u64 a.fm, .int .u64 0, .bool true] w1 fun r w' => r = .returned (.bool (nmB b a.fm.toNat 0 true)) ∧ Kp w1 w') := Lib.hid (fun _ w1 _ => by have q := rnames_any b a.fm.toNat 0 true w1 hb wb; rwa [Int.toNat_of_nonneg (by have := kinds ha; omega)] at q)
  have e1 : IntKind.u64.wrap a.fm = a.fm := by rw [show IntKind.u64.wrap a.fm = a.fm % 18446744073709551616 from IntKind.wrap_u64 _]; have := wa.2.2.2; have := kinds ha; omega
  have e10 : decide (0 ≤ a.fm) = true := decide_eq_true (by have := kinds ha; omega)
  clear ht ha hb wa wb hk
  generalize nmB b a.fm.toNat 0 true = Z at *
  unfold Ent.arr at HA HB HK HM1 HM2 HN ⊢
  go_enter Tryd.func20, Tryd.ntmps20
  go_wp2_with (first
      | (go_at_call 34; refine (HN.out _ _ K2.out).mono ?_; rintro e w3 ⟨rfl, hg⟩; have K3 := Lib.hid hg; clear hg)
      | (go_at_call 25; refine (HM2.out _ _ K1.out).mono ?_; rintro e w2 ⟨rfl, hg⟩; have K2 := Lib.hid hg; clear hg q0 q1 q2 q3 q4; have p0 := ((HA.out.kp K1.out).kp K2.out).cell 0; have p1 := ((HA.out.kp K1.out).kp K2.out).cell 1; have p2 := ((HA.out.kp K1.out).kp K2.out).cell 2; have p3 := ((HA.out.kp K1.out).kp K2.out).cell 3; have p4 := ((HA.out.kp K1.out).kp K2.out).cell 4; have q0 := ((HB.out.kp K1.out).kp K2.out).cell 0; have q1 := ((HB.out.kp K1.out).kp K2.out).cell 1; have q2 := ((HB.out.kp K1.out).kp K2.out).cell 2; have q3 := ((HB.out.kp K1.out).kp K2.out).cell 3; have q4 := ((HB.out.kp K1.out).kp K2.out).cell 4)
      | (go_at_call 25; refine (HM1.out _).mono ?_; rintro e w1 ⟨rfl, hg⟩; have K1 := Lib.hid hg; clear hg; have q0 := (HB.out.kp K1.out).cell 0; have q1 := (HB.out.kp K1.out).cell 1; have q2 := (HB.out.kp K1.out).cell 2; have q3 := (HB.out.kp K1.out).cell 3; have q4 := (HB.out.kp K1.out).cell 4))
  go_ret
  exact ⟨rfl, ((HK.out.trans K1.out).trans K2.out).trans K3.out⟩
set_option maxHeartbeats 2000000 in
theorem rtouch_3 (a b : Ent) (w : World) (ha : mayB a = true) (hb : mayB b = true) (wa : a.wf) (wb : b.wf) (hk : a.k = 3) : Calls Tryd.prog 20 #[.agg (Ent.arr a), .agg (Ent.arr b)] w fun r w' => r = .returned (.bool (tchB a b)) ∧ Kp w w' := by
  have ht : tchB a b = (nmB b a.fm.toNat 0 true || nmB b a.fr.toNat 0 true) := by
    unfold tchB
    rw [ha, hb, Bool.and_self, if_pos rfl]
    rw [if_neg (by omega), if_neg (by omega), if_pos hk]
  rw [ht]
  have d0 : (a.k == 0) = false := by simp; omega
  have d2 : (a.k == 2) = false := by simp; omega
  have d3 : (a.k == 3) = true := by simp [hk]
  have HM1 : Hid (∀ w0, Calls Tryd.prog 25 #[.agg (Ent.arr a)] w0 fun r w' => r = .returned (.bool true) ∧ Kp w0 w') := Lib.hid (fun w => by rw [← ha]; exact rmay_any a w)
  have HM2 : Hid (∀ w0 w1, Kp w0 w1 → Calls Tryd.prog 25 #[.agg (Ent.arr b)] w1 fun r w' => r = .returned (.bool true) ∧ Kp w1 w') := Lib.hid (fun _ w1 _ => by rw [← hb]; exact rmay_any b w1)
  have HA := Lib.hid ((Blk.new w (Ent.arr a) 26).alloc (.cells (Ent.arr b) 26))
  have HB := Lib.hid (Blk.new2 w (.cells (Ent.arr a) 26) (Ent.arr b) 26)
  have HK := Lib.hid (((Kp.refl w).alloc (Ent.arr a) 26).alloc (Ent.arr b) 26)
  have HN : Hid (∀ w0 w1, Kp w0 w1 → Calls Tryd.prog 34 #[.agg (Ent.arr b), .int .u64 a.fm, .int .u64 0, .bool true] w1 fun r w' => r = .returned (.bool (nmB b a.fm.toNat 0 true)) ∧ Kp w1 w') := Lib.hid (fun _ w1 _ => by have q := rnames_any b a.fm.toNat 0 true w1 hb wb; rwa [Int.toNat_of_nonneg (by have := kinds ha; omega)] at q)
  have HN2 : Hid (∀ w0 w1, Kp w0 w1 → Calls Tryd.prog 34 #[.agg (Ent.arr b), .int .u64 a.fr, .int .u64 0, .bool true] w1 fun r w' => r = .returned (.bool (nmB b a.fr.toNat 0 true)) ∧ Kp w1 w') := Lib.hid (fun _ w1 _ => by have q := rnames_any b a.fr.toNat 0 true w1 hb wb; rwa [Int.toNat_of_nonneg (by have := kinds ha; omega)] at q)
  have e1 : IntKind.u64.wrap a.fm = a.fm := by rw [show IntKind.u64.wrap a.fm = a.fm % 18446744073709551616 from IntKind.wrap_u64 _]; have := wa.2.2.2; have := kinds ha; omega
  have e10 : decide (0 ≤ a.fm) = true := decide_eq_true (by have := kinds ha; omega)
  have e2 : IntKind.u64.wrap a.fr = a.fr := by rw [show IntKind.u64.wrap a.fr = a.fr % 18446744073709551616 from IntKind.wrap_u64 _]; have := wa.2.2.2; have := kinds ha; omega
  have e20 : decide (0 ≤ a.fr) = true := decide_eq_true (by have := kinds ha; omega)
  clear ht ha hb wa wb hk
  generalize nmB b a.fm.toNat 0 true = Z at *
  generalize nmB b a.fr.toNat 0 true = Y at *
  unfold Ent.arr at HA HB HK HM1 HM2 HN HN2 ⊢
  cases Z with
  | true =>
    go_enter Tryd.func20, Tryd.ntmps20
    go_wp2_with (first
      | (go_at_call 34; refine (HN.out _ _ K2.out).mono ?_; rintro e w3 ⟨rfl, hg⟩; have K3 := Lib.hid hg; clear hg)
      | (go_at_call 25; refine (HM2.out _ _ K1.out).mono ?_; rintro e w2 ⟨rfl, hg⟩; have K2 := Lib.hid hg; clear hg q0 q1 q2 q3 q4; have p0 := ((HA.out.kp K1.out).kp K2.out).cell 0; have p1 := ((HA.out.kp K1.out).kp K2.out).cell 1; have p2 := ((HA.out.kp K1.out).kp K2.out).cell 2; have p3 := ((HA.out.kp K1.out).kp K2.out).cell 3; have p4 := ((HA.out.kp K1.out).kp K2.out).cell 4; have q0 := ((HB.out.kp K1.out).kp K2.out).cell 0; have q1 := ((HB.out.kp K1.out).kp K2.out).cell 1; have q2 := ((HB.out.kp K1.out).kp K2.out).cell 2; have q3 := ((HB.out.kp K1.out).kp K2.out).cell 3; have q4 := ((HB.out.kp K1.out).kp K2.out).cell 4)
      | (go_at_call 25; refine (HM1.out _).mono ?_; rintro e w1 ⟨rfl, hg⟩; have K1 := Lib.hid hg; clear hg; have q0 := (HB.out.kp K1.out).cell 0; have q1 := (HB.out.kp K1.out).cell 1; have q2 := (HB.out.kp K1.out).cell 2; have q3 := (HB.out.kp K1.out).cell 3; have q4 := (HB.out.kp K1.out).cell 4))
    go_ret
    exact ⟨rfl, ((HK.out.trans K1.out).trans K2.out).trans K3.out⟩
  | false =>
    rw [Bool.false_or]
    go_enter Tryd.func20, Tryd.ntmps20
    go_wp2_with (first
      | (go_at_call 34; refine (HN2.out _ _ K3.out).mono ?_; rintro e w4 ⟨rfl, hg⟩; have K4 := Lib.hid hg; clear hg)
      | (go_at_call 34; refine (HN.out _ _ K2.out).mono ?_; rintro e w3 ⟨rfl, hg⟩; have K3 := Lib.hid hg; clear hg p0 p1 p2 p3 p4 q0 q1 q2 q3 q4; have p0 := (((HA.out.kp K1.out).kp K2.out).kp K3.out).cell 0; have p1 := (((HA.out.kp K1.out).kp K2.out).kp K3.out).cell 1; have p2 := (((HA.out.kp K1.out).kp K2.out).kp K3.out).cell 2; have p3 := (((HA.out.kp K1.out).kp K2.out).kp K3.out).cell 3; have p4 := (((HA.out.kp K1.out).kp K2.out).kp K3.out).cell 4; have q0 := (((HB.out.kp K1.out).kp K2.out).kp K3.out).cell 0; have q1 := (((HB.out.kp K1.out).kp K2.out).kp K3.out).cell 1; have q2 := (((HB.out.kp K1.out).kp K2.out).kp K3.out).cell 2; have q3 := (((HB.out.kp K1.out).kp K2.out).kp K3.out).cell 3; have q4 := (((HB.out.kp K1.out).kp K2.out).kp K3.out).cell 4)
      | (go_at_call 25; refine (HM2.out _ _ K1.out).mono ?_; rintro e w2 ⟨rfl, hg⟩; have K2 := Lib.hid hg; clear hg q0 q1 q2 q3 q4; have p0 := ((HA.out.kp K1.out).kp K2.out).cell 0; have p1 := ((HA.out.kp K1.out).kp K2.out).cell 1; have p2 := ((HA.out.kp K1.out).kp K2.out).cell 2; have p3 := ((HA.out.kp K1.out).kp K2.out).cell 3; have p4 := ((HA.out.kp K1.out).kp K2.out).cell 4; have q0 := ((HB.out.kp K1.out).kp K2.out).cell 0; have q1 := ((HB.out.kp K1.out).kp K2.out).cell 1; have q2 := ((HB.out.kp K1.out).kp K2.out).cell 2; have q3 := ((HB.out.kp K1.out).kp K2.out).cell 3; have q4 := ((HB.out.kp K1.out).kp K2.out).cell 4)
      | (go_at_call 25; refine (HM1.out _).mono ?_; rintro e w1 ⟨rfl, hg⟩; have K1 := Lib.hid hg; clear hg; have q0 := (HB.out.kp K1.out).cell 0; have q1 := (HB.out.kp K1.out).cell 1; have q2 := (HB.out.kp K1.out).cell 2; have q3 := (HB.out.kp K1.out).cell 3; have q4 := (HB.out.kp K1.out).cell 4))
    go_ret
    exact ⟨rfl, (((HK.out.trans K1.out).trans K2.out).trans K3.out).trans K4.out⟩
theorem rtouch_any (a b : Ent) (w : World) (wa : a.wf) (wb : b.wf) : Calls Tryd.prog 20 #[.agg (Ent.arr a), .agg (Ent.arr b)] w fun r w' => r = .returned (.bool (tchB a b)) ∧ Kp w w' := by
  by_cases h : (mayB a && mayB b) = true
  · simp only [Bool.and_eq_true] at h
    rcases kinds h.1 with ⟨k, _, _⟩ | k | ⟨k, _⟩ | ⟨k, _, _⟩
    · exact rtouch_0 a b w h.1 h.2 wa wb k
    · exact rtouch_1 a b w h.1 h.2 k
    · exact rtouch_2 a b w h.1 h.2 wa wb k
    · exact rtouch_3 a b w h.1 h.2 wa wb k
  · exact rtouch_no a b w (by simpa using h)
end Go.Proofs.YtgjjbgijdgihcaaDoor
