/-
  Whether an entry may reach memory hangs on those ahead of it alone; what may go may go still. No condition.
-/
import Derived.Test.YtgjjbgijdgihcaaDoorOpen09
import Derived.Test.YtgjjbgijdgihcaaDoorWakes09
namespace Go.Proofs.YtgjjbgijdgihcaaDoor
open Go Go.RowKit

set_option maxHeartbeats 2000000 in
theorem ahead_bad (a0 : Option Addr) (cap N : Nat) (L : List Ent) (k o : Int) (w : World) (hT : TabsOk w) (hN : N = L.length) (h : RowE w a0 cap L) (hw : ∀ e ∈ L, e.wf) (ho : okB L = false) :
    Calls Tryd.prog 6 #[.slice a0 N cap, .int .i64 k, .int .i64 o] w fun r w' => r = .returned (.bool true) ∧ Kp w w' := by
  have hc := pcheck_any a0 cap N L w hT hN h hw
  have HT := Lib.hid hT
  rw [if_neg (by rw [ho]; exact Bool.false_ne_true)] at hc
  clear ho
  have HC := Lib.hid hc
  clear hc hN h hw hT
  go_enter Tryd.func6, Tryd.ntmps6
  go_wp2_with (first
      | (go_at_call 15; refine HC.out.mono ?_; rintro r w1 ⟨rfl, hg⟩; have HK1 := Lib.hid hg; clear hg)
      | (go_at_call 7; refine (wakes_any _ (HT.out.kp HK1.out)).mono ?_; rintro r w2 ⟨rfl, hg⟩; have HK2 := Lib.hid hg; clear hg))
  go_ret
  exact ⟨rfl, Kp.trans HK1.out HK2.out⟩
set_option maxHeartbeats 2000000 in
theorem ahead_low (a0 : Option Addr) (cap N : Nat) (L : List Ent) (k o : Int) (w : World) (hT : TabsOk w) (hN : N = L.length) (h : RowE w a0 cap L) (hw : ∀ e ∈ L, e.wf) (ho : okB L = true) (hk : k < 0) :
    Calls Tryd.prog 6 #[.slice a0 N cap, .int .i64 k, .int .i64 o] w fun r w' => r = .returned (.bool true) ∧ Kp w w' := by
  have hc := pcheck_any a0 cap N L w hT hN h hw
  have HT := Lib.hid hT
  rw [if_pos ho] at hc
  have d0 : decide (k < 0) = true := decide_eq_true hk
  clear ho hk
  have HC := Lib.hid hc
  clear hc hN h hw hT
  go_enter Tryd.func6, Tryd.ntmps6
  go_wp2_with (first
      | (go_at_call 15; refine HC.out.mono ?_; rintro r w1 ⟨rfl, hg⟩; have HK1 := Lib.hid hg; clear hg)
      | (go_at_call 7; refine (wakes_any _ (HT.out.kp HK1.out)).mono ?_; rintro r w2 ⟨rfl, hg⟩; have HK2 := Lib.hid hg; clear hg))
  go_ret
  exact ⟨rfl, Kp.trans HK1.out HK2.out⟩
set_option maxHeartbeats 2000000 in
theorem ahead_high (a0 : Option Addr) (cap N : Nat) (L : List Ent) (k o : Int) (w : World) (hT : TabsOk w) (hN : N = L.length) (h : RowE w a0 cap L) (hw : ∀ e ∈ L, e.wf) (ho : okB L = true) (k0 : 0 ≤ k) (hk : (N : Int) ≤ k) :
    Calls Tryd.prog 6 #[.slice a0 N cap, .int .i64 k, .int .i64 o] w fun r w' => r = .returned (.bool true) ∧ Kp w w' := by
  have hc := pcheck_any a0 cap N L w hT hN h hw
  have HT := Lib.hid hT
  rw [if_pos ho] at hc
  have d0 : decide (k < 0) = false := decide_eq_false (by omega)
  have d1 : decide ((N : Int) ≤ k) = true := decide_eq_true hk
  clear ho k0 hk
  have HC := Lib.hid hc
  clear hc hN h hw hT
  go_enter Tryd.func6, Tryd.ntmps6
  go_wp2_with (first
      | (go_at_call 15; refine HC.out.mono ?_; rintro r w1 ⟨rfl, hg⟩; have HK1 := Lib.hid hg; clear hg)
      | (go_at_call 7; refine (wakes_any _ (HT.out.kp HK1.out)).mono ?_; rintro r w2 ⟨rfl, hg⟩; have HK2 := Lib.hid hg; clear hg))
  go_ret
  exact ⟨rfl, Kp.trans HK1.out HK2.out⟩
set_option maxHeartbeats 2000000 in
theorem ahead_olow (a0 : Option Addr) (cap N : Nat) (L : List Ent) (k o : Int) (w : World) (hT : TabsOk w) (hN : N = L.length) (h : RowE w a0 cap L) (hw : ∀ e ∈ L, e.wf) (ho : okB L = true) (k0 : 0 ≤ k) (k1 : k < N) (o0 : o < 0) :
    Calls Tryd.prog 6 #[.slice a0 N cap, .int .i64 k, .int .i64 o] w fun r w' => r = .returned (.bool true) ∧ Kp w w' := by
  have hc := pcheck_any a0 cap N L w hT hN h hw
  have HT := Lib.hid hT
  rw [if_pos ho] at hc
  have d0 : decide (k < 0) = false := decide_eq_false (by omega)
  have d1 : decide ((N : Int) ≤ k) = false := decide_eq_false (by omega)
  have d2 : decide (o < 0) = true := decide_eq_true o0
  clear ho k0 k1 o0
  have HC := Lib.hid hc
  clear hc hN h hw hT
  go_enter Tryd.func6, Tryd.ntmps6
  go_wp2_with (first
      | (go_at_call 15; refine HC.out.mono ?_; rintro r w1 ⟨rfl, hg⟩; have HK1 := Lib.hid hg; clear hg)
      | (go_at_call 7; refine (wakes_any _ (HT.out.kp HK1.out)).mono ?_; rintro r w2 ⟨rfl, hg⟩; have HK2 := Lib.hid hg; clear hg))
  go_ret
  exact ⟨rfl, Kp.trans HK1.out HK2.out⟩
set_option maxHeartbeats 2000000 in
theorem ahead_ohigh (a0 : Option Addr) (cap N : Nat) (L : List Ent) (k o : Int) (w : World) (hT : TabsOk w) (hN : N = L.length) (h : RowE w a0 cap L) (hw : ∀ e ∈ L, e.wf) (ho : okB L = true) (k0 : 0 ≤ k) (k1 : k < N) (o0 : 0 ≤ o) (o1 : (N : Int) ≤ o) :
    Calls Tryd.prog 6 #[.slice a0 N cap, .int .i64 k, .int .i64 o] w fun r w' => r = .returned (.bool true) ∧ Kp w w' := by
  have hc := pcheck_any a0 cap N L w hT hN h hw
  have HT := Lib.hid hT
  rw [if_pos ho] at hc
  have d0 : decide (k < 0) = false := decide_eq_false (by omega)
  have d1 : decide ((N : Int) ≤ k) = false := decide_eq_false (by omega)
  have d2 : decide (o < 0) = false := decide_eq_false (by omega)
  have d3 : decide ((N : Int) ≤ o) = true := decide_eq_true o1
  clear ho k0 k1 o0 o1
  have HC := Lib.hid hc
  clear hc hN h hw hT
  go_enter Tryd.func6, Tryd.ntmps6
  go_wp2_with (first
      | (go_at_call 15; refine HC.out.mono ?_; rintro r w1 ⟨rfl, hg⟩; have HK1 := Lib.hid hg; clear hg)
      | (go_at_call 7; refine (wakes_any _ (HT.out.kp HK1.out)).mono ?_; rintro r w2 ⟨rfl, hg⟩; have HK2 := Lib.hid hg; clear hg))
  go_ret
  exact ⟨rfl, Kp.trans HK1.out HK2.out⟩
set_option maxHeartbeats 2000000 in
theorem ahead_same (a0 : Option Addr) (cap N : Nat) (L : List Ent) (k o : Int) (w : World) (hT : TabsOk w) (hN : N = L.length) (h : RowE w a0 cap L) (hw : ∀ e ∈ L, e.wf) (ho : okB L = true) (k0 : 0 ≤ k) (k1 : k < N) (hs : o = k) :
    Calls Tryd.prog 6 #[.slice a0 N cap, .int .i64 k, .int .i64 o] w fun r w' => r = .returned (.bool true) ∧ Kp w w' := by
  have hc := pcheck_any a0 cap N L w hT hN h hw
  have HT := Lib.hid hT
  rw [if_pos ho] at hc
  have d0 : decide (k < 0) = false := decide_eq_false (by omega)
  have d1 : decide ((N : Int) ≤ k) = false := decide_eq_false (by omega)
  subst hs
  clear ho k0 k1
  have HC := Lib.hid hc
  clear hc hN h hw hT
  go_enter Tryd.func6, Tryd.ntmps6
  go_wp2_with (first
      | (go_at_call 15; refine HC.out.mono ?_; rintro r w1 ⟨rfl, hg⟩; have HK1 := Lib.hid hg; clear hg)
      | (go_at_call 7; refine (wakes_any _ (HT.out.kp HK1.out)).mono ?_; rintro r w2 ⟨rfl, hg⟩; have HK2 := Lib.hid hg; clear hg))
  go_ret
  exact ⟨rfl, Kp.trans HK1.out HK2.out⟩
theorem ahead_nk (a0 : Option Addr) (cap N : Nat) (L : List Ent) (k o : Nat) (w : World) (hT : TabsOk w) (hN : N = L.length) (h : RowE w a0 cap L) (hw : ∀ e ∈ L, e.wf) (ho : okB L = true) (k1 : k < N) (o1 : o < N) (hne : o ≠ k) (hmk : mayAt L k = false) :
    Calls Tryd.prog 6 #[.slice a0 N cap, .int .i64 k, .int .i64 o] w fun r w' => r = .returned (.bool true) ∧ Kp w w' := by
  have hc := pcheck_any a0 cap N L w hT hN h hw
  have HT := Lib.hid hT
  rw [if_pos ho] at hc
  have HC := Lib.hid hc
  have n8 : N ≤ 8 := by have := (okB_parts ho).1; omega
  have nc : N ≤ cap := by obtain ⟨_, _, _, _, q⟩ := h; omega
  have d0 : decide ((k : Int) < 0) = false := decide_eq_false (by omega)
  have d1 : decide (N ≤ k) = false := decide_eq_false (by omega)
  have d2 : decide ((o : Int) < 0) = false := decide_eq_false (by omega)
  have d3 : decide (N ≤ o) = false := decide_eq_false (by omega)
  have d4 : ((o : Int) == (k : Int)) = false := beq_false_of_ne (by omega)
  obtain ⟨K, hK⟩ : ∃ K, K = k + 1 := ⟨_, rfl⟩
  have wk : wrap64 ((k : Int) + 1) = (K : Int) := by unfold wrap64; omega
  have s0 : (0 : Int) ≤ (K : Int) := by omega
  have s1 : (K : Int) ≤ (cap : Int) := by omega
  have s2 : K ≤ cap := by omega
  have hm1 := fun (w1 : World) (g : Kp w w1) => pmayat_any a0 cap K (L.take (k + 1)) k w1 (hT.kp g) (by rw [List.length_take]; omega) ((h.kp g).first _) (fun e he => hw e (List.mem_of_mem_take he))
  rw [may_prefix ho k (by omega)] at hm1
  have hm2 := fun (w1 : World) (g : Kp w w1) => pmayat_any a0 cap N L k w1 (hT.kp g) hN (h.kp g) hw
  have hm3 := fun (w1 : World) (g : Kp w w1) => pmayat_any a0 cap N L o w1 (hT.kp g) hN (h.kp g) hw
  have HM : Hid (∀ (n : Nat) (kk : Int) (v : Bool) (w1 : World), Kp w w1 → (n = K ∧ kk = k ∧ v = mayAt L k ∨ n = N ∧ kk = k ∧ v = mayAt L k ∨ n = N ∧ kk = o ∧ v = mayAt L o) → Calls Tryd.prog 17 #[.slice a0 n cap, .int .i64 kk] w1 fun r w' => r = .returned (.bool v) ∧ Kp w1 w') := Lib.hid (fun n kk v w1 g q => by
    rcases q with ⟨rfl, rfl, rfl⟩ | ⟨rfl, rfl, rfl⟩ | ⟨rfl, rfl, rfl⟩
    · exact hm1 w1 g
    · exact hm2 w1 g
    · exact hm3 w1 g)
  rw [hmk] at HM
  clear hc hm1 hm2 hm3 n8 nc hK
  have H := Lib.hid h
  have HN := Lib.hid hN
  have HW := Lib.hid hw
  have HO := Lib.hid ho
  have HI := Lib.hid (And.intro k1 (And.intro o1 hne))
  clear h hN hw ho k1 o1 hne hT
  go_enter Tryd.func6, Tryd.ntmps6
  go_wp2_with (first
      | (go_at_call 15; refine HC.out.mono ?_; rintro r w9 ⟨rfl, hg⟩; have HK := Lib.hid hg; clear hg)
      | (go_at_call 17; refine (HM.out _ _ _ _ HK.out (by first | exact .inl ⟨rfl, rfl, rfl⟩ | exact .inr (.inl ⟨rfl, rfl, rfl⟩) | exact .inr (.inr ⟨rfl, rfl, rfl⟩))).mono ?_; rintro r w9 ⟨rfl, hg⟩; have HK := Lib.hid (Kp.trans HK.out hg); clear hg)
      | (go_at_call 7; refine (wakes_any _ (HT.out.kp HK.out)).mono ?_; rintro r w9 ⟨rfl, hg⟩; have HK := Lib.hid (Kp.trans HK.out hg); clear hg))
  go_ret
  exact ⟨rfl, HK.out⟩
theorem ahead_no (a0 : Option Addr) (cap N : Nat) (L : List Ent) (k o : Nat) (w : World) (hT : TabsOk w) (hN : N = L.length) (h : RowE w a0 cap L) (hw : ∀ e ∈ L, e.wf) (ho : okB L = true) (k1 : k < N) (o1 : o < N) (hne : o ≠ k) (hmk : mayAt L k = true) (hmo : mayAt L o = false) :
    Calls Tryd.prog 6 #[.slice a0 N cap, .int .i64 k, .int .i64 o] w fun r w' => r = .returned (.bool true) ∧ Kp w w' := by
  have hc := pcheck_any a0 cap N L w hT hN h hw
  have HT := Lib.hid hT
  rw [if_pos ho] at hc
  have HC := Lib.hid hc
  have n8 : N ≤ 8 := by have := (okB_parts ho).1; omega
  have nc : N ≤ cap := by obtain ⟨_, _, _, _, q⟩ := h; omega
  have d0 : decide ((k : Int) < 0) = false := decide_eq_false (by omega)
  have d1 : decide (N ≤ k) = false := decide_eq_false (by omega)
  have d2 : decide ((o : Int) < 0) = false := decide_eq_false (by omega)
  have d3 : decide (N ≤ o) = false := decide_eq_false (by omega)
  have d4 : ((o : Int) == (k : Int)) = false := beq_false_of_ne (by omega)
  obtain ⟨K, hK⟩ : ∃ K, K = k + 1 := ⟨_, rfl⟩
  have wk : wrap64 ((k : Int) + 1) = (K : Int) := by unfold wrap64; omega
  have s0 : (0 : Int) ≤ (K : Int) := by omega
  have s1 : (K : Int) ≤ (cap : Int) := by omega
  have s2 : K ≤ cap := by omega
  have hm1 := fun (w1 : World) (g : Kp w w1) => pmayat_any a0 cap K (L.take (k + 1)) k w1 (hT.kp g) (by rw [List.length_take]; omega) ((h.kp g).first _) (fun e he => hw e (List.mem_of_mem_take he))
  rw [may_prefix ho k (by omega)] at hm1
  have hm2 := fun (w1 : World) (g : Kp w w1) => pmayat_any a0 cap N L k w1 (hT.kp g) hN (h.kp g) hw
  have hm3 := fun (w1 : World) (g : Kp w w1) => pmayat_any a0 cap N L o w1 (hT.kp g) hN (h.kp g) hw
  have HM : Hid (∀ (n : Nat) (kk : Int) (v : Bool) (w1 : World), Kp w w1 → (n = K ∧ kk = k ∧ v = mayAt L k ∨ n = N ∧ kk = k ∧ v = mayAt L k ∨ n = N ∧ kk = o ∧ v = mayAt L o) → Calls Tryd.prog 17 #[.slice a0 n cap, .int .i64 kk] w1 fun r w' => r = .returned (.bool v) ∧ Kp w1 w') := Lib.hid (fun n kk v w1 g q => by
    rcases q with ⟨rfl, rfl, rfl⟩ | ⟨rfl, rfl, rfl⟩ | ⟨rfl, rfl, rfl⟩
    · exact hm1 w1 g
    · exact hm2 w1 g
    · exact hm3 w1 g)
  rw [hmk, hmo] at HM
  clear hc hm1 hm2 hm3 n8 nc hK
  have H := Lib.hid h
  have HN := Lib.hid hN
  have HW := Lib.hid hw
  have HO := Lib.hid ho
  have HI := Lib.hid (And.intro k1 (And.intro o1 hne))
  clear h hN hw ho k1 o1 hne hT
  go_enter Tryd.func6, Tryd.ntmps6
  go_wp2_with (first
      | (go_at_call 15; refine HC.out.mono ?_; rintro r w9 ⟨rfl, hg⟩; have HK := Lib.hid hg; clear hg)
      | (go_at_call 17; refine (HM.out _ _ _ _ HK.out (by first | exact .inl ⟨rfl, rfl, rfl⟩ | exact .inr (.inl ⟨rfl, rfl, rfl⟩) | exact .inr (.inr ⟨rfl, rfl, rfl⟩))).mono ?_; rintro r w9 ⟨rfl, hg⟩; have HK := Lib.hid (Kp.trans HK.out hg); clear hg)
      | (go_at_call 7; refine (wakes_any _ (HT.out.kp HK.out)).mono ?_; rintro r w9 ⟨rfl, hg⟩; have HK := Lib.hid (Kp.trans HK.out hg); clear hg))
  go_ret
  exact ⟨rfl, HK.out⟩
theorem tenb_kp {w w' : World} {b b' o o' : Nat} {a e : Ent} (h : w.cell? ⟨b, o, none⟩ = some (.int .i8 a.k) ∧ w.cell? ⟨b, o + 1, none⟩ = some (.int .u64 a.w) ∧ w.cell? ⟨b, o + 2, none⟩ = some (.int .u64 a.x) ∧ w.cell? ⟨b, o + 3, none⟩ = some (.int .i64 a.fr) ∧ w.cell? ⟨b, o + 4, none⟩ = some (.int .i64 a.fm) ∧ w.cell? ⟨b', o', none⟩ = some (.int .i8 e.k) ∧ w.cell? ⟨b', o' + 1, none⟩ = some (.int .u64 e.w) ∧ w.cell? ⟨b', o' + 2, none⟩ = some (.int .u64 e.x) ∧ w.cell? ⟨b', o' + 3, none⟩ = some (.int .i64 e.fr) ∧ w.cell? ⟨b', o' + 4, none⟩ = some (.int .i64 e.fm)) (g : Kp w w') : w'.cell? ⟨b, o, none⟩ = some (.int .i8 a.k) ∧ w'.cell? ⟨b, o + 1, none⟩ = some (.int .u64 a.w) ∧ w'.cell? ⟨b, o + 2, none⟩ = some (.int .u64 a.x) ∧ w'.cell? ⟨b, o + 3, none⟩ = some (.int .i64 a.fr) ∧ w'.cell? ⟨b, o + 4, none⟩ = some (.int .i64 a.fm) ∧ w'.cell? ⟨b', o', none⟩ = some (.int .i8 e.k) ∧ w'.cell? ⟨b', o' + 1, none⟩ = some (.int .u64 e.w) ∧ w'.cell? ⟨b', o' + 2, none⟩ = some (.int .u64 e.x) ∧ w'.cell? ⟨b', o' + 3, none⟩ = some (.int .i64 e.fr) ∧ w'.cell? ⟨b', o' + 4, none⟩ = some (.int .i64 e.fm) := by
  obtain ⟨a0, a1, a2, a3, a4, h5⟩ := h
  obtain ⟨x0, x1, x2, x3, x4⟩ := five_kp ⟨a0, a1, a2, a3, a4⟩ g
  exact ⟨x0, x1, x2, x3, x4, five_kp h5 g⟩
set_option maxHeartbeats 4000000 in
theorem ahead_yes (a0 : Option Addr) (cap N : Nat) (L : List Ent) (k o : Nat) (w : World) (hT : TabsOk w) (hN : N = L.length) (h : RowE w a0 cap L) (hw : ∀ e ∈ L, e.wf) (ho : okB L = true) (k1 : k < N) (o1 : o < N) (hne : o ≠ k) (hmk : mayAt L k = true) (hmo : mayAt L o = true) :
    Calls Tryd.prog 6 #[.slice a0 N cap, .int .i64 k, .int .i64 o] w fun r w' => r = .returned (.bool true) ∧ Kp w w' := by
  have hc := pcheck_any a0 cap N L w hT hN h hw
  have HT := Lib.hid hT
  rw [if_pos ho] at hc
  have HC := Lib.hid hc
  have n8 : N ≤ 8 := by have := (okB_parts ho).1; omega
  have nc : N ≤ cap := by obtain ⟨_, _, _, _, q⟩ := h; omega
  have d0 : decide ((k : Int) < 0) = false := decide_eq_false (by omega)
  have d1 : decide (N ≤ k) = false := decide_eq_false (by omega)
  have d2 : decide ((o : Int) < 0) = false := decide_eq_false (by omega)
  have d3 : decide (N ≤ o) = false := decide_eq_false (by omega)
  have d4 : ((o : Int) == (k : Int)) = false := beq_false_of_ne (by omega)
  obtain ⟨K, hK⟩ : ∃ K, K = k + 1 := ⟨_, rfl⟩
  have wk : wrap64 ((k : Int) + 1) = (K : Int) := by unfold wrap64; omega
  have s0 : (0 : Int) ≤ (K : Int) := by omega
  have s1 : (K : Int) ≤ (cap : Int) := by omega
  have s2 : K ≤ cap := by omega
  have hm1 := fun (w1 : World) (g : Kp w w1) => pmayat_any a0 cap K (L.take (k + 1)) k w1 (hT.kp g) (by rw [List.length_take]; omega) ((h.kp g).first _) (fun e he => hw e (List.mem_of_mem_take he))
  rw [may_prefix ho k (by omega)] at hm1
  have hm2 := fun (w1 : World) (g : Kp w w1) => pmayat_any a0 cap N L k w1 (hT.kp g) hN (h.kp g) hw
  have hm3 := fun (w1 : World) (g : Kp w w1) => pmayat_any a0 cap N L o w1 (hT.kp g) hN (h.kp g) hw
  have HM : Hid (∀ (n : Nat) (kk : Int) (v : Bool) (w1 : World), Kp w w1 → (n = K ∧ kk = k ∧ v = mayAt L k ∨ n = N ∧ kk = k ∧ v = mayAt L k ∨ n = N ∧ kk = o ∧ v = mayAt L o) → Calls Tryd.prog 17 #[.slice a0 n cap, .int .i64 kk] w1 fun r w' => r = .returned (.bool v) ∧ Kp w1 w') := Lib.hid (fun n kk v w1 g q => by
    rcases q with ⟨rfl, rfl, rfl⟩ | ⟨rfl, rfl, rfl⟩ | ⟨rfl, rfl, rfl⟩
    · exact hm1 w1 g
    · exact hm2 w1 g
    · exact hm3 w1 g)
  rw [hmk, hmo] at HM
  have hx : L[k]? = some (L[k]'(by omega)) := List.getElem?_eq_getElem _
  generalize L[k]'(by omega) = e at hx
  have HIy := Lib.hid (And.intro hmk hx)
  obtain ⟨E2, hE2⟩ : ∃ E2, (takeB L o).2.1 = E2 := ⟨_, rfl⟩
  have HPt : Hid (∀ w1, Kp w w1 → Calls Tryd.prog 10 #[.slice a0 N cap, .int .i64 o] w1 fun r w' => ∃ a1, r = .returned (.tuple #[.slice a1 (firstL (L.eraseIdx o)).length (firstL (L.eraseIdx o)).length, .agg (Ent.arr E2), .int .i64 0]) ∧ RowE w' a1 (firstL (L.eraseIdx o)).length (firstL (L.eraseIdx o)) ∧ Kp w1 w') := Lib.hid (fun w1 g => by
    have q := ptake_any a0 cap N L o w1 (hT.kp g) hN (h.kp g) hw
    have e1 : (takeB L o).1 = firstL (L.eraseIdx o) := by unfold takeB; rw [ho, if_pos rfl, if_pos (by omega), hmo, if_pos rfl, Int.toNat_natCast]
    have e2 : (takeB L o).2.2 = 0 := by unfold takeB; rw [ho, if_pos rfl, if_pos (by omega), hmo, if_pos rfl]
    rw [e1, e2, hE2] at q
    exact q)
  unfold Ent.arr at HPt
  clear hE2
  clear hc hm1 hm2 hm3 n8 nc hK hx
  have H := Lib.hid h
  have HN := Lib.hid hN
  have HW := Lib.hid hw
  have HO := Lib.hid ho
  have HI := Lib.hid (And.intro k1 (And.intro o1 hne))
  clear h hN hw ho k1 o1 hne hT
  go_enter Tryd.func6, Tryd.ntmps6
  go_wp2_with (first
      | (go_at_call 15; refine HC.out.mono ?_; rintro r w9 ⟨rfl, hg⟩; have HK := Lib.hid hg; clear hg)
      | (go_at_call 17; refine (HM.out _ _ _ _ HK.out (by first | exact .inl ⟨rfl, rfl, rfl⟩ | exact .inr (.inl ⟨rfl, rfl, rfl⟩) | exact .inr (.inr ⟨rfl, rfl, rfl⟩))).mono ?_; rintro r w9 ⟨rfl, hg⟩; have HK := Lib.hid (Kp.trans HK.out hg); clear hg)
      | (go_at_call 7; refine (wakes_any _ (HT.out.kp HK.out)).mono ?_; rintro r w9 ⟨rfl, hg⟩; have HK := Lib.hid (Kp.trans HK.out hg); clear hg))
  have hst := still_may HIy.out.1 (by have := HI.out.2.1; have := HN.out; omega) HIy.out.2 HI.out.2.2
  have hpt := HPt.out _ HK.out
  go_wp2_with fail
  refine hpt.mono ?_; rintro r w5 ⟨a1, rfl, hr1, hg⟩
  have K5 := Lib.hid (Kp.trans HK.out hg)
  clear hg hpt
  obtain ⟨R, hR⟩ : ∃ R, firstL (L.eraseIdx o) = R := ⟨_, rfl⟩
  rw [hR] at hr1 hst ⊢
  have HRw : Hid (∀ e ∈ R, e.wf) := Lib.hid (fun e he => HW.out e (by rw [← hR] at he; exact List.mem_of_mem_eraseIdx (firstL_sub _ e he)))
  have HR8 : Hid (R.length ≤ 8) := Lib.hid (by rw [← hR]; have := firstL_len (L.eraseIdx o); have := List.length_eraseIdx_le L o; have := (okB_parts HO.out).1; omega)
  obtain ⟨M, hM⟩ : ∃ M, R.length = M := ⟨_, rfl⟩
  rw [hM] at hr1 HR8 ⊢
  have HR1 := Lib.hid hr1
  have HMl := Lib.hid hM
  have HMy := Lib.hid (fun w6 (g : Kp w5 w6) (kk : Int) => pmayat_any a1 M M R kk w6 (HT.out.kp (Kp.trans K5.out g)) hM.symm (hr1.kp g) HRw.out)
  obtain ⟨i0, hi0, hm0⟩ := hst
  have HI0 := Lib.hid hi0
  have HM0 := Lib.hid hm0
  have hiM : i0 < M := by have := (List.getElem?_eq_some_iff.1 hi0).1; omega
  have HiM := Lib.hid hiM
  have hM8 : (M : Int) ≤ 8 := by have := HR8.out; omega
  obtain ⟨b, off, rfl, hlt, hcc⟩ := H.out.at HIy.out.2
  have HCe := Lib.hid (hcc k e HIy.out.2)
  clear hr1 hR hM hi0 hm0 hiM hlt hcc
  go_wp2_with fail
  go_loopw [72] (fun i wr => ∃ j : Nat, j ≤ i0 ∧ i = .int .i64 j ∧ Kp w5 wr) (fun i _ => M - (intOf i).toNat)
  case atStart => exact ⟨0, Nat.zero_le _, rfl, by first | exact Kp.refl _ | exact (Kp.refl w5).alloc _ _⟩
  case round =>
    obtain ⟨j, hj, rfl, hk⟩ := hrel
    obtain ⟨w6, rfl⟩ : ∃ w6, w6 = wr := ⟨_, rfl⟩
    have hjM : j < M := by have := HiM.out; omega
    have j0 : (0 : Int) ≤ (j : Int) := by omega
    have j1 : (j : Int) < (M : Int) := by omega
    have n0 : (0 : Int) ≤ (k : Int) := by omega
    have n1 : (k : Int) < (N : Int) := by have := HI.out.1; omega
    have hx : R[j]? = some (R[j]'(by have := HMl.out; omega)) := List.getElem?_eq_getElem _
    generalize R[j]'(by have := HMl.out; omega) = a at hx
    obtain ⟨b1, off1, rfl, hlt1, hc1⟩ := (HR1.out.kp hk).at hx
    have HK6 := Lib.hid hk
    have HJ := Lib.hid (And.intro hj hjM)
    have HX := Lib.hid hx
    have HMj := Lib.hid (fun w7 (g : Kp w5 w7) => HMy.out w7 g (j : Int))
    have hS : w6.drew.cell? ⟨b1, off1 + j * 5, none⟩ = some (.int .i8 a.k) ∧ w6.drew.cell? ⟨b1, off1 + j * 5 + 1, none⟩ = some (.int .u64 a.w) ∧ w6.drew.cell? ⟨b1, off1 + j * 5 + 2, none⟩ = some (.int .u64 a.x) ∧ w6.drew.cell? ⟨b1, off1 + j * 5 + 3, none⟩ = some (.int .i64 a.fr) ∧ w6.drew.cell? ⟨b1, off1 + j * 5 + 4, none⟩ = some (.int .i64 a.fm) ∧ w6.drew.cell? ⟨b, off + k * 5, none⟩ = some (.int .i8 e.k) ∧ w6.drew.cell? ⟨b, off + k * 5 + 1, none⟩ = some (.int .u64 e.w) ∧ w6.drew.cell? ⟨b, off + k * 5 + 2, none⟩ = some (.int .u64 e.x) ∧ w6.drew.cell? ⟨b, off + k * 5 + 3, none⟩ = some (.int .i64 e.fr) ∧ w6.drew.cell? ⟨b, off + k * 5 + 4, none⟩ = some (.int .i64 e.fm) := by
      obtain ⟨x0, x1, x2, x3, x4⟩ := five_kp (hc1 j a hx) (Kp.drew (Kp.refl w6))
      exact ⟨x0, x1, x2, x3, x4, five_kp HCe.out (Kp.drew (Kp.trans K5.out hk))⟩
    have HS := Lib.hid hS
    have HKd : Hid (Kp w5 w6.drew) := Lib.hid (Kp.drew hk)
    clear hk hj hjM hx hlt1 hc1 hS
    by_cases ha : a = e
    · subst ha
      have he := ent_eq a.k a.w a.x a.fr a.fm a.k a.w a.x a.fr a.fm true (by simp)
      cases hv : mayAt R j with
      | true =>
        rw [hv] at HMj
        go_wp2_with fail
        refine wp_region_held_drew (S := fun w' => w'.cell? ⟨b1, off1 + j * 5, none⟩ = some (.int .i8 a.k) ∧ w'.cell? ⟨b1, off1 + j * 5 + 1, none⟩ = some (.int .u64 a.w) ∧ w'.cell? ⟨b1, off1 + j * 5 + 2, none⟩ = some (.int .u64 a.x) ∧ w'.cell? ⟨b1, off1 + j * 5 + 3, none⟩ = some (.int .i64 a.fr) ∧ w'.cell? ⟨b1, off1 + j * 5 + 4, none⟩ = some (.int .i64 a.fm) ∧ w'.cell? ⟨b, off + k * 5, none⟩ = some (.int .i8 a.k) ∧ w'.cell? ⟨b, off + k * 5 + 1, none⟩ = some (.int .u64 a.w) ∧ w'.cell? ⟨b, off + k * 5 + 2, none⟩ = some (.int .u64 a.x) ∧ w'.cell? ⟨b, off + k * 5 + 3, none⟩ = some (.int .i64 a.fr) ∧ w'.cell? ⟨b, off + k * 5 + 4, none⟩ = some (.int .i64 a.fm)) (by kernel_rfl) HS.out (fun hHeld => ?_)
        clear HS
        refine wpAnyH_take (i := 0) (oi := ?p0y1) (v := ?v0y1) ?o0y1 (by kernel_rfl) (by kernel_rfl) (by kernel_rfl) ?q0y1 ?y0y1 (by assumption) ?r0y1
        case o0y1 => (simp only [List.getElem?_toArray, List.getElem?_cons_zero]; rfl)
        case q0y1 => (exact fun _ _ _ h => h)
        case y0y1 => (refine Or.inl ⟨by rfl, ?_⟩; intro w hSw; (try dsimp only at hSw); go_simp; (try with_reducible rfl))
        simp only [Act.put, List.setIfInBounds_toArray, List.set_cons_zero, List.set_cons_succ]
        refine wpAnyH_take (i := 1) (oi := ?p1y2) (v := ?v1y2) ?o1y2 (by kernel_rfl) (by kernel_rfl) (by kernel_rfl) ?q1y2 ?y1y2 (by assumption) ?r1y2
        case o1y2 => (simp only [List.getElem?_toArray, List.getElem?_cons_succ, List.getElem?_cons_zero]; rfl)
        case q1y2 => (exact fun _ _ _ h => h)
        case y1y2 => (refine Or.inl ⟨by rfl, ?_⟩; intro w hSw; (try dsimp only at hSw); go_simp; (try with_reducible rfl))
        simp only [Act.put, List.setIfInBounds_toArray, List.set_cons_zero, List.set_cons_succ]
        refine wpAnyH_take (i := 2) (oi := ?p2y3) (v := ?v2y3) ?o2y3 (by kernel_rfl) (by kernel_rfl) (by kernel_rfl) ?q2y3 ?y2y3 (by assumption) ?r2y3
        case o2y3 => (simp only [List.getElem?_toArray, List.getElem?_cons_succ, List.getElem?_cons_zero]; rfl)
        case q2y3 => (exact fun _ _ _ h => h)
        case y2y3 => (refine Or.inl ⟨by rfl, ?_⟩; intro w hSw; (try dsimp only at hSw); go_simp; (try with_reducible rfl))
        simp only [Act.put, List.setIfInBounds_toArray, List.set_cons_zero, List.set_cons_succ]
        refine wpAnyH_take (i := 3) (oi := ?p3y4) (v := ?v3y4) ?o3y4 (by kernel_rfl) (by kernel_rfl) (by kernel_rfl) ?q3y4 ?y3y4 (by assumption) ?r3y4
        case o3y4 => (simp only [List.getElem?_toArray, List.getElem?_cons_succ, List.getElem?_cons_zero]; rfl)
        case q3y4 => (exact fun _ _ _ h => h)
        case y3y4 => (refine Or.inl ⟨by rfl, ?_⟩; intro w hSw; (try dsimp only at hSw); go_simp; (try with_reducible rfl))
        simp only [Act.put, List.setIfInBounds_toArray, List.set_cons_zero, List.set_cons_succ]
        refine wpAnyH_take (i := 4) (oi := ?p4y5) (v := ?v4y5) ?o4y5 (by kernel_rfl) (by kernel_rfl) (by kernel_rfl) ?q4y5 ?y4y5 (by assumption) ?r4y5
        case o4y5 => (simp only [List.getElem?_toArray, List.getElem?_cons_succ, List.getElem?_cons_zero]; rfl)
        case q4y5 => (exact fun _ _ _ h => h)
        case y4y5 => (refine Or.inl ⟨by rfl, ?_⟩; intro w hSw; (try dsimp only at hSw); go_simp; (try with_reducible rfl))
        simp only [Act.put, List.setIfInBounds_toArray, List.set_cons_zero, List.set_cons_succ]
        refine wpAnyH_take (i := 5) (oi := ?p5y6) (v := ?v5y6) ?o5y6 (by kernel_rfl) (by kernel_rfl) (by kernel_rfl) ?q5y6 ?y5y6 (by assumption) ?r5y6
        case o5y6 => (simp only [List.getElem?_toArray, List.getElem?_cons_succ, List.getElem?_cons_zero]; rfl)
        case q5y6 => (exact fun _ _ _ h => h)
        case y5y6 => (refine Or.inl ⟨by rfl, ?_⟩; intro w hSw; (try dsimp only at hSw); go_simp; (try with_reducible rfl))
        simp only [Act.put, List.setIfInBounds_toArray, List.set_cons_zero, List.set_cons_succ]
        refine wpAnyH_take (i := 6) (oi := ?p6y7) (v := ?v6y7) ?o6y7 (by kernel_rfl) (by kernel_rfl) (by kernel_rfl) ?q6y7 ?y6y7 (by assumption) ?r6y7
        case o6y7 => (simp only [List.getElem?_toArray, List.getElem?_cons_succ, List.getElem?_cons_zero]; rfl)
        case q6y7 => (exact fun _ _ _ h => h)
        case y6y7 => (refine Or.inl ⟨by rfl, ?_⟩; intro w hSw; (try dsimp only at hSw); go_simp; (try with_reducible rfl))
        simp only [Act.put, List.setIfInBounds_toArray, List.set_cons_zero, List.set_cons_succ]
        refine wpAnyH_take (i := 7) (oi := ?p7y8) (v := ?v7y8) ?o7y8 (by kernel_rfl) (by kernel_rfl) (by kernel_rfl) ?q7y8 ?y7y8 (by assumption) ?r7y8
        case o7y8 => (simp only [List.getElem?_toArray, List.getElem?_cons_succ, List.getElem?_cons_zero]; rfl)
        case q7y8 => (exact fun _ _ _ h => h)
        case y7y8 => (refine Or.inl ⟨by rfl, ?_⟩; intro w hSw; (try dsimp only at hSw); go_simp; (try with_reducible rfl))
        simp only [Act.put, List.setIfInBounds_toArray, List.set_cons_zero, List.set_cons_succ]
        refine wpAnyH_take (i := 8) (oi := ?p8y9) (v := ?v8y9) ?o8y9 (by kernel_rfl) (by kernel_rfl) (by kernel_rfl) ?q8y9 ?y8y9 (by assumption) ?r8y9
        case o8y9 => (simp only [List.getElem?_toArray, List.getElem?_cons_succ, List.getElem?_cons_zero]; rfl)
        case q8y9 => (exact fun _ _ _ h => h)
        case y8y9 => (refine Or.inl ⟨by rfl, ?_⟩; intro w hSw; (try dsimp only at hSw); go_simp; (try with_reducible rfl))
        simp only [Act.put, List.setIfInBounds_toArray, List.set_cons_zero, List.set_cons_succ]
        refine wpAnyH_take (i := 9) (oi := ?p9y10) (v := ?v9y10) ?o9y10 (by kernel_rfl) (by kernel_rfl) (by kernel_rfl) ?q9y10 ?y9y10 (by assumption) ?r9y10
        case o9y10 => (simp only [List.getElem?_toArray, List.getElem?_cons_succ, List.getElem?_cons_zero]; rfl)
        case q9y10 => (exact fun _ _ _ h => h)
        case y9y10 => (refine Or.inl ⟨by rfl, ?_⟩; intro w hSw; (try dsimp only at hSw); go_simp; (try with_reducible rfl))
        simp only [Act.put, List.setIfInBounds_toArray, List.set_cons_zero, List.set_cons_succ]
        refine wpAnyH_take (i := 10) (oi := ?p10y11) (v := ?v10y11) ?o10y11 (by kernel_rfl) (by kernel_rfl) (by kernel_rfl) ?q10y11 ?y10y11 (by assumption) ?r10y11
        case o10y11 => (simp only [List.getElem?_toArray, List.getElem?_cons_succ, List.getElem?_cons_zero]; rfl)
        case q10y11 => (exact fun _ _ _ h => h)
        case y10y11 => (refine Or.inl ⟨by rfl, ?_⟩; intro w hSw; (try dsimp only at hSw); go_simp; (try with_reducible rfl))
        simp only [Act.put, List.setIfInBounds_toArray, List.set_cons_zero, List.set_cons_succ]
        refine wpAnyH_take (i := 11) (oi := ?p11y12) (v := ?v11y12) ?o11y12 (by kernel_rfl) (by kernel_rfl) (by kernel_rfl) ?q11y12 ?y11y12 (by assumption) ?r11y12
        case o11y12 => (simp only [List.getElem?_toArray, List.getElem?_cons_succ, List.getElem?_cons_zero]; rfl)
        case q11y12 => (exact fun _ _ _ h => h)
        case y11y12 => (refine Or.inl ⟨by rfl, ?_⟩; intro w hSw; (try dsimp only at hSw); go_simp; (try with_reducible rfl))
        simp only [Act.put, List.setIfInBounds_toArray, List.set_cons_zero, List.set_cons_succ]
        refine wpAnyH_ready (rs := [12]) (by kernel_rfl) (by simp) ?_
        refine AllReadyH.cons (o := ?pc13) ?oc13 (fun K hK => ?wc13) AllReadyH.nil
        case oc13 => (simp only [List.getElem?_toArray, List.getElem?_cons_succ, List.getElem?_cons_zero]; rfl)
        rw [if_pos (by rfl)]
        go_simp
        refine (HMj.out _ HKd.out).mono ?_; rintro r w7 ⟨rfl, hg⟩
        (try go_wp2_with fail)
        have hH' := tenb_kp hHeld hg
        have K7 := Lib.hid (Kp.trans HKd.out hg)
        refine hK.out _ _ hH' (fun hHeld2 => ?_)
        clear hK K hg hH' hHeld
        have hHeld := hHeld2
        clear hHeld2
        refine wpAnyH_take (i := 13) (oi := ?p13y14) (v := ?v13y14) ?o13y14 (by kernel_rfl) (by kernel_rfl) (by kernel_rfl) ?q13y14 ?y13y14 (by assumption) ?r13y14
        case o13y14 => (simp only [List.getElem?_toArray, List.getElem?_cons_succ, List.getElem?_cons_zero]; rfl)
        case q13y14 => (exact fun _ _ _ h => h)
        case y13y14 => (refine Or.inl ⟨by rfl, ?_⟩; intro w hSw; (try dsimp only at hSw); go_simp; (try with_reducible rfl))
        simp only [Act.put, List.setIfInBounds_toArray, List.set_cons_zero, List.set_cons_succ]
        refine wpAnyH_done (by kernel_rfl) ?_ _
        clear hHeld
        go_wp2_with fail
        refine (wakes_any _ (HT.out.kp (Kp.trans K5.out K7.out))).mono ?_; rintro r w8 ⟨rfl, hg⟩
        have K8 := Lib.hid (Kp.trans (Kp.trans K5.out K7.out) hg)
        clear hg
        go_wp2_with fail
        go_ret
        exact ⟨rfl, K8.out⟩
      | false =>
        rw [hv] at HMj
        go_wp2_with fail
        refine wp_region_held_drew (S := fun w' => w'.cell? ⟨b1, off1 + j * 5, none⟩ = some (.int .i8 a.k) ∧ w'.cell? ⟨b1, off1 + j * 5 + 1, none⟩ = some (.int .u64 a.w) ∧ w'.cell? ⟨b1, off1 + j * 5 + 2, none⟩ = some (.int .u64 a.x) ∧ w'.cell? ⟨b1, off1 + j * 5 + 3, none⟩ = some (.int .i64 a.fr) ∧ w'.cell? ⟨b1, off1 + j * 5 + 4, none⟩ = some (.int .i64 a.fm) ∧ w'.cell? ⟨b, off + k * 5, none⟩ = some (.int .i8 a.k) ∧ w'.cell? ⟨b, off + k * 5 + 1, none⟩ = some (.int .u64 a.w) ∧ w'.cell? ⟨b, off + k * 5 + 2, none⟩ = some (.int .u64 a.x) ∧ w'.cell? ⟨b, off + k * 5 + 3, none⟩ = some (.int .i64 a.fr) ∧ w'.cell? ⟨b, off + k * 5 + 4, none⟩ = some (.int .i64 a.fm)) (by kernel_rfl) HS.out (fun hHeld => ?_)
        clear HS
        refine wpAnyH_take (i := 0) (oi := ?p0y15) (v := ?v0y15) ?o0y15 (by kernel_rfl) (by kernel_rfl) (by kernel_rfl) ?q0y15 ?y0y15 (by assumption) ?r0y15
        case o0y15 => (simp only [List.getElem?_toArray, List.getElem?_cons_zero]; rfl)
        case q0y15 => (exact fun _ _ _ h => h)
        case y0y15 => (refine Or.inl ⟨by rfl, ?_⟩; intro w hSw; (try dsimp only at hSw); go_simp; (try with_reducible rfl))
        simp only [Act.put, List.setIfInBounds_toArray, List.set_cons_zero, List.set_cons_succ]
        refine wpAnyH_take (i := 1) (oi := ?p1y16) (v := ?v1y16) ?o1y16 (by kernel_rfl) (by kernel_rfl) (by kernel_rfl) ?q1y16 ?y1y16 (by assumption) ?r1y16
        case o1y16 => (simp only [List.getElem?_toArray, List.getElem?_cons_succ, List.getElem?_cons_zero]; rfl)
        case q1y16 => (exact fun _ _ _ h => h)
        case y1y16 => (refine Or.inl ⟨by rfl, ?_⟩; intro w hSw; (try dsimp only at hSw); go_simp; (try with_reducible rfl))
        simp only [Act.put, List.setIfInBounds_toArray, List.set_cons_zero, List.set_cons_succ]
        refine wpAnyH_take (i := 2) (oi := ?p2y17) (v := ?v2y17) ?o2y17 (by kernel_rfl) (by kernel_rfl) (by kernel_rfl) ?q2y17 ?y2y17 (by assumption) ?r2y17
        case o2y17 => (simp only [List.getElem?_toArray, List.getElem?_cons_succ, List.getElem?_cons_zero]; rfl)
        case q2y17 => (exact fun _ _ _ h => h)
        case y2y17 => (refine Or.inl ⟨by rfl, ?_⟩; intro w hSw; (try dsimp only at hSw); go_simp; (try with_reducible rfl))
        simp only [Act.put, List.setIfInBounds_toArray, List.set_cons_zero, List.set_cons_succ]
        refine wpAnyH_take (i := 3) (oi := ?p3y18) (v := ?v3y18) ?o3y18 (by kernel_rfl) (by kernel_rfl) (by kernel_rfl) ?q3y18 ?y3y18 (by assumption) ?r3y18
        case o3y18 => (simp only [List.getElem?_toArray, List.getElem?_cons_succ, List.getElem?_cons_zero]; rfl)
        case q3y18 => (exact fun _ _ _ h => h)
        case y3y18 => (refine Or.inl ⟨by rfl, ?_⟩; intro w hSw; (try dsimp only at hSw); go_simp; (try with_reducible rfl))
        simp only [Act.put, List.setIfInBounds_toArray, List.set_cons_zero, List.set_cons_succ]
        refine wpAnyH_take (i := 4) (oi := ?p4y19) (v := ?v4y19) ?o4y19 (by kernel_rfl) (by kernel_rfl) (by kernel_rfl) ?q4y19 ?y4y19 (by assumption) ?r4y19
        case o4y19 => (simp only [List.getElem?_toArray, List.getElem?_cons_succ, List.getElem?_cons_zero]; rfl)
        case q4y19 => (exact fun _ _ _ h => h)
        case y4y19 => (refine Or.inl ⟨by rfl, ?_⟩; intro w hSw; (try dsimp only at hSw); go_simp; (try with_reducible rfl))
        simp only [Act.put, List.setIfInBounds_toArray, List.set_cons_zero, List.set_cons_succ]
        refine wpAnyH_take (i := 5) (oi := ?p5y20) (v := ?v5y20) ?o5y20 (by kernel_rfl) (by kernel_rfl) (by kernel_rfl) ?q5y20 ?y5y20 (by assumption) ?r5y20
        case o5y20 => (simp only [List.getElem?_toArray, List.getElem?_cons_succ, List.getElem?_cons_zero]; rfl)
        case q5y20 => (exact fun _ _ _ h => h)
        case y5y20 => (refine Or.inl ⟨by rfl, ?_⟩; intro w hSw; (try dsimp only at hSw); go_simp; (try with_reducible rfl))
        simp only [Act.put, List.setIfInBounds_toArray, List.set_cons_zero, List.set_cons_succ]
        refine wpAnyH_take (i := 6) (oi := ?p6y21) (v := ?v6y21) ?o6y21 (by kernel_rfl) (by kernel_rfl) (by kernel_rfl) ?q6y21 ?y6y21 (by assumption) ?r6y21
        case o6y21 => (simp only [List.getElem?_toArray, List.getElem?_cons_succ, List.getElem?_cons_zero]; rfl)
        case q6y21 => (exact fun _ _ _ h => h)
        case y6y21 => (refine Or.inl ⟨by rfl, ?_⟩; intro w hSw; (try dsimp only at hSw); go_simp; (try with_reducible rfl))
        simp only [Act.put, List.setIfInBounds_toArray, List.set_cons_zero, List.set_cons_succ]
        refine wpAnyH_take (i := 7) (oi := ?p7y22) (v := ?v7y22) ?o7y22 (by kernel_rfl) (by kernel_rfl) (by kernel_rfl) ?q7y22 ?y7y22 (by assumption) ?r7y22
        case o7y22 => (simp only [List.getElem?_toArray, List.getElem?_cons_succ, List.getElem?_cons_zero]; rfl)
        case q7y22 => (exact fun _ _ _ h => h)
        case y7y22 => (refine Or.inl ⟨by rfl, ?_⟩; intro w hSw; (try dsimp only at hSw); go_simp; (try with_reducible rfl))
        simp only [Act.put, List.setIfInBounds_toArray, List.set_cons_zero, List.set_cons_succ]
        refine wpAnyH_take (i := 8) (oi := ?p8y23) (v := ?v8y23) ?o8y23 (by kernel_rfl) (by kernel_rfl) (by kernel_rfl) ?q8y23 ?y8y23 (by assumption) ?r8y23
        case o8y23 => (simp only [List.getElem?_toArray, List.getElem?_cons_succ, List.getElem?_cons_zero]; rfl)
        case q8y23 => (exact fun _ _ _ h => h)
        case y8y23 => (refine Or.inl ⟨by rfl, ?_⟩; intro w hSw; (try dsimp only at hSw); go_simp; (try with_reducible rfl))
        simp only [Act.put, List.setIfInBounds_toArray, List.set_cons_zero, List.set_cons_succ]
        refine wpAnyH_take (i := 9) (oi := ?p9y24) (v := ?v9y24) ?o9y24 (by kernel_rfl) (by kernel_rfl) (by kernel_rfl) ?q9y24 ?y9y24 (by assumption) ?r9y24
        case o9y24 => (simp only [List.getElem?_toArray, List.getElem?_cons_succ, List.getElem?_cons_zero]; rfl)
        case q9y24 => (exact fun _ _ _ h => h)
        case y9y24 => (refine Or.inl ⟨by rfl, ?_⟩; intro w hSw; (try dsimp only at hSw); go_simp; (try with_reducible rfl))
        simp only [Act.put, List.setIfInBounds_toArray, List.set_cons_zero, List.set_cons_succ]
        refine wpAnyH_take (i := 10) (oi := ?p10y25) (v := ?v10y25) ?o10y25 (by kernel_rfl) (by kernel_rfl) (by kernel_rfl) ?q10y25 ?y10y25 (by assumption) ?r10y25
        case o10y25 => (simp only [List.getElem?_toArray, List.getElem?_cons_succ, List.getElem?_cons_zero]; rfl)
        case q10y25 => (exact fun _ _ _ h => h)
        case y10y25 => (refine Or.inl ⟨by rfl, ?_⟩; intro w hSw; (try dsimp only at hSw); go_simp; (try with_reducible rfl))
        simp only [Act.put, List.setIfInBounds_toArray, List.set_cons_zero, List.set_cons_succ]
        refine wpAnyH_take (i := 11) (oi := ?p11y26) (v := ?v11y26) ?o11y26 (by kernel_rfl) (by kernel_rfl) (by kernel_rfl) ?q11y26 ?y11y26 (by assumption) ?r11y26
        case o11y26 => (simp only [List.getElem?_toArray, List.getElem?_cons_succ, List.getElem?_cons_zero]; rfl)
        case q11y26 => (exact fun _ _ _ h => h)
        case y11y26 => (refine Or.inl ⟨by rfl, ?_⟩; intro w hSw; (try dsimp only at hSw); go_simp; (try with_reducible rfl))
        simp only [Act.put, List.setIfInBounds_toArray, List.set_cons_zero, List.set_cons_succ]
        refine wpAnyH_ready (rs := [12]) (by kernel_rfl) (by simp) ?_
        refine AllReadyH.cons (o := ?pc27) ?oc27 (fun K hK => ?wc27) AllReadyH.nil
        case oc27 => (simp only [List.getElem?_toArray, List.getElem?_cons_succ, List.getElem?_cons_zero]; rfl)
        rw [if_pos (by rfl)]
        go_simp
        refine (HMj.out _ HKd.out).mono ?_; rintro r w7 ⟨rfl, hg⟩
        (try go_wp2_with fail)
        have hH' := tenb_kp hHeld hg
        have K7 := Lib.hid (Kp.trans HKd.out hg)
        refine hK.out _ _ hH' (fun hHeld2 => ?_)
        clear hK K hg hH' hHeld
        have hHeld := hHeld2
        clear hHeld2
        refine wpAnyH_take (i := 13) (oi := ?p13y28) (v := ?v13y28) ?o13y28 (by kernel_rfl) (by kernel_rfl) (by kernel_rfl) ?q13y28 ?y13y28 (by assumption) ?r13y28
        case o13y28 => (simp only [List.getElem?_toArray, List.getElem?_cons_succ, List.getElem?_cons_zero]; rfl)
        case q13y28 => (exact fun _ _ _ h => h)
        case y13y28 => (refine Or.inl ⟨by rfl, ?_⟩; intro w hSw; (try dsimp only at hSw); go_simp; (try with_reducible rfl))
        simp only [Act.put, List.setIfInBounds_toArray, List.set_cons_zero, List.set_cons_succ]
        refine wpAnyH_done (by kernel_rfl) ?_ _
        clear hHeld
        go_wp2_with fail
        go_roundw
        case rel =>
          have hlt : j + 1 ≤ i0 := by
            rcases Nat.lt_or_ge j i0 with q | q
            · exact q
            · exfalso
              obtain rfl : j = i0 := Nat.le_antisymm HJ.out.1 q
              have := HM0.out
              rw [hv] at this
              cases this
          exact ⟨j + 1, hlt, by go_num, K7.out⟩
        case measure => have := HJ.out.2; simp [intOf]; omega
    · have he := ent_eq a.k a.w a.x a.fr a.fm e.k e.w e.x e.fr e.fm false (by
        apply decide_eq_false
        rintro ⟨h1, h2, h3, h4, h5⟩
        apply ha
        obtain ⟨q1, q2, q3, q4, q5⟩ := a
        obtain ⟨p1, p2, p3, p4, p5⟩ := e
        simp only at h1 h2 h3 h4 h5
        obtain rfl : q2 = p2 := by omega
        obtain rfl : q3 = p3 := by omega
        rw [h1, h4, h5])
      go_wp2_with fail
      refine wp_region_held_drew (S := fun w' => w'.cell? ⟨b1, off1 + j * 5, none⟩ = some (.int .i8 a.k) ∧ w'.cell? ⟨b1, off1 + j * 5 + 1, none⟩ = some (.int .u64 a.w) ∧ w'.cell? ⟨b1, off1 + j * 5 + 2, none⟩ = some (.int .u64 a.x) ∧ w'.cell? ⟨b1, off1 + j * 5 + 3, none⟩ = some (.int .i64 a.fr) ∧ w'.cell? ⟨b1, off1 + j * 5 + 4, none⟩ = some (.int .i64 a.fm) ∧ w'.cell? ⟨b, off + k * 5, none⟩ = some (.int .i8 e.k) ∧ w'.cell? ⟨b, off + k * 5 + 1, none⟩ = some (.int .u64 e.w) ∧ w'.cell? ⟨b, off + k * 5 + 2, none⟩ = some (.int .u64 e.x) ∧ w'.cell? ⟨b, off + k * 5 + 3, none⟩ = some (.int .i64 e.fr) ∧ w'.cell? ⟨b, off + k * 5 + 4, none⟩ = some (.int .i64 e.fm)) (by kernel_rfl) HS.out (fun hHeld => ?_)
      clear HS
      refine wpAnyH_take (i := 0) (oi := ?p0y29) (v := ?v0y29) ?o0y29 (by kernel_rfl) (by kernel_rfl) (by kernel_rfl) ?q0y29 ?y0y29 (by assumption) ?r0y29
      case o0y29 => (simp only [List.getElem?_toArray, List.getElem?_cons_zero]; rfl)
      case q0y29 => (exact fun _ _ _ h => h)
      case y0y29 => (refine Or.inl ⟨by rfl, ?_⟩; intro w hSw; (try dsimp only at hSw); go_simp; (try with_reducible rfl))
      simp only [Act.put, List.setIfInBounds_toArray, List.set_cons_zero, List.set_cons_succ]
      refine wpAnyH_take (i := 1) (oi := ?p1y30) (v := ?v1y30) ?o1y30 (by kernel_rfl) (by kernel_rfl) (by kernel_rfl) ?q1y30 ?y1y30 (by assumption) ?r1y30
      case o1y30 => (simp only [List.getElem?_toArray, List.getElem?_cons_succ, List.getElem?_cons_zero]; rfl)
      case q1y30 => (exact fun _ _ _ h => h)
      case y1y30 => (refine Or.inl ⟨by rfl, ?_⟩; intro w hSw; (try dsimp only at hSw); go_simp; (try with_reducible rfl))
      simp only [Act.put, List.setIfInBounds_toArray, List.set_cons_zero, List.set_cons_succ]
      refine wpAnyH_take (i := 2) (oi := ?p2y31) (v := ?v2y31) ?o2y31 (by kernel_rfl) (by kernel_rfl) (by kernel_rfl) ?q2y31 ?y2y31 (by assumption) ?r2y31
      case o2y31 => (simp only [List.getElem?_toArray, List.getElem?_cons_succ, List.getElem?_cons_zero]; rfl)
      case q2y31 => (exact fun _ _ _ h => h)
      case y2y31 => (refine Or.inl ⟨by rfl, ?_⟩; intro w hSw; (try dsimp only at hSw); go_simp; (try with_reducible rfl))
      simp only [Act.put, List.setIfInBounds_toArray, List.set_cons_zero, List.set_cons_succ]
      refine wpAnyH_take (i := 3) (oi := ?p3y32) (v := ?v3y32) ?o3y32 (by kernel_rfl) (by kernel_rfl) (by kernel_rfl) ?q3y32 ?y3y32 (by assumption) ?r3y32
      case o3y32 => (simp only [List.getElem?_toArray, List.getElem?_cons_succ, List.getElem?_cons_zero]; rfl)
      case q3y32 => (exact fun _ _ _ h => h)
      case y3y32 => (refine Or.inl ⟨by rfl, ?_⟩; intro w hSw; (try dsimp only at hSw); go_simp; (try with_reducible rfl))
      simp only [Act.put, List.setIfInBounds_toArray, List.set_cons_zero, List.set_cons_succ]
      refine wpAnyH_take (i := 4) (oi := ?p4y33) (v := ?v4y33) ?o4y33 (by kernel_rfl) (by kernel_rfl) (by kernel_rfl) ?q4y33 ?y4y33 (by assumption) ?r4y33
      case o4y33 => (simp only [List.getElem?_toArray, List.getElem?_cons_succ, List.getElem?_cons_zero]; rfl)
      case q4y33 => (exact fun _ _ _ h => h)
      case y4y33 => (refine Or.inl ⟨by rfl, ?_⟩; intro w hSw; (try dsimp only at hSw); go_simp; (try with_reducible rfl))
      simp only [Act.put, List.setIfInBounds_toArray, List.set_cons_zero, List.set_cons_succ]
      refine wpAnyH_take (i := 5) (oi := ?p5y34) (v := ?v5y34) ?o5y34 (by kernel_rfl) (by kernel_rfl) (by kernel_rfl) ?q5y34 ?y5y34 (by assumption) ?r5y34
      case o5y34 => (simp only [List.getElem?_toArray, List.getElem?_cons_succ, List.getElem?_cons_zero]; rfl)
      case q5y34 => (exact fun _ _ _ h => h)
      case y5y34 => (refine Or.inl ⟨by rfl, ?_⟩; intro w hSw; (try dsimp only at hSw); go_simp; (try with_reducible rfl))
      simp only [Act.put, List.setIfInBounds_toArray, List.set_cons_zero, List.set_cons_succ]
      refine wpAnyH_take (i := 6) (oi := ?p6y35) (v := ?v6y35) ?o6y35 (by kernel_rfl) (by kernel_rfl) (by kernel_rfl) ?q6y35 ?y6y35 (by assumption) ?r6y35
      case o6y35 => (simp only [List.getElem?_toArray, List.getElem?_cons_succ, List.getElem?_cons_zero]; rfl)
      case q6y35 => (exact fun _ _ _ h => h)
      case y6y35 => (refine Or.inl ⟨by rfl, ?_⟩; intro w hSw; (try dsimp only at hSw); go_simp; (try with_reducible rfl))
      simp only [Act.put, List.setIfInBounds_toArray, List.set_cons_zero, List.set_cons_succ]
      refine wpAnyH_take (i := 7) (oi := ?p7y36) (v := ?v7y36) ?o7y36 (by kernel_rfl) (by kernel_rfl) (by kernel_rfl) ?q7y36 ?y7y36 (by assumption) ?r7y36
      case o7y36 => (simp only [List.getElem?_toArray, List.getElem?_cons_succ, List.getElem?_cons_zero]; rfl)
      case q7y36 => (exact fun _ _ _ h => h)
      case y7y36 => (refine Or.inl ⟨by rfl, ?_⟩; intro w hSw; (try dsimp only at hSw); go_simp; (try with_reducible rfl))
      simp only [Act.put, List.setIfInBounds_toArray, List.set_cons_zero, List.set_cons_succ]
      refine wpAnyH_take (i := 8) (oi := ?p8y37) (v := ?v8y37) ?o8y37 (by kernel_rfl) (by kernel_rfl) (by kernel_rfl) ?q8y37 ?y8y37 (by assumption) ?r8y37
      case o8y37 => (simp only [List.getElem?_toArray, List.getElem?_cons_succ, List.getElem?_cons_zero]; rfl)
      case q8y37 => (exact fun _ _ _ h => h)
      case y8y37 => (refine Or.inl ⟨by rfl, ?_⟩; intro w hSw; (try dsimp only at hSw); go_simp; (try with_reducible rfl))
      simp only [Act.put, List.setIfInBounds_toArray, List.set_cons_zero, List.set_cons_succ]
      refine wpAnyH_take (i := 9) (oi := ?p9y38) (v := ?v9y38) ?o9y38 (by kernel_rfl) (by kernel_rfl) (by kernel_rfl) ?q9y38 ?y9y38 (by assumption) ?r9y38
      case o9y38 => (simp only [List.getElem?_toArray, List.getElem?_cons_succ, List.getElem?_cons_zero]; rfl)
      case q9y38 => (exact fun _ _ _ h => h)
      case y9y38 => (refine Or.inl ⟨by rfl, ?_⟩; intro w hSw; (try dsimp only at hSw); go_simp; (try with_reducible rfl))
      simp only [Act.put, List.setIfInBounds_toArray, List.set_cons_zero, List.set_cons_succ]
      refine wpAnyH_take (i := 10) (oi := ?p10y39) (v := undef) ?o10y39 (by kernel_rfl) (by kernel_rfl) (by kernel_rfl) ?q10y39 ?y10y39 (by assumption) ?r10y39
      case o10y39 => (simp only [List.getElem?_toArray, List.getElem?_cons_succ, List.getElem?_cons_zero]; rfl)
      case q10y39 => (exact fun _ _ _ h => h)
      case y10y39 => (exact Or.inr ⟨by rfl, rfl⟩)
      simp only [Act.put, List.setIfInBounds_toArray, List.set_cons_zero, List.set_cons_succ]
      refine wpAnyH_take (i := 11) (oi := ?p11y40) (v := undef) ?o11y40 (by kernel_rfl) (by kernel_rfl) (by kernel_rfl) ?q11y40 ?y11y40 (by assumption) ?r11y40
      case o11y40 => (simp only [List.getElem?_toArray, List.getElem?_cons_succ, List.getElem?_cons_zero]; rfl)
      case q11y40 => (exact fun _ _ _ h => h)
      case y11y40 => (exact Or.inr ⟨by rfl, rfl⟩)
      simp only [Act.put, List.setIfInBounds_toArray, List.set_cons_zero, List.set_cons_succ]
      refine wpAnyH_take (i := 12) (oi := ?p12y41) (v := undef) ?o12y41 (by kernel_rfl) (by kernel_rfl) (by kernel_rfl) ?q12y41 ?y12y41 (by assumption) ?r12y41
      case o12y41 => (simp only [List.getElem?_toArray, List.getElem?_cons_succ, List.getElem?_cons_zero]; rfl)
      case q12y41 => (exact fun _ _ _ h => h)
      case y12y41 => (exact Or.inr ⟨by rfl, rfl⟩)
      simp only [Act.put, List.setIfInBounds_toArray, List.set_cons_zero, List.set_cons_succ]
      refine wpAnyH_take (i := 13) (oi := ?p13y42) (v := ?v13y42) ?o13y42 (by kernel_rfl) (by kernel_rfl) (by kernel_rfl) ?q13y42 ?y13y42 (by assumption) ?r13y42
      case o13y42 => (simp only [List.getElem?_toArray, List.getElem?_cons_succ, List.getElem?_cons_zero]; rfl)
      case q13y42 => (exact fun _ _ _ h => h)
      case y13y42 => (refine Or.inl ⟨by rfl, ?_⟩; intro w hSw; (try dsimp only at hSw); go_simp; (try with_reducible rfl))
      simp only [Act.put, List.setIfInBounds_toArray, List.set_cons_zero, List.set_cons_succ]
      refine wpAnyH_done (by kernel_rfl) ?_ _
      clear hHeld
      go_wp2_with fail
      go_roundw
      case rel =>
        have hlt : j + 1 ≤ i0 := by
          rcases Nat.lt_or_ge j i0 with q | q
          · exact q
          · exfalso
            obtain rfl : j = i0 := Nat.le_antisymm HJ.out.1 q
            have := HX.out
            rw [HI0.out] at this
            cases this
            exact ha rfl
        exact ⟨j + 1, hlt, by go_num, HKd.out⟩
      case measure => have := HJ.out.2; simp [intOf]; omega
theorem ahead_any (a0 : Option Addr) (cap N : Nat) (L : List Ent) (k o : Int) (w : World) (hT : TabsOk w) (hN : N = L.length) (h : RowE w a0 cap L) (hw : ∀ e ∈ L, e.wf) :
    Calls Tryd.prog 6 #[.slice a0 N cap, .int .i64 k, .int .i64 o] w fun r w' => r = .returned (.bool true) ∧ Kp w w' := by
  cases ho : okB L with
  | false => exact ahead_bad a0 cap N L k o w hT hN h hw ho
  | true =>
  by_cases k0 : k < 0
  · exact ahead_low a0 cap N L k o w hT hN h hw ho k0
  by_cases k1 : (N : Int) ≤ k
  · exact ahead_high a0 cap N L k o w hT hN h hw ho (by omega) k1
  by_cases o0 : o < 0
  · exact ahead_olow a0 cap N L k o w hT hN h hw ho (by omega) (by omega) o0
  by_cases o1 : (N : Int) ≤ o
  · exact ahead_ohigh a0 cap N L k o w hT hN h hw ho (by omega) (by omega) (by omega) o1
  by_cases hs : o = k
  · exact ahead_same a0 cap N L k o w hT hN h hw ho (by omega) (by omega) hs
  obtain ⟨k', rfl⟩ : ∃ n : Nat, k = n := ⟨k.toNat, by omega⟩
  obtain ⟨o', rfl⟩ : ∃ n : Nat, o = n := ⟨o.toNat, by omega⟩
  cases hmk : mayAt L k' with
  | false => exact ahead_nk a0 cap N L k' o' w hT hN h hw ho (by omega) (by omega) (by omega) hmk
  | true =>
    cases hmo : mayAt L o' with
    | false => exact ahead_no a0 cap N L k' o' w hT hN h hw ho (by omega) (by omega) (by omega) hmk hmo
    | true => exact ahead_yes a0 cap N L k' o' w hT hN h hw ho (by omega) (by omega) (by omega) hmk hmo
end Go.Proofs.YtgjjbgijdgihcaaDoor
