/-
  The law on rows of acts. No condition.
-/
import Derived.Test.YtnjdglejcfdonaaStep08
import Derived.Test.YtnjdglejcfdonaaOrder08
import Derived.Test.YtnjdglejcfdonaaOpenL
namespace Go.Proofs.Ytnjdglejcfdonaa
open Go Go.RowKit Go.Maps

theorem i8_in (a : Int) (h : (Lit.int .i8 a).wf = true) : -128 ≤ a ∧ a < 128 := by
  simp [Lit.wf, IntKind.min, IntKind.max, IntKind.bits, IntKind.signed] at h
  omega
theorem i64_in (a : Int) (h : (Lit.int .i64 a).wf = true) : -9223372036854775808 ≤ a ∧ a < 9223372036854775808 := by
  simp [Lit.wf, IntKind.min, IntKind.max, IntKind.bits, IntKind.signed] at h
  omega
theorem plays_over (x : Int) (L : List (List Value)) (cap : Nat) (qa : Option Addr) (w : World) (hl : 300 < L.length) :
    Calls Try.prog 3 #[.int .i64 x, .slice qa L.length cap] w fun e w' => e = .returned (.bool true) ∧ Kp w w' := by
  have e1 : decide ((300 : Int) < (L.length : Int)) = true := decide_eq_true (by omega)
  have e2 : decide (300 < L.length) = true := decide_eq_true hl
  go_enter Try.func3, Try.ntmps3
  go_wp2_with (go_at_call 7; refine (wakes_any _).mono ?_; rintro e vz ⟨rfl, hg⟩; have HZ0 := Lib.hid hg; clear hg)
  go_ret
  exact ⟨rfl, HZ0.out⟩
/-- No memory of so many frames. -/
theorem plays_no (x : Int) (L : List (List Value)) (cap : Nat) (qa : Option Addr) (w : World) (hl : L.length ≤ 300) (hx : x < 1 ∨ 64 < x) :
    Calls Try.prog 3 #[.int .i64 x, .slice qa L.length cap] w fun e w' => e = .returned (.bool true) ∧ Kp w w' := by
  have e1 : decide ((300 : Int) < (L.length : Int)) = false := decide_eq_false (by omega)
  have e2 : decide (300 < L.length) = false := decide_eq_false (by omega)
  have HX := Lib.hid hx
  clear hx hl
  go_enter Try.func3, Try.ntmps3
  go_wp2_with (first
    | (go_at_call 8; refine (pnew_no x w HX.out).mono ?_; rintro e w1 ⟨rfl, hg⟩; have K1 := Lib.hid hg; clear hg)
    | (go_at_call 9; refine (rnew_no x w1 HX.out).mono ?_; rintro e w2 ⟨rfl, hg⟩; have K2 := Lib.hid hg; clear hg)
    | (go_at_call 7; refine (wakes_any _).mono ?_; rintro e vz ⟨rfl, hg⟩; have HZ0 := Lib.hid hg; clear hg))
  refine wp_loop_rounds 1 ?_
  rw [rounds_succ]
  by_cases z1 : 0 < L.length
  · have f1 : decide ((0 : Int) < (L.length : Int)) = true := decide_eq_true (by omega)
    have f2 : decide (0 < L.length) = true := decide_eq_true z1
    go_wp2_with fail
    refine wp_loop_rounds 1 ?_
    rw [rounds_succ]
    by_cases z2 : -1 ≤ x
    · have f3 : decide (-1 ≤ x) = true := decide_eq_true z2
      go_wp2_with (go_at_call 7; refine (wakes_any _).mono ?_; rintro e vz ⟨rfl, hg⟩; have HZ0 := Lib.hid hg; clear hg)
      go_ret
      exact ⟨rfl, (K1.out.trans K2.out).trans HZ0.out⟩
    · have f3 : decide (-1 ≤ x) = false := decide_eq_false z2
      go_wp2_with (go_at_call 7; refine (wakes_any _).mono ?_; rintro e vz ⟨rfl, hg⟩; have HZ0 := Lib.hid hg; clear hg)
      go_ret
      exact ⟨rfl, (K1.out.trans K2.out).trans HZ0.out⟩
  · have f1 : decide ((0 : Int) < (L.length : Int)) = false := decide_eq_false (by omega)
    have f2 : decide (0 < L.length) = false := decide_eq_false z1
    go_wp2_with fail
    refine wp_loop_rounds 1 ?_
    rw [rounds_succ]
    by_cases z2 : -1 ≤ x
    · have f3 : decide (-1 ≤ x) = true := decide_eq_true z2
      go_wp2_with (go_at_call 7; refine (wakes_any _).mono ?_; rintro e vz ⟨rfl, hg⟩; have HZ0 := Lib.hid hg; clear hg)
      go_ret
      exact ⟨rfl, (K1.out.trans K2.out).trans HZ0.out⟩
    · have f3 : decide (-1 ≤ x) = false := decide_eq_false z2
      go_wp2_with (go_at_call 7; refine (wakes_any _).mono ?_; rintro e vz ⟨rfl, hg⟩; have HZ0 := Lib.hid hg; clear hg)
      go_ret
      exact ⟨rfl, (K1.out.trans K2.out).trans HZ0.out⟩
theorem two_copy {Q : MemP} {S1 S2 : Nat → Prop} {wb : World} {b n : Nat} (sQ : Stable Q) (V : Nat → Nat → Nat) (w : World) (h : Two (PQ b n V) Q S1 S2 wb w) :
    Calls Try.prog 11 #[.pointer (some ⟨b, 0, none⟩)] w fun e w' => ∃ b2 T1, e = .returned (.pointer (some ⟨b2, 0, none⟩)) ∧ PMem w' T1 b n V ∧ ∀ w'', Off T1 w' w'' → Two (PQ b2 n V) Q S1 S2 wb w'' := by
  obtain ⟨T1, T2, p, q, d, g1, g2, o⟩ := h
  refine (pcopy_any w T1 b n V p).mono ?_
  rintro e w' ⟨b2, C, rfl, pc, lc, hk⟩
  refine ⟨b2, T1, rfl, p.kp hk, fun w'' o' => ⟨C, T2, pc.off o' (fun k hc ht => ?_), sQ.off (sQ.kp q hk) o' (fun k h2 h1 => d k h1 h2), fun k hc h2 => ?_, fun k hc => .inr (Nat.le_trans o.size (lc k hc)), g2, (o.trans (Off.of_kp (S := fun _ => False) hk) (fun _ q => q.elim)).trans o' (fun k hk => (g1 k hk).imp .inl id)⟩⟩
  · have := lc k hc
    have := p.lt ht
    omega
  · have := lc k hc
    have := sQ.lt q k h2
    omega
theorem two_old {Q : MemP} {S1 S2 T1 : Nat → Prop} {wb w1 : World} {b b2 n : Nat} (V : Nat → Nat → Nat) (p : PMem w1 T1 b n V) (f : ∀ w'', Off T1 w1 w'' → Two (PQ b2 n V) Q S1 S2 wb w'') :
    Calls Try.prog 12 #[.pointer (some ⟨b, 0, none⟩), .int .u64 0, .int .u64 99] w1 fun e w' => ∃ E, e = .returned (.int .i64 E) ∧ Two (PQ b2 n V) Q S1 S2 wb w' :=
  (pwrite_any 0 99 w1 T1 b n V p (by decide) (by decide)).mono fun _ _ ⟨q, _, _, _, o⟩ => ⟨_, q, f _ o⟩
theorem t1_frames {Q : MemP} {S1 S2 : Nat → Prop} {wb : World} {b n : Nat} (V : Nat → Nat → Nat) (w : World) (h : Two (PQ b n V) Q S1 S2 wb w) :
    Calls Try.prog 16 #[.pointer (some ⟨b, 0, none⟩)] w fun e w' => e = .returned (.int .i64 n) ∧ Kp w w' := by
  obtain ⟨T, _, p, _⟩ := h
  exact pframes_any w T b n V p
set_option maxRecDepth 20000 in
set_option maxHeartbeats 8000000 in
theorem plays_yes (n : Nat) (L : List (List Value)) (ba off cap : Nat) (qa : Option Addr) (w : World) (hl : L.length ≤ 300) (h1 : 1 ≤ n) (h64 : n ≤ 64) (hs : L ≠ [] → qa = some ⟨ba, off, none⟩) (hr : RowsIn w ba off 9 [some .i64, some .u64, some .u64, some .i8, some .u64, some .u64, some .i64, some .i64, some .i64] L) (hb : L ≠ [] → ba < w.heap.size) :
    Calls Try.prog 3 #[.int .i64 n, .slice qa L.length cap] w fun e w' => e = .returned (.bool true) ∧ Kp w w' := by
  obtain ⟨N, hN⟩ : ∃ N, N = L.length := ⟨_, rfl⟩
  rw [← hN]
  have hNI : (N : Int) ≤ 300 := by omega
  have HE := Lib.hid hN
  have HS := Lib.hid hs
  have HR := Lib.hid hr
  have HB := Lib.hid hb
  have HNn := Lib.hid (And.intro h1 h64)
  clear hl hN hs hr hb h1 h64
  go_enter Try.func3, Try.ntmps3
  go_wp2_with (first
    | (go_at_call 8; refine (pnew_yes n w HNn.out.1 HNn.out.2).mono ?_; rintro e w1 ⟨bm, S1, rfl, p1, l1, k1⟩; have P1 := Lib.hid p1; have L1 := Lib.hid l1; have K1 := Lib.hid k1; clear p1 l1 k1)
    | (go_at_call 9; refine (rnew_yes n w1 HNn.out.1 HNn.out.2).mono ?_; rintro e w2 ⟨br, S2, rfl, p2, l2, k2⟩; have HT0 := Lib.hid (Two.make (P := PQ bm n (fun _ _ => 0)) (Q := RR br n (fun _ _ => 0)) (P1.out.kp k2) p2 (fun k a c => by have := P1.out.lt a; have := l2 k c; omega)); have HKB := Lib.hid (K1.out.trans k2); have HS2 : Hid (∀ k, S2 k → w.heap.size ≤ k) := Lib.hid (fun k c => Nat.le_trans K1.out.size (l2 k c)); clear p2 l2 k2))
  have HS1 := L1
  clear L1 P1 K1
  go_loopw [5, 9, 10] (fun m i s10 wr => ∃ k : Nat, ∃ V b, k ≤ N ∧ i = .int .i64 k ∧ m = .pointer (some ⟨b, 0, none⟩) ∧ Two (PQ b n V) (RR br n V) S1 S2 w2 wr) (fun _ i _ _ => N - (intOf i).toNat)
  case atStart => exact ⟨0, _, bm, by omega, rfl, rfl, HT0.out⟩
  case round =>
    obtain ⟨k, V, b, hkN, rfl, rfl, ht⟩ := hrel
    have HT := Lib.hid ht
    clear ht HT0
    by_cases h : k = N
    · subst h
      clear hkN
      have n1 : (n : Int) ≤ 64 := by have := HNn.out; omega
      go_wp2_with fail
      go_loopw [11] (fun i wr => ∃ j : Int, -1 ≤ j ∧ j ≤ n + 1 ∧ i = .int .i64 j ∧ Two (PQ b n V) (RR br n V) S1 S2 w2 wr) (fun i _ => ((n : Int) + 1 - intOf i).toNat)
      case atStart => exact ⟨-1, by omega, by omega, rfl, HT.out⟩
      case round =>
        obtain ⟨j, j0, j1, rfl, ht⟩ := hrel
        have HT2 := Lib.hid ht
        clear ht HT
        by_cases hj : j = n + 1
        · subst hj
          have f1 : decide ((n : Int) + 1 ≤ n) = false := decide_eq_false (by omega)
          go_wp2_with (first
            | (go_at_call 16; refine (t1_frames V _ HT2.out).mono ?_; rintro e w4 ⟨rfl, hg⟩; have HT4 := Lib.hid (HT2.out.kp (pm_stable _ _ _) (rm_stable _ _ _) hg); clear hg)
            | (go_at_call 7; refine (wakes_any _).mono ?_; rintro e vz ⟨rfl, hg⟩; have HZ0 := Lib.hid hg; clear hg))
          go_ret
          exact ⟨rfl, (HT4.out.below HKB.out HS1.out HS2.out).trans HZ0.out⟩
        · have f1 : decide (j ≤ (n : Int)) = true := decide_eq_true (by omega)
          have f2 : decide (j ≤ 64) = true := decide_eq_true (by omega)
          have HJ : Hid ((-1 ≤ j ∧ j ≤ n) ∧ n ≤ 64) := Lib.hid (by have := HNn.out; omega)
          go_wp2_with (first
            | (go_at_call 14; refine (t1_words j V _ HT2.out (by have := HJ.out; omega)).mono ?_; rintro e w4 ⟨v1, rfl, o1, hg⟩; have HT4 := Lib.hid (HT2.out.kp (pm_stable _ _ _) (rm_stable _ _ _) hg); have HO1 := Lib.hid o1; clear hg o1)
            | (go_at_call 15; refine (t2_words j V _ HT4.out).mono ?_; rintro e w5 ⟨v2, rfl, o2, hg⟩; have HT5 := Lib.hid (HT4.out.kp (pm_stable _ _ _) (rm_stable _ _ _) hg); have HO3 := Lib.hid (owns_kp HO1.out hg); have HO2 := Lib.hid o2; clear hg o2)
            | (go_at_call 13; refine (both_same v1 v2 _ _ HO3.out HO2.out).mono ?_; rintro e w6 ⟨rfl, hg⟩; have HT6 := Lib.hid (HT5.out.kp (pm_stable _ _ _) (rm_stable _ _ _) hg); clear hg))
          go_roundw
          case rel => exact ⟨j + 1, by omega, by omega, by have := HJ.out; go_num, HT6.out⟩
          case measure => have := HJ.out; simp [intOf]; omega
    · have hkl : k < N := by omega
      have i0 : (0 : Int) ≤ (k : Int) := by omega
      have i1 : (k : Int) < (N : Int) := by omega
      have hx : L[k]? = some (L[k]'(by have := HE.out; omega)) := List.getElem?_eq_getElem _
      generalize L[k]'(by have := HE.out; omega) = cs at hx
      have hcs := HR.out k cs hx
      obtain ⟨⟨_, _, rfl, ⟨a0, rfl, w0⟩, _, _, rfl, ⟨x1, rfl, wW⟩, _, _, rfl, ⟨x2, rfl, wX⟩, _, _, rfl, ⟨ek, rfl, wk⟩, _, _, rfl, ⟨x4, rfl, wE⟩, _, _, rfl, ⟨x5, rfl, wF⟩, _, _, rfl, ⟨efr, rfl, -⟩, _, _, rfl, ⟨efm, rfl, -⟩, _, _, rfl, ⟨F, rfl, wN⟩, rfl⟩, hce⟩ := hcs
      obtain ⟨W, rfl, hW⟩ := nat_of x1 wW
      obtain ⟨X, rfl, hX⟩ := nat_of x2 wX
      obtain ⟨eW, rfl, heW⟩ := nat_of x4 wE
      obtain ⟨eX, rfl, heX⟩ := nat_of x5 wF
      have hne : L ≠ [] := fun e => by rw [e] at hx; simp at hx
      obtain rfl := HS.out hne
      have HBa := Lib.hid (HB.out hne)
      have HCE := Lib.hid hce
      have HX := Lib.hid (And.intro hW (And.intro hX (And.intro (i8_in ek wk) (And.intro heW (And.intro heX (i64_in F wN))))))
      have HK := Lib.hid hkl
      have c0 : wr.cell? ⟨ba, off + k * 9, none⟩ = some (.int .i64 a0) := by
        have := (HT.out.below HKB.out HS1.out HS2.out).cell (o := off + k * 9 + 0) (HBa.out)
        rw [HCE.out 0 _ rfl] at this
        exact this
      have c1 : wr.cell? ⟨ba, off + k * 9 + 1, none⟩ = some (.int .u64 (W : Int)) := by
        have := (HT.out.below HKB.out HS1.out HS2.out).cell (o := off + k * 9 + 1) (HBa.out)
        rw [HCE.out 1 _ rfl] at this
        exact this
      have c2 : wr.cell? ⟨ba, off + k * 9 + 2, none⟩ = some (.int .u64 (X : Int)) := by
        have := (HT.out.below HKB.out HS1.out HS2.out).cell (o := off + k * 9 + 2) (HBa.out)
        rw [HCE.out 2 _ rfl] at this
        exact this
      have c3 : wr.cell? ⟨ba, off + k * 9 + 3, none⟩ = some (.int .i8 ek) := by
        have := (HT.out.below HKB.out HS1.out HS2.out).cell (o := off + k * 9 + 3) (HBa.out)
        rw [HCE.out 3 _ rfl] at this
        exact this
      have c4 : wr.cell? ⟨ba, off + k * 9 + 4, none⟩ = some (.int .u64 (eW : Int)) := by
        have := (HT.out.below HKB.out HS1.out HS2.out).cell (o := off + k * 9 + 4) (HBa.out)
        rw [HCE.out 4 _ rfl] at this
        exact this
      have c5 : wr.cell? ⟨ba, off + k * 9 + 5, none⟩ = some (.int .u64 (eX : Int)) := by
        have := (HT.out.below HKB.out HS1.out HS2.out).cell (o := off + k * 9 + 5) (HBa.out)
        rw [HCE.out 5 _ rfl] at this
        exact this
      have c6 : wr.cell? ⟨ba, off + k * 9 + 6, none⟩ = some (.int .i64 efr) := by
        have := (HT.out.below HKB.out HS1.out HS2.out).cell (o := off + k * 9 + 6) (HBa.out)
        rw [HCE.out 6 _ rfl] at this
        exact this
      have c7 : wr.cell? ⟨ba, off + k * 9 + 7, none⟩ = some (.int .i64 efm) := by
        have := (HT.out.below HKB.out HS1.out HS2.out).cell (o := off + k * 9 + 7) (HBa.out)
        rw [HCE.out 7 _ rfl] at this
        exact this
      have c8 : wr.cell? ⟨ba, off + k * 9 + 8, none⟩ = some (.int .i64 F) := by
        have := (HT.out.below HKB.out HS1.out HS2.out).cell (o := off + k * 9 + 8) (HBa.out)
        rw [HCE.out 8 _ rfl] at this
        exact this
      clear hkN h hkl hx hce w0 wW wX wk wE wF wN hne hW hX heW heX
      by_cases hlo : a0 < 0
      · have d1 : decide (a0 < 0) = true := decide_eq_true hlo
        clear hlo
        go_wp2_with (first
          | (go_at_call 10; refine (step_any a0 W X ek eW eX efr efm F b br n V S1 S2 w2 wr HT.out HX.out.1 HX.out.2.1 HX.out.2.2.1 HX.out.2.2.2.1 HX.out.2.2.2.2.1 HX.out.2.2.2.2.2).mono ?_; rintro e w5 ⟨rfl, V2, ht⟩; have HT5 := Lib.hid ht; clear ht c0 c1 c2 c3 c4 c5 c6 c7 c8; have c0 : w5.cell? ⟨ba, off + k * 9, none⟩ = some (.int .i64 a0) := ((HT5.out.below HKB.out HS1.out HS2.out).cell (HBa.out)).trans (HCE.out 0 _ rfl))
          | (go_at_call 11; refine (two_copy (rm_stable _ _ _) V2 w5 HT5.out).mono ?_; rintro e w6 ⟨b2, T1, rfl, p, f⟩; have HP := Lib.hid p; have HF := Lib.hid f; clear p f)
          | (go_at_call 12; refine (two_old V2 HP.out HF.out).mono ?_; rintro e w7 ⟨E, rfl, ht⟩; have HT7 := Lib.hid ht; clear ht))
        go_roundw
        case rel => exact ⟨k + 1, _, _, HK.out, by go_num, rfl, HT7.out⟩
        case measure => have := HK.out; simp [intOf]; omega
      have d1 : decide (a0 < 0) = false := decide_eq_false hlo
      by_cases hhi : 4 < a0
      · have d2 : decide (4 < a0) = true := decide_eq_true hhi
        clear hlo hhi
        go_wp2_with (first
          | (go_at_call 10; refine (step_any a0 W X ek eW eX efr efm F b br n V S1 S2 w2 wr HT.out HX.out.1 HX.out.2.1 HX.out.2.2.1 HX.out.2.2.2.1 HX.out.2.2.2.2.1 HX.out.2.2.2.2.2).mono ?_; rintro e w5 ⟨rfl, V2, ht⟩; have HT5 := Lib.hid ht; clear ht c0 c1 c2 c3 c4 c5 c6 c7 c8; have c0 : w5.cell? ⟨ba, off + k * 9, none⟩ = some (.int .i64 a0) := ((HT5.out.below HKB.out HS1.out HS2.out).cell (HBa.out)).trans (HCE.out 0 _ rfl))
          | (go_at_call 11; refine (two_copy (rm_stable _ _ _) V2 w5 HT5.out).mono ?_; rintro e w6 ⟨b2, T1, rfl, p, f⟩; have HP := Lib.hid p; have HF := Lib.hid f; clear p f)
          | (go_at_call 12; refine (two_old V2 HP.out HF.out).mono ?_; rintro e w7 ⟨E, rfl, ht⟩; have HT7 := Lib.hid ht; clear ht))
        go_roundw
        case rel => exact ⟨k + 1, _, _, HK.out, by go_num, rfl, HT7.out⟩
        case measure => have := HK.out; simp [intOf]; omega
      · have d2 : decide (4 < a0) = false := decide_eq_false hhi
        clear hlo hhi
        go_wp2_with (go_at_call 10; refine (step_any a0 W X ek eW eX efr efm F b br n V S1 S2 w2 wr HT.out HX.out.1 HX.out.2.1 HX.out.2.2.1 HX.out.2.2.2.1 HX.out.2.2.2.2.1 HX.out.2.2.2.2.2).mono ?_; rintro e w5 ⟨rfl, V2, ht⟩; have HT5 := Lib.hid ht; clear ht c0 c1 c2 c3 c4 c5 c6 c7 c8; have c0 : w5.cell? ⟨ba, off + k * 9, none⟩ = some (.int .i64 a0) := ((HT5.out.below HKB.out HS1.out HS2.out).cell (HBa.out)).trans (HCE.out 0 _ rfl))
        go_roundw
        case rel => exact ⟨k + 1, _, _, HK.out, by go_num, rfl, HT5.out⟩
        case measure => have := HK.out; simp [intOf]; omega
theorem plays_any (x : Int) (L : List (List Value)) (ba off cap : Nat) (qa : Option Addr) (w : World) (hs : L ≠ [] → qa = some ⟨ba, off, none⟩) (hr : RowsIn w ba off 9 [some .i64, some .u64, some .u64, some .i8, some .u64, some .u64, some .i64, some .i64, some .i64] L) (hb : L ≠ [] → ba < w.heap.size) :
    Calls Try.prog 3 #[.int .i64 x, .slice qa L.length cap] w fun e w' => e = .returned (.bool true) ∧ Kp w w' := by
  by_cases hl : 300 < L.length
  · exact plays_over x L cap qa w hl
  by_cases hx : x < 1 ∨ 64 < x
  · exact plays_no x L cap qa w (by omega) hx
  obtain ⟨n, rfl⟩ : ∃ n : Nat, x = n := ⟨x.toNat, by omega⟩
  exact plays_yes n L ba off cap qa w (by omega) (by omega) (by omega) hs hr hb
end Go.Proofs.Ytnjdglejcfdonaa
