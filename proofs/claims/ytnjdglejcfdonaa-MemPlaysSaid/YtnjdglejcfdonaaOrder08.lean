/-
  The law on two entries in either order. No condition.
-/
import Derived.Test.YtnjdglejcfdonaaWakes08
namespace Go.Proofs.Ytnjdglejcfdonaa
open Go Go.RowKit Go.Maps

theorem Blk.setRow {w : World} {b : Nat} {cs : Array Value} {t : TypeId} (h : Blk w b cs t) (cs' : Array Value) : Blk (w.setRow b cs') b cs' t := setRow_heap w b cs cs' t (0, 0) h
theorem Blk.setRowO {w : World} {b g : Nat} {cs : Array Value} {t : TypeId} (h : Blk w b cs t) (cs' : Array Value) (hb : b ≠ g) : Blk (w.setRow g cs') b cs t := (setRow_other w g b cs' hb).trans h
theorem Kp.setRow {w w' : World} {g : Nat} (h : Kp w w') (hg : w.heap.size ≤ g) (cs : Array Value) : Kp w (w'.setRow g cs) := by
  refine Below.trans h ⟨rfl, rfl, rfl, by simp, fun k hk => setRow_other w' g k cs (by omega)⟩
theorem two_boxes (w : World) (A B x y : Nat) : Kp w (((w.alloc (.cells #[.int .i8 0, .int .u64 0, .int .u64 0, .int .i64 0, .int .i64 0] 35)).alloc (.cells #[.int .i8 0, .int .u64 0, .int .u64 0, .int .i64 0, .int .i64 0] 35)).setRow w.heap.size (entV 0 A x 0 0) |>.setRow (w.heap.size + 1) (entV 0 B y 0 0)) ∧
    Blk (((w.alloc (.cells #[.int .i8 0, .int .u64 0, .int .u64 0, .int .i64 0, .int .i64 0] 35)).alloc (.cells #[.int .i8 0, .int .u64 0, .int .u64 0, .int .i64 0, .int .i64 0] 35)).setRow w.heap.size (entV 0 A x 0 0) |>.setRow (w.heap.size + 1) (entV 0 B y 0 0)) w.heap.size (entV 0 A x 0 0) 35 ∧
    Blk (((w.alloc (.cells #[.int .i8 0, .int .u64 0, .int .u64 0, .int .i64 0, .int .i64 0] 35)).alloc (.cells #[.int .i8 0, .int .u64 0, .int .u64 0, .int .i64 0, .int .i64 0] 35)).setRow w.heap.size (entV 0 A x 0 0) |>.setRow (w.heap.size + 1) (entV 0 B y 0 0)) (w.heap.size + 1) (entV 0 B y 0 0) 35 :=
  ⟨((((Kp.refl w).alloc _ _).alloc _ _).setRow (Nat.le_refl _) _).setRow (by omega) _, (((Blk.new w _ _).alloc _).setRow _).setRowO _ (by omega), ((Blk.new2 w _ _ _).setRowO _ (by omega)).setRow _⟩
theorem two_apart {w1 w2 : World} {T1 T2 : Nat → Prop} {b1 b2 : Nat} {V V' : Nat → Nat → Nat} (p1 : PMem w1 T1 b1 64 V) (p2 : PMem w2 T2 b2 64 V') (l2 : ∀ k, T2 k → w1.heap.size ≤ k) (z : w1.heap.size ≤ w2.heap.size) : (∀ k, T1 k → ¬ T2 k) ∧ ¬ T1 w2.heap.size ∧ ¬ T2 w2.heap.size ∧ ¬ T1 (w2.heap.size + 1) ∧ ¬ T2 (w2.heap.size + 1) :=
  ⟨fun k h1 h2 => by have := p1.lt h1; have := l2 k h2; omega, fun h => by have := p1.lt h; omega, fun h => by have := p2.lt h; omega, fun h => by have := p1.lt h; omega, fun h => by have := p2.lt h; omega⟩
theorem putV_same (V : Nat → Nat → Nat) (f p x : Nat) : putV V f p x f p = x := if_pos ⟨rfl, rfl⟩
theorem putV_other (V : Nat → Nat → Nat) (f p x f' p' : Nat) (h : ¬ (f' = f ∧ p' = p)) : putV V f p x f' p' = V f' p' := if_neg h
theorem Two.start {P Q : MemP} {w : World} {T1 T2 : Nat → Prop} (p : P w T1) (q : Q w T2) (d : ∀ k, T1 k → ¬ T2 k) : Two P Q T1 T2 w w := ⟨T1, T2, p, q, d, Grew.refl _ _, Grew.refl _ _, Off.refl _ _⟩
abbrev PP (b n : Nat) (V : Nat → Nat → Nat) : MemP := fun w T => PMem w T b n V
theorem two_word1 (A x : Nat) (hA : A < 32768) (hx : x < 18446744073709551616) (b b' : Nat) (V V' : Nat → Nat → Nat) (S1 S2 : Nat → Prop) (wb w : World) (h : Two (PP b 64 V) (PP b' 64 V') S1 S2 wb w) :
    Calls Try.prog 19 #[.pointer (some ⟨b, 0, none⟩), .agg (entV 0 A x 0 0)] w fun e w' => e = .returned (.int .i64 0) ∧ Two (PP b 64 (putV V (A / 512) (A % 512) x)) (PP b' 64 V') S1 S2 wb w' := by
  obtain ⟨T, p, f⟩ := h.fst (P' := PP b 64 (putV V (A / 512) (A % 512) x)) (pm_stable _ _ _)
  have q := preach_any 0 A x 0 0 w T b 64 V p (by omega) hx (by decide)
  unfold rE rV at q
  rw [if_pos rfl, if_pos rfl, if_pos (by omega), if_pos (by omega)] at q
  exact q.mono fun _ _ q => ⟨q.1, f _ q.2⟩
theorem two_word2 (A x : Nat) (hA : A < 32768) (hx : x < 18446744073709551616) (b b' : Nat) (V V' : Nat → Nat → Nat) (S1 S2 : Nat → Prop) (wb w : World) (h : Two (PP b' 64 V') (PP b 64 V) S1 S2 wb w) :
    Calls Try.prog 19 #[.pointer (some ⟨b, 0, none⟩), .agg (entV 0 A x 0 0)] w fun e w' => e = .returned (.int .i64 0) ∧ Two (PP b' 64 V') (PP b 64 (putV V (A / 512) (A % 512) x)) S1 S2 wb w' :=
  (two_word1 A x hA hx b b' V V' S2 S1 wb w h.symm).mono fun _ _ q => ⟨q.1, q.2.symm⟩
theorem two_read1 (A z : Nat) (hA : A < 32768) (b b' : Nat) (V V' : Nat → Nat → Nat) (S1 S2 : Nat → Prop) (wb w : World) (h : Two (PP b 64 V) (PP b' 64 V') S1 S2 wb w) (hz : V (A / 512) (A % 512) = z) :
    Calls Try.prog 17 #[.pointer (some ⟨b, 0, none⟩), .int .u64 A] w fun e w' => e = .returned (.tuple #[.int .u64 z, .int .i64 0]) ∧ Two (PP b 64 V) (PP b' 64 V') S1 S2 wb w' := by
  obtain ⟨T1, T2, p, r⟩ := h
  have q := pread_any A w T1 b 64 V p (by omega)
  rw [if_pos (by omega), if_pos (by omega), hz] at q
  exact q.mono fun _ _ q => ⟨q.1, Two.kp ⟨T1, T2, p, r⟩ (pm_stable _ _ _) (pm_stable _ _ _) q.2⟩
theorem two_read2 (A z : Nat) (hA : A < 32768) (b b' : Nat) (V V' : Nat → Nat → Nat) (S1 S2 : Nat → Prop) (wb w : World) (h : Two (PP b' 64 V') (PP b 64 V) S1 S2 wb w) (hz : V (A / 512) (A % 512) = z) :
    Calls Try.prog 17 #[.pointer (some ⟨b, 0, none⟩), .int .u64 A] w fun e w' => e = .returned (.tuple #[.int .u64 z, .int .i64 0]) ∧ Two (PP b' 64 V') (PP b 64 V) S1 S2 wb w' :=
  (two_read1 A z hA b b' V V' S2 S1 wb w h.symm hz).mono fun _ _ q => ⟨q.1, q.2.symm⟩
set_option maxRecDepth 20000 in
set_option maxHeartbeats 4000000 in
theorem order_same (a b A x y : Nat) (w : World) (ha' : (a : Int) % 32768 = (A : Int)) (hb' : (b : Int) % 32768 = (A : Int)) (hA : A < 32768) (hx : x < 18446744073709551616) (hy : y < 18446744073709551616) :
    Calls Try.prog 5 #[.int .u64 a, .int .u64 b, .int .u64 x, .int .u64 y] w fun e w' => e = .returned (.bool true) ∧ Kp w w' := by
  have d : ((A : Int) == (A : Int)) = true := by simp
  have HA := Lib.hid hA
  have HB : Hid (A < 32768) := Lib.hid hA
  have HX := Lib.hid hx
  have HY := Lib.hid hy
  have HVP : Hid ((putV (putV (fun _ _ => 0) (A / 512) (A % 512) x) (A / 512) (A % 512) y) (A / 512) (A % 512) = y) := Lib.hid (by exact putV_same _ _ _ _)
  have HVQ : Hid ((putV (putV (fun _ _ => 0) (A / 512) (A % 512) y) (A / 512) (A % 512) x) (A / 512) (A % 512) = x) := Lib.hid (putV_same _ _ _ _)
  have HVR : Hid ((putV (putV (fun _ _ => 0) (A / 512) (A % 512) x) (A / 512) (A % 512) y) (A / 512) (A % 512) = y) := Lib.hid (putV_same _ _ _ _)
  have HVS : Hid ((putV (putV (fun _ _ => 0) (A / 512) (A % 512) y) (A / 512) (A % 512) x) (A / 512) (A % 512) = x) := Lib.hid (by exact putV_same _ _ _ _)
  clear hA hx hy
  go_enter Try.func5, Try.ntmps5
  go_wp2_with (first
    | (go_at_call 8; refine (pnew_yes 64 w1 (by decide) (by decide)).mono ?_; rintro e w2 ⟨b2, T2, rfl, p2, l2, k2⟩; have P2 := Lib.hid p2; have L2 := Lib.hid l2; have K2 := Lib.hid k2; clear p2 l2 k2)
    | (go_at_call 8; refine (pnew_yes 64 w (by decide) (by decide)).mono ?_; rintro e w1 ⟨b1, T1, rfl, p1, l1, k1⟩; have P1 := Lib.hid p1; have L1 := Lib.hid l1; have K1 := Lib.hid k1; clear p1 l1 k1)
    | (refine wpList_store_row rfl 35 (.tmp 13) (.tmp 51) rfl w2.heap.size (entV 0 A x 0 0) rfl rfl _ _ ((Blk.new w2 _ _).alloc _) (by kernel_rfl) rfl (by simp [entV, Value.oneCell']) ?_)
    | (refine wpList_store_row rfl 35 (.tmp 14) (.tmp 54) rfl (w2.heap.size + 1) (entV 0 A y 0 0) rfl rfl _ _ ((Blk.new2 w2 _ _ _).setRowO _ (by omega)) (by kernel_rfl) rfl (by simp [entV, Value.oneCell']) ?_; have hF := two_boxes w2 A A x y; generalize World.setRow (World.setRow _ _ _) (w2.heap.size + 1) _ = w3 at hF ⊢; have HK3 := Lib.hid hF.1; have HF1 := Lib.hid hF.2.1; have HF2 := Lib.hid hF.2.2; clear hF; have HN := Lib.hid (two_apart P1.out P2.out L2.out K2.out.size); have H0 := Lib.hid (Two.start (P := PP b1 64 (fun _ _ => 0)) (Q := PP b2 64 (fun _ _ => 0)) ((P1.out.kp K2.out).kp HK3.out) (P2.out.kp HK3.out) HN.out.1); have F1 := H0.out.blk HF1.out HN.out.2.1 HN.out.2.2.1; have F2 := H0.out.blk HF2.out HN.out.2.2.2.1 HN.out.2.2.2.2; have q0 : World.cell? w3 ⟨w2.heap.size, 0, none⟩ = some (.int .i8 0) := F1.cell 0; have q1 : World.cell? w3 ⟨w2.heap.size, 1, none⟩ = some (.int .u64 A) := F1.cell 1; have q2 : World.cell? w3 ⟨w2.heap.size, 2, none⟩ = some (.int .u64 x) := F1.cell 2; have q3 : World.cell? w3 ⟨w2.heap.size, 3, none⟩ = some (.int .i64 0) := F1.cell 3; have q4 : World.cell? w3 ⟨w2.heap.size, 4, none⟩ = some (.int .i64 0) := F1.cell 4; have r0 : World.cell? w3 ⟨w2.heap.size + 1, 0, none⟩ = some (.int .i8 0) := F2.cell 0; have r1 : World.cell? w3 ⟨w2.heap.size + 1, 1, none⟩ = some (.int .u64 A) := F2.cell 1; have r2 : World.cell? w3 ⟨w2.heap.size + 1, 2, none⟩ = some (.int .u64 y) := F2.cell 2; have r3 : World.cell? w3 ⟨w2.heap.size + 1, 3, none⟩ = some (.int .i64 0) := F2.cell 3; have r4 : World.cell? w3 ⟨w2.heap.size + 1, 4, none⟩ = some (.int .i64 0) := F2.cell 4; clear F1 F2)
    | (go_at_call 19; refine (two_word2 A x HA.out HX.out b2 b1 _ _ T1 T2 w3 _ H3.out).mono ?_; rintro e v4 ⟨rfl, ht⟩; have H4 := Lib.hid ht; clear ht q0 q1 q2 q3 q4 r0 r1 r2 r3 r4)
    | (go_at_call 19; refine (two_word2 A y HB.out HY.out b2 b1 _ _ T1 T2 w3 _ H2.out).mono ?_; rintro e v3 ⟨rfl, ht⟩; have H3 := Lib.hid ht; clear ht q0 q1 q2 q3 q4 r0 r1 r2 r3 r4; have F1 := H3.out.blk HF1.out HN.out.2.1 HN.out.2.2.1; have F2 := H3.out.blk HF2.out HN.out.2.2.2.1 HN.out.2.2.2.2; have q0 : World.cell? v3 ⟨w2.heap.size, 0, none⟩ = some (.int .i8 0) := F1.cell 0; have q1 : World.cell? v3 ⟨w2.heap.size, 1, none⟩ = some (.int .u64 A) := F1.cell 1; have q2 : World.cell? v3 ⟨w2.heap.size, 2, none⟩ = some (.int .u64 x) := F1.cell 2; have q3 : World.cell? v3 ⟨w2.heap.size, 3, none⟩ = some (.int .i64 0) := F1.cell 3; have q4 : World.cell? v3 ⟨w2.heap.size, 4, none⟩ = some (.int .i64 0) := F1.cell 4; have r0 : World.cell? v3 ⟨w2.heap.size + 1, 0, none⟩ = some (.int .i8 0) := F2.cell 0; have r1 : World.cell? v3 ⟨w2.heap.size + 1, 1, none⟩ = some (.int .u64 A) := F2.cell 1; have r2 : World.cell? v3 ⟨w2.heap.size + 1, 2, none⟩ = some (.int .u64 y) := F2.cell 2; have r3 : World.cell? v3 ⟨w2.heap.size + 1, 3, none⟩ = some (.int .i64 0) := F2.cell 3; have r4 : World.cell? v3 ⟨w2.heap.size + 1, 4, none⟩ = some (.int .i64 0) := F2.cell 4; clear F1 F2)
    | (go_at_call 19; refine (two_word1 A y HB.out HY.out b1 b2 _ _ T1 T2 w3 _ H1.out).mono ?_; rintro e v2 ⟨rfl, ht⟩; have H2 := Lib.hid ht; clear ht q0 q1 q2 q3 q4 r0 r1 r2 r3 r4; have F1 := H2.out.blk HF1.out HN.out.2.1 HN.out.2.2.1; have F2 := H2.out.blk HF2.out HN.out.2.2.2.1 HN.out.2.2.2.2; have q0 : World.cell? v2 ⟨w2.heap.size, 0, none⟩ = some (.int .i8 0) := F1.cell 0; have q1 : World.cell? v2 ⟨w2.heap.size, 1, none⟩ = some (.int .u64 A) := F1.cell 1; have q2 : World.cell? v2 ⟨w2.heap.size, 2, none⟩ = some (.int .u64 x) := F1.cell 2; have q3 : World.cell? v2 ⟨w2.heap.size, 3, none⟩ = some (.int .i64 0) := F1.cell 3; have q4 : World.cell? v2 ⟨w2.heap.size, 4, none⟩ = some (.int .i64 0) := F1.cell 4; have r0 : World.cell? v2 ⟨w2.heap.size + 1, 0, none⟩ = some (.int .i8 0) := F2.cell 0; have r1 : World.cell? v2 ⟨w2.heap.size + 1, 1, none⟩ = some (.int .u64 A) := F2.cell 1; have r2 : World.cell? v2 ⟨w2.heap.size + 1, 2, none⟩ = some (.int .u64 y) := F2.cell 2; have r3 : World.cell? v2 ⟨w2.heap.size + 1, 3, none⟩ = some (.int .i64 0) := F2.cell 3; have r4 : World.cell? v2 ⟨w2.heap.size + 1, 4, none⟩ = some (.int .i64 0) := F2.cell 4; clear F1 F2)
    | (go_at_call 19; refine (two_word1 A x HA.out HX.out b1 b2 _ _ T1 T2 w3 _ H0.out).mono ?_; rintro e v1 ⟨rfl, ht⟩; have H1 := Lib.hid ht; clear ht q0 q1 q2 q3 q4 r0 r1 r2 r3 r4; have F1 := H1.out.blk HF1.out HN.out.2.1 HN.out.2.2.1; have F2 := H1.out.blk HF2.out HN.out.2.2.2.1 HN.out.2.2.2.2; have q0 : World.cell? v1 ⟨w2.heap.size, 0, none⟩ = some (.int .i8 0) := F1.cell 0; have q1 : World.cell? v1 ⟨w2.heap.size, 1, none⟩ = some (.int .u64 A) := F1.cell 1; have q2 : World.cell? v1 ⟨w2.heap.size, 2, none⟩ = some (.int .u64 x) := F1.cell 2; have q3 : World.cell? v1 ⟨w2.heap.size, 3, none⟩ = some (.int .i64 0) := F1.cell 3; have q4 : World.cell? v1 ⟨w2.heap.size, 4, none⟩ = some (.int .i64 0) := F1.cell 4; have r0 : World.cell? v1 ⟨w2.heap.size + 1, 0, none⟩ = some (.int .i8 0) := F2.cell 0; have r1 : World.cell? v1 ⟨w2.heap.size + 1, 1, none⟩ = some (.int .u64 A) := F2.cell 1; have r2 : World.cell? v1 ⟨w2.heap.size + 1, 2, none⟩ = some (.int .u64 y) := F2.cell 2; have r3 : World.cell? v1 ⟨w2.heap.size + 1, 3, none⟩ = some (.int .i64 0) := F2.cell 3; have r4 : World.cell? v1 ⟨w2.heap.size + 1, 4, none⟩ = some (.int .i64 0) := F2.cell 4; clear F1 F2)
    | (go_at_call 17; refine (two_read2 A x HB.out b2 b1 _ _ T1 T2 w3 _ H7.out HVS.out).mono ?_; rintro e v8 ⟨rfl, ht⟩; have H8 := Lib.hid ht; clear ht)
    | (go_at_call 17; refine (two_read1 A y HB.out b1 b2 _ _ T1 T2 w3 _ H6.out HVR.out).mono ?_; rintro e v7 ⟨rfl, ht⟩; have H7 := Lib.hid ht; clear ht)
    | (go_at_call 17; refine (two_read2 A x HA.out b2 b1 _ _ T1 T2 w3 _ H5.out HVQ.out).mono ?_; rintro e v6 ⟨rfl, ht⟩; have H6 := Lib.hid ht; clear ht)
    | (go_at_call 17; refine (two_read1 A y HA.out b1 b2 _ _ T1 T2 w3 _ H4.out HVP.out).mono ?_; rintro e v5 ⟨rfl, ht⟩; have H5 := Lib.hid ht; clear ht)
    | (go_at_call 7; refine (wakes_any _).mono ?_; rintro e v9 ⟨rfl, hg⟩; have H9 := Lib.hid hg; clear hg))
  go_ret
  exact ⟨rfl, (H8.out.below ((K1.out.trans K2.out).trans HK3.out) L1.out (fun k hk => Nat.le_trans K1.out.size (L2.out k hk))).trans H9.out⟩
set_option maxRecDepth 20000 in
set_option maxHeartbeats 4000000 in
theorem order_unlike (a b A B x y : Nat) (w : World) (ha' : (a : Int) % 32768 = (A : Int)) (hb' : (b : Int) % 32768 = (B : Int)) (hA : A < 32768) (hB : B < 32768) (hx : x < 18446744073709551616) (hy : y < 18446744073709551616) (hne : A ≠ B) :
    Calls Try.prog 5 #[.int .u64 a, .int .u64 b, .int .u64 x, .int .u64 y] w fun e w' => e = .returned (.bool true) ∧ Kp w w' := by
  have d : ((A : Int) == (B : Int)) = false := by simp; omega
  have HA := Lib.hid hA
  have HB : Hid (B < 32768) := Lib.hid hB
  have HX := Lib.hid hx
  have HY := Lib.hid hy
  have HVP : Hid ((putV (putV (fun _ _ => 0) (A / 512) (A % 512) x) (B / 512) (B % 512) y) (A / 512) (A % 512) = x) := Lib.hid (by exact (putV_other _ _ _ _ _ _ (fun q => hne (by omega))).trans (putV_same _ _ _ _))
  have HVQ : Hid ((putV (putV (fun _ _ => 0) (B / 512) (B % 512) y) (A / 512) (A % 512) x) (A / 512) (A % 512) = x) := Lib.hid (putV_same _ _ _ _)
  have HVR : Hid ((putV (putV (fun _ _ => 0) (A / 512) (A % 512) x) (B / 512) (B % 512) y) (B / 512) (B % 512) = y) := Lib.hid (putV_same _ _ _ _)
  have HVS : Hid ((putV (putV (fun _ _ => 0) (B / 512) (B % 512) y) (A / 512) (A % 512) x) (B / 512) (B % 512) = y) := Lib.hid (by exact (putV_other _ _ _ _ _ _ (fun q => hne (by omega))).trans (putV_same _ _ _ _))
  clear hA hx hy hB hne
  go_enter Try.func5, Try.ntmps5
  go_wp2_with (first
    | (go_at_call 8; refine (pnew_yes 64 w1 (by decide) (by decide)).mono ?_; rintro e w2 ⟨b2, T2, rfl, p2, l2, k2⟩; have P2 := Lib.hid p2; have L2 := Lib.hid l2; have K2 := Lib.hid k2; clear p2 l2 k2)
    | (go_at_call 8; refine (pnew_yes 64 w (by decide) (by decide)).mono ?_; rintro e w1 ⟨b1, T1, rfl, p1, l1, k1⟩; have P1 := Lib.hid p1; have L1 := Lib.hid l1; have K1 := Lib.hid k1; clear p1 l1 k1)
    | (refine wpList_store_row rfl 35 (.tmp 13) (.tmp 51) rfl w2.heap.size (entV 0 A x 0 0) rfl rfl _ _ ((Blk.new w2 _ _).alloc _) (by kernel_rfl) rfl (by simp [entV, Value.oneCell']) ?_)
    | (refine wpList_store_row rfl 35 (.tmp 14) (.tmp 54) rfl (w2.heap.size + 1) (entV 0 B y 0 0) rfl rfl _ _ ((Blk.new2 w2 _ _ _).setRowO _ (by omega)) (by kernel_rfl) rfl (by simp [entV, Value.oneCell']) ?_; have hF := two_boxes w2 A B x y; generalize World.setRow (World.setRow _ _ _) (w2.heap.size + 1) _ = w3 at hF ⊢; have HK3 := Lib.hid hF.1; have HF1 := Lib.hid hF.2.1; have HF2 := Lib.hid hF.2.2; clear hF; have HN := Lib.hid (two_apart P1.out P2.out L2.out K2.out.size); have H0 := Lib.hid (Two.start (P := PP b1 64 (fun _ _ => 0)) (Q := PP b2 64 (fun _ _ => 0)) ((P1.out.kp K2.out).kp HK3.out) (P2.out.kp HK3.out) HN.out.1); have F1 := H0.out.blk HF1.out HN.out.2.1 HN.out.2.2.1; have F2 := H0.out.blk HF2.out HN.out.2.2.2.1 HN.out.2.2.2.2; have q0 : World.cell? w3 ⟨w2.heap.size, 0, none⟩ = some (.int .i8 0) := F1.cell 0; have q1 : World.cell? w3 ⟨w2.heap.size, 1, none⟩ = some (.int .u64 A) := F1.cell 1; have q2 : World.cell? w3 ⟨w2.heap.size, 2, none⟩ = some (.int .u64 x) := F1.cell 2; have q3 : World.cell? w3 ⟨w2.heap.size, 3, none⟩ = some (.int .i64 0) := F1.cell 3; have q4 : World.cell? w3 ⟨w2.heap.size, 4, none⟩ = some (.int .i64 0) := F1.cell 4; have r0 : World.cell? w3 ⟨w2.heap.size + 1, 0, none⟩ = some (.int .i8 0) := F2.cell 0; have r1 : World.cell? w3 ⟨w2.heap.size + 1, 1, none⟩ = some (.int .u64 B) := F2.cell 1; have r2 : World.cell? w3 ⟨w2.heap.size + 1, 2, none⟩ = some (.int .u64 y) := F2.cell 2; have r3 : World.cell? w3 ⟨w2.heap.size + 1, 3, none⟩ = some (.int .i64 0) := F2.cell 3; have r4 : World.cell? w3 ⟨w2.heap.size + 1, 4, none⟩ = some (.int .i64 0) := F2.cell 4; clear F1 F2)
    | (go_at_call 19; refine (two_word2 A x HA.out HX.out b2 b1 _ _ T1 T2 w3 _ H3.out).mono ?_; rintro e v4 ⟨rfl, ht⟩; have H4 := Lib.hid ht; clear ht q0 q1 q2 q3 q4 r0 r1 r2 r3 r4)
    | (go_at_call 19; refine (two_word2 B y HB.out HY.out b2 b1 _ _ T1 T2 w3 _ H2.out).mono ?_; rintro e v3 ⟨rfl, ht⟩; have H3 := Lib.hid ht; clear ht q0 q1 q2 q3 q4 r0 r1 r2 r3 r4; have F1 := H3.out.blk HF1.out HN.out.2.1 HN.out.2.2.1; have F2 := H3.out.blk HF2.out HN.out.2.2.2.1 HN.out.2.2.2.2; have q0 : World.cell? v3 ⟨w2.heap.size, 0, none⟩ = some (.int .i8 0) := F1.cell 0; have q1 : World.cell? v3 ⟨w2.heap.size, 1, none⟩ = some (.int .u64 A) := F1.cell 1; have q2 : World.cell? v3 ⟨w2.heap.size, 2, none⟩ = some (.int .u64 x) := F1.cell 2; have q3 : World.cell? v3 ⟨w2.heap.size, 3, none⟩ = some (.int .i64 0) := F1.cell 3; have q4 : World.cell? v3 ⟨w2.heap.size, 4, none⟩ = some (.int .i64 0) := F1.cell 4; have r0 : World.cell? v3 ⟨w2.heap.size + 1, 0, none⟩ = some (.int .i8 0) := F2.cell 0; have r1 : World.cell? v3 ⟨w2.heap.size + 1, 1, none⟩ = some (.int .u64 B) := F2.cell 1; have r2 : World.cell? v3 ⟨w2.heap.size + 1, 2, none⟩ = some (.int .u64 y) := F2.cell 2; have r3 : World.cell? v3 ⟨w2.heap.size + 1, 3, none⟩ = some (.int .i64 0) := F2.cell 3; have r4 : World.cell? v3 ⟨w2.heap.size + 1, 4, none⟩ = some (.int .i64 0) := F2.cell 4; clear F1 F2)
    | (go_at_call 19; refine (two_word1 B y HB.out HY.out b1 b2 _ _ T1 T2 w3 _ H1.out).mono ?_; rintro e v2 ⟨rfl, ht⟩; have H2 := Lib.hid ht; clear ht q0 q1 q2 q3 q4 r0 r1 r2 r3 r4; have F1 := H2.out.blk HF1.out HN.out.2.1 HN.out.2.2.1; have F2 := H2.out.blk HF2.out HN.out.2.2.2.1 HN.out.2.2.2.2; have q0 : World.cell? v2 ⟨w2.heap.size, 0, none⟩ = some (.int .i8 0) := F1.cell 0; have q1 : World.cell? v2 ⟨w2.heap.size, 1, none⟩ = some (.int .u64 A) := F1.cell 1; have q2 : World.cell? v2 ⟨w2.heap.size, 2, none⟩ = some (.int .u64 x) := F1.cell 2; have q3 : World.cell? v2 ⟨w2.heap.size, 3, none⟩ = some (.int .i64 0) := F1.cell 3; have q4 : World.cell? v2 ⟨w2.heap.size, 4, none⟩ = some (.int .i64 0) := F1.cell 4; have r0 : World.cell? v2 ⟨w2.heap.size + 1, 0, none⟩ = some (.int .i8 0) := F2.cell 0; have r1 : World.cell? v2 ⟨w2.heap.size + 1, 1, none⟩ = some (.int .u64 B) := F2.cell 1; have r2 : World.cell? v2 ⟨w2.heap.size + 1, 2, none⟩ = some (.int .u64 y) := F2.cell 2; have r3 : World.cell? v2 ⟨w2.heap.size + 1, 3, none⟩ = some (.int .i64 0) := F2.cell 3; have r4 : World.cell? v2 ⟨w2.heap.size + 1, 4, none⟩ = some (.int .i64 0) := F2.cell 4; clear F1 F2)
    | (go_at_call 19; refine (two_word1 A x HA.out HX.out b1 b2 _ _ T1 T2 w3 _ H0.out).mono ?_; rintro e v1 ⟨rfl, ht⟩; have H1 := Lib.hid ht; clear ht q0 q1 q2 q3 q4 r0 r1 r2 r3 r4; have F1 := H1.out.blk HF1.out HN.out.2.1 HN.out.2.2.1; have F2 := H1.out.blk HF2.out HN.out.2.2.2.1 HN.out.2.2.2.2; have q0 : World.cell? v1 ⟨w2.heap.size, 0, none⟩ = some (.int .i8 0) := F1.cell 0; have q1 : World.cell? v1 ⟨w2.heap.size, 1, none⟩ = some (.int .u64 A) := F1.cell 1; have q2 : World.cell? v1 ⟨w2.heap.size, 2, none⟩ = some (.int .u64 x) := F1.cell 2; have q3 : World.cell? v1 ⟨w2.heap.size, 3, none⟩ = some (.int .i64 0) := F1.cell 3; have q4 : World.cell? v1 ⟨w2.heap.size, 4, none⟩ = some (.int .i64 0) := F1.cell 4; have r0 : World.cell? v1 ⟨w2.heap.size + 1, 0, none⟩ = some (.int .i8 0) := F2.cell 0; have r1 : World.cell? v1 ⟨w2.heap.size + 1, 1, none⟩ = some (.int .u64 B) := F2.cell 1; have r2 : World.cell? v1 ⟨w2.heap.size + 1, 2, none⟩ = some (.int .u64 y) := F2.cell 2; have r3 : World.cell? v1 ⟨w2.heap.size + 1, 3, none⟩ = some (.int .i64 0) := F2.cell 3; have r4 : World.cell? v1 ⟨w2.heap.size + 1, 4, none⟩ = some (.int .i64 0) := F2.cell 4; clear F1 F2)
    | (go_at_call 17; refine (two_read2 B y HB.out b2 b1 _ _ T1 T2 w3 _ H7.out HVS.out).mono ?_; rintro e v8 ⟨rfl, ht⟩; have H8 := Lib.hid ht; clear ht)
    | (go_at_call 17; refine (two_read1 B y HB.out b1 b2 _ _ T1 T2 w3 _ H6.out HVR.out).mono ?_; rintro e v7 ⟨rfl, ht⟩; have H7 := Lib.hid ht; clear ht)
    | (go_at_call 17; refine (two_read2 A x HA.out b2 b1 _ _ T1 T2 w3 _ H5.out HVQ.out).mono ?_; rintro e v6 ⟨rfl, ht⟩; have H6 := Lib.hid ht; clear ht)
    | (go_at_call 17; refine (two_read1 A x HA.out b1 b2 _ _ T1 T2 w3 _ H4.out HVP.out).mono ?_; rintro e v5 ⟨rfl, ht⟩; have H5 := Lib.hid ht; clear ht)
    | (go_at_call 7; refine (wakes_any _).mono ?_; rintro e v9 ⟨rfl, hg⟩; have H9 := Lib.hid hg; clear hg))
  go_ret
  exact ⟨rfl, (H8.out.below ((K1.out.trans K2.out).trans HK3.out) L1.out (fun k hk => Nat.le_trans K1.out.size (L2.out k hk))).trans H9.out⟩
theorem rem_w (a : Nat) : (a : Int) % 32768 = ((a % 32768 : Nat) : Int) := by omega
theorem order_any (a b x y : Nat) (w : World) (hx : x < 18446744073709551616) (hy : y < 18446744073709551616) :
    Calls Try.prog 5 #[.int .u64 a, .int .u64 b, .int .u64 x, .int .u64 y] w fun e w' => e = .returned (.bool true) ∧ Kp w w' := by
  by_cases h : a % 32768 = b % 32768
  · exact order_same a b (a % 32768) x y w (rem_w a) (by rw [h]; exact rem_w b) (Nat.mod_lt _ (by decide)) hx hy
  · exact order_unlike a b (a % 32768) (b % 32768) x y w (rem_w a) (rem_w b) (Nat.mod_lt _ (by decide)) (Nat.mod_lt _ (by decide)) hx hy h
theorem nat_of (a : Int) (h : (Lit.int .u64 a).wf = true) : ∃ n : Nat, a = n ∧ n < 18446744073709551616 := by
  have h' : 0 ≤ a ∧ a < 18446744073709551616 := by
    simp [Lit.wf, IntKind.min, IntKind.max, IntKind.bits, IntKind.signed] at h
    omega
  exact ⟨a.toNat, by omega, by omega⟩
end Go.Proofs.Ytnjdglejcfdonaa
