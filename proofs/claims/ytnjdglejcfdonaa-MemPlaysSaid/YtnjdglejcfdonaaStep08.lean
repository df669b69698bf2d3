/-
  One act on both memories: the answers are the same, and so is what they hold. No condition.
-/
import Derived.Test.YtnjdglejcfdonaaCopy08
namespace Go.Proofs.Ytnjdglejcfdonaa
open Go Go.RowKit Go.Maps

abbrev PQ (b n : Nat) (V : Nat → Nat → Nat) : MemP := fun w T => PMem w T b n V
abbrev RR (b n : Nat) (V : Nat → Nat → Nat) : MemP := fun w T => RMem w T b n V
theorem Two.make {P Q : MemP} {w : World} {T1 T2 : Nat → Prop} (p : P w T1) (q : Q w T2) (d : ∀ k, T1 k → ¬ T2 k) : Two P Q T1 T2 w w := ⟨T1, T2, p, q, d, Grew.refl _ _, Grew.refl _ _, Off.refl _ _⟩
theorem Two.box {P Q : MemP} {S1 S2 : Nat → Prop} {wb w w1 : World} (h : Two P Q S1 S2 wb w) (sP : Stable P) (sQ : Stable Q) (g : Kp w w1) : ∃ T1 T2, Two P Q T1 T2 w1 w1 ∧ ¬ T1 w.heap.size ∧ ¬ T2 w.heap.size ∧ ∀ {P' Q' : MemP} {w' : World}, Two P' Q' T1 T2 w1 w' → Two P' Q' S1 S2 wb w' := by
  obtain ⟨T1, T2, p, q, d, g1, g2, o⟩ := h
  refine ⟨T1, T2, Two.make (sP.kp p g) (sQ.kp q g) d, fun h => Nat.lt_irrefl _ (sP.lt p _ h), fun h => Nat.lt_irrefl _ (sQ.lt q _ h), ?_⟩
  rintro P' Q' w' ⟨T1', T2', p', q', d', g1', g2', o'⟩
  have z := Nat.le_trans o.size g.size
  refine ⟨T1', T2', p', q', d', fun k hk => ?_, fun k hk => ?_, (o.trans (Off.of_kp (S := fun _ => False) g) (fun _ q => q.elim)).trans o' (fun k hk => ?_)⟩
  · rcases g1' k hk with h | h
    · exact g1 k h
    · exact .inr (Nat.le_trans z h)
  · rcases g2' k hk with h | h
    · exact g2 k h
    · exact .inr (Nat.le_trans z h)
  · rcases hk with h | h
    · exact (g1 k h).imp .inl id
    · exact (g2 k h).imp .inr id
section
variable {P Q : MemP} {S1 S2 : Nat → Prop} {wb : World} {b n : Nat}
theorem t1_write (sQ : Stable Q) (A Y : Nat) (E : Int) (V V2 : Nat → Nat → Nat) (w : World) (h : Two (PQ b n V) Q S1 S2 wb w) (hA : A < 18446744073709551616) (hY : Y < 18446744073709551616) (hE : (if A / 512 < n then 0 else 80) = E) (hV : (if A / 512 < n then putV V (A / 512) (A % 512) Y else V) = V2) :
    Calls Try.prog 12 #[.pointer (some ⟨b, 0, none⟩), .int .u64 A, .int .u64 Y] w fun e w' => e = .returned (.int .i64 E) ∧ Two (PQ b n V2) Q S1 S2 wb w' := by
  subst hE hV
  obtain ⟨T, p, f⟩ := h.fst (P' := PQ b n (if A / 512 < n then putV V (A / 512) (A % 512) Y else V)) sQ
  exact (pwrite_any A Y w T b n V p hA hY).mono fun _ _ q => ⟨q.1, f _ q.2⟩
theorem t1_add (sQ : Stable Q) (A Y z : Nat) (E : Int) (V V2 : Nat → Nat → Nat) (w : World) (h : Two (PQ b n V) Q S1 S2 wb w) (hA : A < 18446744073709551616) (hz : (if A / 512 < n then V (A / 512) (A % 512) else 0) = z) (hE : (if A / 512 < n then 0 else 80) = E) (hV : (if A / 512 < n then putV V (A / 512) (A % 512) ((V (A / 512) (A % 512) + Y) % 18446744073709551616) else V) = V2) :
    Calls Try.prog 18 #[.pointer (some ⟨b, 0, none⟩), .int .u64 A, .int .u64 Y] w fun e w' => e = .returned (.tuple #[.int .u64 z, .int .i64 E]) ∧ Two (PQ b n V2) Q S1 S2 wb w' := by
  subst hE hV hz
  obtain ⟨T, p, f⟩ := h.fst (P' := PQ b n (if A / 512 < n then putV V (A / 512) (A % 512) ((V (A / 512) (A % 512) + Y) % 18446744073709551616) else V)) sQ
  exact (padd_any A Y w T b n V p hA).mono fun _ _ q => ⟨q.1, f _ q.2⟩
theorem t1_read (sQ : Stable Q) (A z : Nat) (E : Int) (V : Nat → Nat → Nat) (w : World) (h : Two (PQ b n V) Q S1 S2 wb w) (hA : A < 18446744073709551616) (hz : (if A / 512 < n then V (A / 512) (A % 512) else 0) = z) (hE : (if A / 512 < n then 0 else 80) = E) :
    Calls Try.prog 17 #[.pointer (some ⟨b, 0, none⟩), .int .u64 A] w fun e w' => e = .returned (.tuple #[.int .u64 z, .int .i64 E]) ∧ Two (PQ b n V) Q S1 S2 wb w' := by
  subst hE hz
  obtain ⟨T, _, p, _⟩ := id h
  exact (pread_any A w T b n V p hA).mono fun _ _ q => ⟨q.1, h.kp (pm_stable _ _ _) sQ q.2⟩
theorem t1_reach (sQ : Stable Q) (k : Int) (A Y : Nat) (fr fm : Int) (E : Int) (V V2 : Nat → Nat → Nat) (w : World) (h : Two (PQ b n V) Q S1 S2 wb w) (hA : A < 18446744073709551616) (hY : Y < 18446744073709551616) (hi : -128 ≤ k ∧ k < 128) (hE : rE n k A fr fm = E) (hV : rV n V k A Y fr fm = V2) :
    Calls Try.prog 19 #[.pointer (some ⟨b, 0, none⟩), .agg (entV k A Y fr fm)] w fun e w' => e = .returned (.int .i64 E) ∧ Two (PQ b n V2) Q S1 S2 wb w' := by
  subst hE hV
  obtain ⟨T, p, f⟩ := h.fst (P' := PQ b n (rV n V k A Y fr fm)) sQ
  exact (preach_any k A Y fr fm w T b n V p hA hY hi).mono fun _ _ q => ⟨q.1, f _ q.2⟩
theorem t1_words (x : Int) (V : Nat → Nat → Nat) (w : World) (h : Two (PQ b n V) Q S1 S2 wb w) (hi : -9223372036854775808 ≤ x ∧ x < 9223372036854775808) :
    Calls Try.prog 14 #[.pointer (some ⟨b, 0, none⟩), .int .i64 x] w fun e w' => ∃ v, e = .returned v ∧ (∃ B, OwnsC w' B v (atV n V x) 512) ∧ Kp w w' := by
  obtain ⟨T, _, p, _⟩ := id h
  exact (pwords_any x w T b n V p hi).mono fun _ _ ⟨v, e, o, k⟩ => ⟨v, e, ⟨_, o⟩, k⟩
theorem t2_write (sP : Stable P) (A Y : Nat) (E : Int) (V V2 : Nat → Nat → Nat) (w : World) (h : Two P (RR b n V) S1 S2 wb w) (hA : A < 18446744073709551616) (hY : Y < 18446744073709551616) (hE : (if A / 512 < n then 0 else 80) = E) (hV : (if A / 512 < n then putV V (A / 512) (A % 512) Y else V) = V2) :
    Calls Try.prog 20 #[.pointer (some ⟨b, 0, none⟩), .int .u64 A, .int .u64 Y] w fun e w' => e = .returned (.int .i64 E) ∧ Two P (RR b n V2) S1 S2 wb w' := by
  subst hE hV
  obtain ⟨T, p, f⟩ := h.snd (Q' := RR b n (if A / 512 < n then putV V (A / 512) (A % 512) Y else V)) sP
  exact (rwrite_any A Y w T b n V p hA hY).mono fun _ _ q => ⟨q.1, f _ q.2⟩
theorem t2_add (sP : Stable P) (A Y z : Nat) (E : Int) (V V2 : Nat → Nat → Nat) (w : World) (h : Two P (RR b n V) S1 S2 wb w) (hA : A < 18446744073709551616) (hz : (if A / 512 < n then V (A / 512) (A % 512) else 0) = z) (hE : (if A / 512 < n then 0 else 80) = E) (hV : (if A / 512 < n then putV V (A / 512) (A % 512) ((V (A / 512) (A % 512) + Y) % 18446744073709551616) else V) = V2) :
    Calls Try.prog 21 #[.pointer (some ⟨b, 0, none⟩), .int .u64 A, .int .u64 Y] w fun e w' => e = .returned (.tuple #[.int .u64 z, .int .i64 E]) ∧ Two P (RR b n V2) S1 S2 wb w' := by
  subst hE hV hz
  obtain ⟨T, p, f⟩ := h.snd (Q' := RR b n (if A / 512 < n then putV V (A / 512) (A % 512) ((V (A / 512) (A % 512) + Y) % 18446744073709551616) else V)) sP
  exact (radd_any A Y w T b n V p hA).mono fun _ _ q => ⟨q.1, f _ q.2⟩
theorem t2_read (sP : Stable P) (A z : Nat) (E : Int) (V : Nat → Nat → Nat) (w : World) (h : Two P (RR b n V) S1 S2 wb w) (hA : A < 18446744073709551616) (hz : (if A / 512 < n then V (A / 512) (A % 512) else 0) = z) (hE : (if A / 512 < n then 0 else 80) = E) :
    Calls Try.prog 23 #[.pointer (some ⟨b, 0, none⟩), .int .u64 A] w fun e w' => e = .returned (.tuple #[.int .u64 z, .int .i64 E]) ∧ Two P (RR b n V) S1 S2 wb w' := by
  subst hE hz
  obtain ⟨_, T, _, p, _⟩ := id h
  exact (rread_any A w T b n V p hA).mono fun _ _ q => ⟨q.1, h.kp sP (rm_stable _ _ _) q.2⟩
theorem t2_reach (sP : Stable P) (k : Int) (A Y : Nat) (fr fm : Int) (E : Int) (V V2 : Nat → Nat → Nat) (w : World) (h : Two P (RR b n V) S1 S2 wb w) (hA : A < 18446744073709551616) (hY : Y < 18446744073709551616) (hE : rE n k A fr fm = E) (hV : rV n V k A Y fr fm = V2) :
    Calls Try.prog 22 #[.pointer (some ⟨b, 0, none⟩), .agg (entV k A Y fr fm)] w fun e w' => e = .returned (.int .i64 E) ∧ Two P (RR b n V2) S1 S2 wb w' := by
  subst hE hV
  obtain ⟨T, p, f⟩ := h.snd (Q' := RR b n (rV n V k A Y fr fm)) sP
  exact (rreach_any k A Y fr fm w T b n V p hA hY).mono fun _ _ q => ⟨q.1, f _ q.2⟩
theorem t2_words (x : Int) (V : Nat → Nat → Nat) (w : World) (h : Two P (RR b n V) S1 S2 wb w) :
    Calls Try.prog 15 #[.pointer (some ⟨b, 0, none⟩), .int .i64 x] w fun e w' => ∃ v, e = .returned v ∧ (∃ B, OwnsC w' B v (atV n V x) 512) ∧ Kp w w' := by
  obtain ⟨_, T, _, p, _⟩ := id h
  exact (rwords_any x w T b n V p).mono fun _ _ ⟨v, e, o, k⟩ => ⟨v, e, ⟨_, o⟩, k⟩
end
def actC (a0 W X ek eW eX efr efm F : Int) : Array Value := #[.int .i64 a0, .int .u64 W, .int .u64 X, .int .i8 ek, .int .u64 eW, .int .u64 eX, .int .i64 efr, .int .i64 efm, .int .i64 F]
def Act9 (w : World) (B : Nat) (a0 W X ek eW eX efr efm F : Int) : Prop := w.cell? ⟨B, 0, none⟩ = some (.int .i64 a0) ∧ w.cell? ⟨B, 1, none⟩ = some (.int .u64 W) ∧ w.cell? ⟨B, 2, none⟩ = some (.int .u64 X) ∧ w.cell? ⟨B, 3, none⟩ = some (.int .i8 ek) ∧ w.cell? ⟨B, 4, none⟩ = some (.int .u64 eW) ∧ w.cell? ⟨B, 5, none⟩ = some (.int .u64 eX) ∧ w.cell? ⟨B, 6, none⟩ = some (.int .i64 efr) ∧ w.cell? ⟨B, 7, none⟩ = some (.int .i64 efm) ∧ w.cell? ⟨B, 8, none⟩ = some (.int .i64 F)
theorem Act9.of {w : World} {B : Nat} {a0 W X ek eW eX efr efm F : Int} {t : TypeId} (h : Blk w B (actC a0 W X ek eW eX efr efm F) t) : Act9 w B a0 W X ek eW eX efr efm F := ⟨h.cell 0, h.cell 1, h.cell 2, h.cell 3, h.cell 4, h.cell 5, h.cell 6, h.cell 7, h.cell 8⟩
theorem both_same (v v2 : Value) (w : World) (U : Nat → Nat) (h : ∃ B, OwnsC w B v U 512) (h2 : ∃ B, OwnsC w B v2 U 512) : Calls Try.prog 13 #[v, v2] w fun e w' => e = .returned (.bool true) ∧ Kp w w' := by
  obtain ⟨B, h⟩ := h
  obtain ⟨B2, h2⟩ := h2
  exact same_rows v v2 w B B2 512 U h h2 (Nat.le_refl _)
theorem owns_kp {w w' : World} {v : Value} {U : Nat → Nat} (h : ∃ B, OwnsC w B v U 512) (g : Kp w w') : ∃ B, OwnsC w' B v U 512 := by
  obtain ⟨B, h⟩ := h; exact ⟨B, h.kp g⟩
set_option maxRecDepth 20000 in
set_option maxHeartbeats 2000000 in
theorem step_0 (a0 : Int) (W X : Nat) (ek : Int) (eW eX : Nat) (efr efm F : Int) (b br n : Nat) (V : Nat → Nat → Nat) (S1 S2 : Nat → Prop) (wb w : World) (h : Two (PQ b n V) (RR br n V) S1 S2 wb w) (hW : W < 18446744073709551616) (hX : X < 18446744073709551616) (ha : a0 = 0) :
    Calls Try.prog 10 #[.pointer (some ⟨b, 0, none⟩), .pointer (some ⟨br, 0, none⟩), .agg (actC a0 W X ek eW eX efr efm F)] w fun e w' => e = .returned (.bool true) ∧ ∃ V2, Two (PQ b n V2) (RR br n V2) S1 S2 wb w' := by
  have K1 : Kp w (w.alloc (.cells (actC a0 W X ek eW eX efr efm F) 37)) := (Kp.refl w).alloc _ _
  obtain ⟨T1, T2, h0, n1, n2, back⟩ := h.box (pm_stable _ _ _) (rm_stable _ _ _) K1
  have HB := Lib.hid (Blk.new w (actC a0 W X ek eW eX efr efm F) 37)
  have H0 := Lib.hid h0
  have HN := Lib.hid (And.intro n1 n2)
  have c9 := Act9.of HB.out
  clear h K1 h0 n1 n2
  have d0 : (a0 == 0) = true := by simp [ha]
  have HX := Lib.hid (And.intro hW hX)
  obtain ⟨E, V2, hE⟩ : ∃ E V2, (if W / 512 < n then (0 : Int) else 80) = E ∧ (if W / 512 < n then putV V (W / 512) (W % 512) X else V) = V2 := ⟨_, _, rfl, rfl⟩
  have HE := Lib.hid hE
  clear hW hX ha hE
  unfold actC at *
  go_enter Try.func10, Try.ntmps10
  go_wp2_with fail
  refine wp_region_held_drew (S := fun w' => w'.cell? ⟨w.heap.size, 0, none⟩ = some (.int .i64 a0) ∧ w'.cell? ⟨w.heap.size, 1, none⟩ = some (.int .u64 W) ∧ w'.cell? ⟨w.heap.size, 2, none⟩ = some (.int .u64 X) ∧ w'.cell? ⟨w.heap.size, 3, none⟩ = some (.int .i8 ek) ∧ w'.cell? ⟨w.heap.size, 4, none⟩ = some (.int .u64 eW) ∧ w'.cell? ⟨w.heap.size, 5, none⟩ = some (.int .u64 eX) ∧ w'.cell? ⟨w.heap.size, 6, none⟩ = some (.int .i64 efr) ∧ w'.cell? ⟨w.heap.size, 7, none⟩ = some (.int .i64 efm) ∧ w'.cell? ⟨w.heap.size, 8, none⟩ = some (.int .i64 F)) (by kernel_rfl) c9 (fun hHeld => ?_)
  have T0 := H0.out.kp (pm_stable _ _ _) (rm_stable _ _ _) (Kp.refl _).drew
  clear H0 c9
  generalize World.drew _ = w0 at hHeld T0 ⊢
  refine wpAnyH_take (i := 0) (oi := ?p0z1) (v := ?v0z1) ?o0z1 (by kernel_rfl) (by kernel_rfl) (by kernel_rfl) ?q0z1 ?y0z1 (by assumption) ?r0z1
  case o0z1 => (simp only [List.getElem?_toArray, List.getElem?_cons_zero]; rfl)
  case q0z1 => (exact fun _ _ _ h => h)
  case y0z1 => (refine Or.inl ⟨by rfl, ?_⟩; intro w hSw; (try dsimp only at hSw); go_simp; (try with_reducible rfl))
  simp only [Act.put, List.setIfInBounds_toArray, List.set_cons_zero, List.set_cons_succ]
  refine wpAnyH_take (i := 1) (oi := ?p1z2) (v := ?v1z2) ?o1z2 (by kernel_rfl) (by kernel_rfl) (by kernel_rfl) ?q1z2 ?y1z2 (by assumption) ?r1z2
  case o1z2 => (simp only [List.getElem?_toArray, List.getElem?_cons_succ, List.getElem?_cons_zero]; rfl)
  case q1z2 => (exact fun _ _ _ h => h)
  case y1z2 => (refine Or.inl ⟨by rfl, ?_⟩; intro w hSw; (try dsimp only at hSw); go_simp; (try with_reducible rfl))
  simp only [Act.put, List.setIfInBounds_toArray, List.set_cons_zero, List.set_cons_succ]
  refine wpAnyH_take (i := 3) (oi := ?p3z3) (v := ?v3z3) ?o3z3 (by kernel_rfl) (by kernel_rfl) (by kernel_rfl) ?q3z3 ?y3z3 (by assumption) ?r3z3
  case o3z3 => (simp only [List.getElem?_toArray, List.getElem?_cons_succ, List.getElem?_cons_zero]; rfl)
  case q3z3 => (exact fun _ _ _ h => h)
  case y3z3 => (refine Or.inl ⟨by rfl, ?_⟩; intro w hSw; (try dsimp only at hSw); go_simp; (try with_reducible rfl))
  simp only [Act.put, List.setIfInBounds_toArray, List.set_cons_zero, List.set_cons_succ]
  refine wpAnyH_take (i := 6) (oi := ?p6z4) (v := ?v6z4) ?o6z4 (by kernel_rfl) (by kernel_rfl) (by kernel_rfl) ?q6z4 ?y6z4 (by assumption) ?r6z4
  case o6z4 => (simp only [List.getElem?_toArray, List.getElem?_cons_succ, List.getElem?_cons_zero]; rfl)
  case q6z4 => (exact fun _ _ _ h => h)
  case y6z4 => (refine Or.inl ⟨by rfl, ?_⟩; intro w hSw; (try dsimp only at hSw); go_simp; (try with_reducible rfl))
  simp only [Act.put, List.setIfInBounds_toArray, List.set_cons_zero, List.set_cons_succ]
  refine wpAnyH_take (i := 7) (oi := ?p7z5) (v := ?v7z5) ?o7z5 (by kernel_rfl) (by kernel_rfl) (by kernel_rfl) ?q7z5 ?y7z5 (by assumption) ?r7z5
  case o7z5 => (simp only [List.getElem?_toArray, List.getElem?_cons_succ, List.getElem?_cons_zero]; rfl)
  case q7z5 => (exact fun _ _ _ h => h)
  case y7z5 => (refine Or.inl ⟨by rfl, ?_⟩; intro w hSw; (try dsimp only at hSw); go_simp; (try with_reducible rfl))
  simp only [Act.put, List.setIfInBounds_toArray, List.set_cons_zero, List.set_cons_succ]
  refine wpAnyH_take (i := 9) (oi := ?p9z6) (v := ?v9z6) ?o9z6 (by kernel_rfl) (by kernel_rfl) (by kernel_rfl) ?q9z6 ?y9z6 (by assumption) ?r9z6
  case o9z6 => (simp only [List.getElem?_toArray, List.getElem?_cons_succ, List.getElem?_cons_zero]; rfl)
  case q9z6 => (exact fun _ _ _ h => h)
  case y9z6 => (refine Or.inl ⟨by rfl, ?_⟩; intro w hSw; (try dsimp only at hSw); go_simp; (try with_reducible rfl))
  simp only [Act.put, List.setIfInBounds_toArray, List.set_cons_zero, List.set_cons_succ]
  refine wpAnyH_take (i := 2) (oi := ?p2z7) (v := ?v2z7) ?o2z7 (by kernel_rfl) (by kernel_rfl) (by kernel_rfl) ?q2z7 ?y2z7 (by assumption) ?r2z7
  case o2z7 => (simp only [List.getElem?_toArray, List.getElem?_cons_succ, List.getElem?_cons_zero]; rfl)
  case q2z7 => (exact fun _ _ _ h => h)
  case y2z7 => (refine Or.inl ⟨by rfl, ?_⟩; intro w hSw; (try dsimp only at hSw); go_simp; (try with_reducible rfl))
  simp only [Act.put, List.setIfInBounds_toArray, List.set_cons_zero, List.set_cons_succ]
  refine wpAnyH_take (i := 4) (oi := ?p4z8) (v := ?v4z8) ?o4z8 (by kernel_rfl) (by kernel_rfl) (by kernel_rfl) ?q4z8 ?y4z8 (by assumption) ?r4z8
  case o4z8 => (simp only [List.getElem?_toArray, List.getElem?_cons_succ, List.getElem?_cons_zero]; rfl)
  case q4z8 => (exact fun _ _ _ h => h)
  case y4z8 => (refine Or.inl ⟨by rfl, ?_⟩; intro w hSw; (try dsimp only at hSw); go_simp; (try with_reducible rfl))
  simp only [Act.put, List.setIfInBounds_toArray, List.set_cons_zero, List.set_cons_succ]
  refine wpAnyH_take (i := 8) (oi := ?p8z9) (v := ?v8z9) ?o8z9 (by kernel_rfl) (by kernel_rfl) (by kernel_rfl) ?q8z9 ?y8z9 (by assumption) ?r8z9
  case o8z9 => (simp only [List.getElem?_toArray, List.getElem?_cons_succ, List.getElem?_cons_zero]; rfl)
  case q8z9 => (exact fun _ _ _ h => h)
  case y8z9 => (refine Or.inl ⟨by rfl, ?_⟩; intro w hSw; (try dsimp only at hSw); go_simp; (try with_reducible rfl))
  simp only [Act.put, List.setIfInBounds_toArray, List.set_cons_zero, List.set_cons_succ]
  refine wpAnyH_take (i := 10) (oi := ?p10z10) (v := ?v10z10) ?o10z10 (by kernel_rfl) (by kernel_rfl) (by kernel_rfl) ?q10z10 ?y10z10 (by assumption) ?r10z10
  case o10z10 => (simp only [List.getElem?_toArray, List.getElem?_cons_succ, List.getElem?_cons_zero]; rfl)
  case q10z10 => (exact fun _ _ _ h => h)
  case y10z10 => (refine Or.inl ⟨by rfl, ?_⟩; intro w hSw; (try dsimp only at hSw); go_simp; (try with_reducible rfl))
  simp only [Act.put, List.setIfInBounds_toArray, List.set_cons_zero, List.set_cons_succ]
  refine wpAnyH_ready (rs := [5]) (by kernel_rfl) (by simp) ?_
  refine (AllReadyH.cons (o := ?pz11) ?oz11 (fun K hK => ?wz11) AllReadyH.nil)
  case oz11 => (simp only [List.getElem?_toArray, List.getElem?_cons_succ, List.getElem?_cons_zero]; rfl)
  case wz11 =>
    rw [if_pos (by rfl)]
    go_simp
    refine (t1_write (rm_stable _ _ _) W X E V V2 _ T0 HX.out.1 HX.out.2 HE.out.1 HE.out.2).mono ?_; rintro e wz12 ⟨rfl, htz12⟩
    (try go_wp2_with fail)
    refine hK.out _ _ (Act9.of (htz12.blk HB.out HN.out.1 HN.out.2)) (fun hz12 => ?_)
    clear hK K
    refine wpAnyH_ready (rs := [11]) (by kernel_rfl) (by simp) ?_
    refine (AllReadyH.cons (o := ?pz13) ?oz13 (fun K hK => ?wz13) AllReadyH.nil)
    case oz13 => (simp only [List.getElem?_toArray, List.getElem?_cons_succ, List.getElem?_cons_zero]; rfl)
    case wz13 =>
      rw [if_pos (by rfl)]
      go_simp
      refine (t2_write (pm_stable _ _ _) W X E V V2 _ htz12 HX.out.1 HX.out.2 HE.out.1 HE.out.2).mono ?_; rintro e wz14 ⟨rfl, htz14⟩
      (try go_wp2_with fail)
      refine hK.out _ _ (Act9.of (htz14.blk HB.out HN.out.1 HN.out.2)) (fun hz14 => ?_)
      clear hK K
      refine wpAnyH_take (i := 12) (oi := ?p12z15) (v := ?v12z15) ?o12z15 (by kernel_rfl) (by kernel_rfl) (by kernel_rfl) ?q12z15 ?y12z15 (by assumption) ?r12z15
      case o12z15 => (simp only [List.getElem?_toArray, List.getElem?_cons_succ, List.getElem?_cons_zero]; rfl)
      case q12z15 => (exact fun _ _ _ h => h)
      case y12z15 => (refine Or.inl ⟨by rfl, ?_⟩; intro w hSw; (try dsimp only at hSw); go_simp; (try with_reducible rfl))
      simp only [Act.put, List.setIfInBounds_toArray, List.set_cons_zero, List.set_cons_succ]
      refine wpAnyH_take (i := 13) (oi := ?p13z16) (v := ?v13z16) ?o13z16 (by kernel_rfl) (by kernel_rfl) (by kernel_rfl) ?q13z16 ?y13z16 (by assumption) ?r13z16
      case o13z16 => (simp only [List.getElem?_toArray, List.getElem?_cons_succ, List.getElem?_cons_zero]; rfl)
      case q13z16 => (exact fun _ _ _ h => h)
      case y13z16 => (refine Or.inl ⟨by rfl, ?_⟩; intro w hSw; (try dsimp only at hSw); go_simp; (try with_reducible rfl))
      simp only [Act.put, List.setIfInBounds_toArray, List.set_cons_zero, List.set_cons_succ]
      refine wpAnyH_done (by kernel_rfl) ?_ _
      (try go_wp2_with fail)
      go_ret
      exact ⟨rfl, _, back htz14⟩
set_option maxRecDepth 20000 in
set_option maxHeartbeats 2000000 in
theorem step_2 (a0 : Int) (W X : Nat) (ek : Int) (eW eX : Nat) (efr efm F : Int) (b br n : Nat) (V : Nat → Nat → Nat) (S1 S2 : Nat → Prop) (wb w : World) (h : Two (PQ b n V) (RR br n V) S1 S2 wb w) (hW : eW < 18446744073709551616) (hX : eX < 18446744073709551616) (hk : -128 ≤ ek ∧ ek < 128) (ha : a0 = 2) :
    Calls Try.prog 10 #[.pointer (some ⟨b, 0, none⟩), .pointer (some ⟨br, 0, none⟩), .agg (actC a0 W X ek eW eX efr efm F)] w fun e w' => e = .returned (.bool true) ∧ ∃ V2, Two (PQ b n V2) (RR br n V2) S1 S2 wb w' := by
  have K1 : Kp w (w.alloc (.cells (actC a0 W X ek eW eX efr efm F) 37)) := (Kp.refl w).alloc _ _
  obtain ⟨T1, T2, h0, n1, n2, back⟩ := h.box (pm_stable _ _ _) (rm_stable _ _ _) K1
  have HB := Lib.hid (Blk.new w (actC a0 W X ek eW eX efr efm F) 37)
  have H0 := Lib.hid h0
  have HN := Lib.hid (And.intro n1 n2)
  have c9 := Act9.of HB.out
  clear h K1 h0 n1 n2
  have d0 : (a0 == 0) = false := by simp; omega
  have d1 : (a0 == 1) = false := by simp; omega
  have d2 : (a0 == 2) = true := by simp [ha]
  have HX := Lib.hid (And.intro hW (And.intro hX hk))
  obtain ⟨E, V2, hE⟩ : ∃ E V2, rE n ek eW efr efm = E ∧ rV n V ek eW eX efr efm = V2 := ⟨_, _, rfl, rfl⟩
  have HE := Lib.hid hE
  clear hW hX hk ha hE
  unfold actC at *
  go_enter Try.func10, Try.ntmps10
  go_wp2_with fail
  refine wp_region_held_drew (S := fun w' => w'.cell? ⟨w.heap.size, 0, none⟩ = some (.int .i64 a0) ∧ w'.cell? ⟨w.heap.size, 1, none⟩ = some (.int .u64 W) ∧ w'.cell? ⟨w.heap.size, 2, none⟩ = some (.int .u64 X) ∧ w'.cell? ⟨w.heap.size, 3, none⟩ = some (.int .i8 ek) ∧ w'.cell? ⟨w.heap.size, 4, none⟩ = some (.int .u64 eW) ∧ w'.cell? ⟨w.heap.size, 5, none⟩ = some (.int .u64 eX) ∧ w'.cell? ⟨w.heap.size, 6, none⟩ = some (.int .i64 efr) ∧ w'.cell? ⟨w.heap.size, 7, none⟩ = some (.int .i64 efm) ∧ w'.cell? ⟨w.heap.size, 8, none⟩ = some (.int .i64 F)) (by kernel_rfl) c9 (fun hHeld => ?_)
  have T0 := H0.out.kp (pm_stable _ _ _) (rm_stable _ _ _) (Kp.refl _).drew
  clear H0 c9
  generalize World.drew _ = w0 at hHeld T0 ⊢
  refine wpAnyH_take (i := 0) (oi := ?p0z1) (v := ?v0z1) ?o0z1 (by kernel_rfl) (by kernel_rfl) (by kernel_rfl) ?q0z1 ?y0z1 (by assumption) ?r0z1
  case o0z1 => (simp only [List.getElem?_toArray, List.getElem?_cons_zero]; rfl)
  case q0z1 => (exact fun _ _ _ h => h)
  case y0z1 => (refine Or.inl ⟨by rfl, ?_⟩; intro w hSw; (try dsimp only at hSw); go_simp; (try with_reducible rfl))
  simp only [Act.put, List.setIfInBounds_toArray, List.set_cons_zero, List.set_cons_succ]
  refine wpAnyH_take (i := 1) (oi := ?p1z2) (v := ?v1z2) ?o1z2 (by kernel_rfl) (by kernel_rfl) (by kernel_rfl) ?q1z2 ?y1z2 (by assumption) ?r1z2
  case o1z2 => (simp only [List.getElem?_toArray, List.getElem?_cons_succ, List.getElem?_cons_zero]; rfl)
  case q1z2 => (exact fun _ _ _ h => h)
  case y1z2 => (refine Or.inl ⟨by rfl, ?_⟩; intro w hSw; (try dsimp only at hSw); go_simp; (try with_reducible rfl))
  simp only [Act.put, List.setIfInBounds_toArray, List.set_cons_zero, List.set_cons_succ]
  refine wpAnyH_take (i := 4) (oi := ?p4z3) (v := ?v4z3) ?o4z3 (by kernel_rfl) (by kernel_rfl) (by kernel_rfl) ?q4z3 ?y4z3 (by assumption) ?r4z3
  case o4z3 => (simp only [List.getElem?_toArray, List.getElem?_cons_succ, List.getElem?_cons_zero]; rfl)
  case q4z3 => (exact fun _ _ _ h => h)
  case y4z3 => (refine Or.inl ⟨by rfl, ?_⟩; intro w hSw; (try dsimp only at hSw); go_simp; (try with_reducible rfl))
  simp only [Act.put, List.setIfInBounds_toArray, List.set_cons_zero, List.set_cons_succ]
  refine wpAnyH_take (i := 5) (oi := ?p5z4) (v := ?v5z4) ?o5z4 (by kernel_rfl) (by kernel_rfl) (by kernel_rfl) ?q5z4 ?y5z4 (by assumption) ?r5z4
  case o5z4 => (simp only [List.getElem?_toArray, List.getElem?_cons_succ, List.getElem?_cons_zero]; rfl)
  case q5z4 => (exact fun _ _ _ h => h)
  case y5z4 => (refine Or.inl ⟨by rfl, ?_⟩; intro w hSw; (try dsimp only at hSw); go_simp; (try with_reducible rfl))
  simp only [Act.put, List.setIfInBounds_toArray, List.set_cons_zero, List.set_cons_succ]
  refine wpAnyH_take (i := 2) (oi := ?p2z5) (v := ?v2z5) ?o2z5 (by kernel_rfl) (by kernel_rfl) (by kernel_rfl) ?q2z5 ?y2z5 (by assumption) ?r2z5
  case o2z5 => (simp only [List.getElem?_toArray, List.getElem?_cons_succ, List.getElem?_cons_zero]; rfl)
  case q2z5 => (exact fun _ _ _ h => h)
  case y2z5 => (refine Or.inl ⟨by rfl, ?_⟩; intro w hSw; (try dsimp only at hSw); go_simp; (try with_reducible rfl))
  simp only [Act.put, List.setIfInBounds_toArray, List.set_cons_zero, List.set_cons_succ]
  refine wpAnyH_take (i := 6) (oi := ?p6z6) (v := ?v6z6) ?o6z6 (by kernel_rfl) (by kernel_rfl) (by kernel_rfl) ?q6z6 ?y6z6 (by assumption) ?r6z6
  case o6z6 => (simp only [List.getElem?_toArray, List.getElem?_cons_succ, List.getElem?_cons_zero]; rfl)
  case q6z6 => (exact fun _ _ _ h => h)
  case y6z6 => (refine Or.inl ⟨by rfl, ?_⟩; intro w hSw; (try dsimp only at hSw); go_simp; (try with_reducible rfl))
  simp only [Act.put, List.setIfInBounds_toArray, List.set_cons_zero, List.set_cons_succ]
  refine wpAnyH_ready (rs := [3]) (by kernel_rfl) (by simp) ?_
  refine (AllReadyH.cons (o := ?pz7) ?oz7 (fun K hK => ?wz7) AllReadyH.nil)
  case oz7 => (simp only [List.getElem?_toArray, List.getElem?_cons_succ, List.getElem?_cons_zero]; rfl)
  case wz7 =>
    rw [if_pos (by rfl)]
    go_simp
    refine (t1_reach (rm_stable _ _ _) ek eW eX efr efm E V V2 _ T0 HX.out.1 HX.out.2.1 HX.out.2.2 HE.out.1 HE.out.2).mono ?_; rintro e wz8 ⟨rfl, htz8⟩
    (try go_wp2_with fail)
    refine hK.out _ _ (Act9.of (htz8.blk HB.out HN.out.1 HN.out.2)) (fun hz8 => ?_)
    clear hK K
    refine wpAnyH_ready (rs := [7]) (by kernel_rfl) (by simp) ?_
    refine (AllReadyH.cons (o := ?pz9) ?oz9 (fun K hK => ?wz9) AllReadyH.nil)
    case oz9 => (simp only [List.getElem?_toArray, List.getElem?_cons_succ, List.getElem?_cons_zero]; rfl)
    case wz9 =>
      rw [if_pos (by rfl)]
      go_simp
      refine (t2_reach (pm_stable _ _ _) ek eW eX efr efm E V V2 _ htz8 HX.out.1 HX.out.2.1 HE.out.1 HE.out.2).mono ?_; rintro e wz10 ⟨rfl, htz10⟩
      (try go_wp2_with fail)
      refine hK.out _ _ (Act9.of (htz10.blk HB.out HN.out.1 HN.out.2)) (fun hz10 => ?_)
      clear hK K
      refine wpAnyH_take (i := 8) (oi := ?p8z11) (v := ?v8z11) ?o8z11 (by kernel_rfl) (by kernel_rfl) (by kernel_rfl) ?q8z11 ?y8z11 (by assumption) ?r8z11
      case o8z11 => (simp only [List.getElem?_toArray, List.getElem?_cons_succ, List.getElem?_cons_zero]; rfl)
      case q8z11 => (exact fun _ _ _ h => h)
      case y8z11 => (refine Or.inl ⟨by rfl, ?_⟩; intro w hSw; (try dsimp only at hSw); go_simp; (try with_reducible rfl))
      simp only [Act.put, List.setIfInBounds_toArray, List.set_cons_zero, List.set_cons_succ]
      refine wpAnyH_take (i := 9) (oi := ?p9z12) (v := ?v9z12) ?o9z12 (by kernel_rfl) (by kernel_rfl) (by kernel_rfl) ?q9z12 ?y9z12 (by assumption) ?r9z12
      case o9z12 => (simp only [List.getElem?_toArray, List.getElem?_cons_succ, List.getElem?_cons_zero]; rfl)
      case q9z12 => (exact fun _ _ _ h => h)
      case y9z12 => (refine Or.inl ⟨by rfl, ?_⟩; intro w hSw; (try dsimp only at hSw); go_simp; (try with_reducible rfl))
      simp only [Act.put, List.setIfInBounds_toArray, List.set_cons_zero, List.set_cons_succ]
      refine wpAnyH_done (by kernel_rfl) ?_ _
      (try go_wp2_with fail)
      go_ret
      exact ⟨rfl, _, back htz10⟩
set_option maxRecDepth 20000 in
set_option maxHeartbeats 2000000 in
theorem step_x (a0 : Int) (W X : Nat) (ek : Int) (eW eX : Nat) (efr efm F : Int) (b br n : Nat) (V : Nat → Nat → Nat) (S1 S2 : Nat → Prop) (wb w : World) (h : Two (PQ b n V) (RR br n V) S1 S2 wb w) (hF : -9223372036854775808 ≤ F ∧ F < 9223372036854775808) (h0 : a0 ≠ 0) (h1 : a0 ≠ 1) (h2 : a0 ≠ 2) (h3 : a0 ≠ 3) :
    Calls Try.prog 10 #[.pointer (some ⟨b, 0, none⟩), .pointer (some ⟨br, 0, none⟩), .agg (actC a0 W X ek eW eX efr efm F)] w fun e w' => e = .returned (.bool true) ∧ ∃ V2, Two (PQ b n V2) (RR br n V2) S1 S2 wb w' := by
  have K1 : Kp w (w.alloc (.cells (actC a0 W X ek eW eX efr efm F) 37)) := (Kp.refl w).alloc _ _
  obtain ⟨T1, T2, h0, n1, n2, back⟩ := h.box (pm_stable _ _ _) (rm_stable _ _ _) K1
  have HB := Lib.hid (Blk.new w (actC a0 W X ek eW eX efr efm F) 37)
  have H0 := Lib.hid h0
  have HN := Lib.hid (And.intro n1 n2)
  have c9 := Act9.of HB.out
  clear h K1 h0 n1 n2
  have d0 : (a0 == 0) = false := by simp; omega
  have d1 : (a0 == 1) = false := by simp; omega
  have d2 : (a0 == 2) = false := by simp; omega
  have d3 : (a0 == 3) = false := by simp; omega
  have HX := Lib.hid hF
  clear hF h0 h1 h2 h3
  unfold actC at *
  go_enter Try.func10, Try.ntmps10
  go_wp2_with fail
  refine wp_region_held_drew (S := fun w' => w'.cell? ⟨w.heap.size, 0, none⟩ = some (.int .i64 a0) ∧ w'.cell? ⟨w.heap.size, 1, none⟩ = some (.int .u64 W) ∧ w'.cell? ⟨w.heap.size, 2, none⟩ = some (.int .u64 X) ∧ w'.cell? ⟨w.heap.size, 3, none⟩ = some (.int .i8 ek) ∧ w'.cell? ⟨w.heap.size, 4, none⟩ = some (.int .u64 eW) ∧ w'.cell? ⟨w.heap.size, 5, none⟩ = some (.int .u64 eX) ∧ w'.cell? ⟨w.heap.size, 6, none⟩ = some (.int .i64 efr) ∧ w'.cell? ⟨w.heap.size, 7, none⟩ = some (.int .i64 efm) ∧ w'.cell? ⟨w.heap.size, 8, none⟩ = some (.int .i64 F)) (by kernel_rfl) c9 (fun hHeld => ?_)
  have T0 := H0.out.kp (pm_stable _ _ _) (rm_stable _ _ _) (Kp.refl _).drew
  clear H0 c9
  generalize World.drew _ = w0 at hHeld T0 ⊢
  refine wpAnyH_take (i := 0) (oi := ?p0z1) (v := ?v0z1) ?o0z1 (by kernel_rfl) (by kernel_rfl) (by kernel_rfl) ?q0z1 ?y0z1 (by assumption) ?r0z1
  case o0z1 => (simp only [List.getElem?_toArray, List.getElem?_cons_zero]; rfl)
  case q0z1 => (exact fun _ _ _ h => h)
  case y0z1 => (refine Or.inl ⟨by rfl, ?_⟩; intro w hSw; (try dsimp only at hSw); go_simp; (try with_reducible rfl))
  simp only [Act.put, List.setIfInBounds_toArray, List.set_cons_zero, List.set_cons_succ]
  refine wpAnyH_take (i := 1) (oi := ?p1z2) (v := ?v1z2) ?o1z2 (by kernel_rfl) (by kernel_rfl) (by kernel_rfl) ?q1z2 ?y1z2 (by assumption) ?r1z2
  case o1z2 => (simp only [List.getElem?_toArray, List.getElem?_cons_succ, List.getElem?_cons_zero]; rfl)
  case q1z2 => (exact fun _ _ _ h => h)
  case y1z2 => (refine Or.inl ⟨by rfl, ?_⟩; intro w hSw; (try dsimp only at hSw); go_simp; (try with_reducible rfl))
  simp only [Act.put, List.setIfInBounds_toArray, List.set_cons_zero, List.set_cons_succ]
  refine wpAnyH_take (i := 4) (oi := ?p4z3) (v := ?v4z3) ?o4z3 (by kernel_rfl) (by kernel_rfl) (by kernel_rfl) ?q4z3 ?y4z3 (by assumption) ?r4z3
  case o4z3 => (simp only [List.getElem?_toArray, List.getElem?_cons_succ, List.getElem?_cons_zero]; rfl)
  case q4z3 => (exact fun _ _ _ h => h)
  case y4z3 => (refine Or.inl ⟨by rfl, ?_⟩; intro w hSw; (try dsimp only at hSw); go_simp; (try with_reducible rfl))
  simp only [Act.put, List.setIfInBounds_toArray, List.set_cons_zero, List.set_cons_succ]
  refine wpAnyH_take (i := 5) (oi := ?p5z4) (v := ?v5z4) ?o5z4 (by kernel_rfl) (by kernel_rfl) (by kernel_rfl) ?q5z4 ?y5z4 (by assumption) ?r5z4
  case o5z4 => (simp only [List.getElem?_toArray, List.getElem?_cons_succ, List.getElem?_cons_zero]; rfl)
  case q5z4 => (exact fun _ _ _ h => h)
  case y5z4 => (refine Or.inl ⟨by rfl, ?_⟩; intro w hSw; (try dsimp only at hSw); go_simp; (try with_reducible rfl))
  simp only [Act.put, List.setIfInBounds_toArray, List.set_cons_zero, List.set_cons_succ]
  refine wpAnyH_take (i := 2) (oi := ?p2z5) (v := ?v2z5) ?o2z5 (by kernel_rfl) (by kernel_rfl) (by kernel_rfl) ?q2z5 ?y2z5 (by assumption) ?r2z5
  case o2z5 => (simp only [List.getElem?_toArray, List.getElem?_cons_succ, List.getElem?_cons_zero]; rfl)
  case q2z5 => (exact fun _ _ _ h => h)
  case y2z5 => (refine Or.inl ⟨by rfl, ?_⟩; intro w hSw; (try dsimp only at hSw); go_simp; (try with_reducible rfl))
  simp only [Act.put, List.setIfInBounds_toArray, List.set_cons_zero, List.set_cons_succ]
  refine wpAnyH_take (i := 6) (oi := ?p6z6) (v := ?v6z6) ?o6z6 (by kernel_rfl) (by kernel_rfl) (by kernel_rfl) ?q6z6 ?y6z6 (by assumption) ?r6z6
  case o6z6 => (simp only [List.getElem?_toArray, List.getElem?_cons_succ, List.getElem?_cons_zero]; rfl)
  case q6z6 => (exact fun _ _ _ h => h)
  case y6z6 => (refine Or.inl ⟨by rfl, ?_⟩; intro w hSw; (try dsimp only at hSw); go_simp; (try with_reducible rfl))
  simp only [Act.put, List.setIfInBounds_toArray, List.set_cons_zero, List.set_cons_succ]
  refine wpAnyH_ready (rs := [3]) (by kernel_rfl) (by simp) ?_
  refine (AllReadyH.cons (o := ?pz7) ?oz7 (fun K hK => ?wz7) AllReadyH.nil)
  case oz7 => (simp only [List.getElem?_toArray, List.getElem?_cons_succ, List.getElem?_cons_zero]; rfl)
  case wz7 =>
    rw [if_pos (by rfl)]
    go_simp
    refine (t1_words F V _ T0 HX.out).mono ?_; rintro e wz8 ⟨vz8, rfl, hoz8, hgz8⟩
    (try go_wp2_with fail)
    have htz8 := T0.kp (pm_stable _ _ _) (rm_stable _ _ _) hgz8
    refine hK.out _ _ (Act9.of (htz8.blk HB.out HN.out.1 HN.out.2)) (fun hz8 => ?_)
    clear hK K
    refine wpAnyH_ready (rs := [7]) (by kernel_rfl) (by simp) ?_
    refine (AllReadyH.cons (o := ?pz9) ?oz9 (fun K hK => ?wz9) AllReadyH.nil)
    case oz9 => (simp only [List.getElem?_toArray, List.getElem?_cons_succ, List.getElem?_cons_zero]; rfl)
    case wz9 =>
      rw [if_pos (by rfl)]
      go_simp
      refine (t2_words F V _ htz8).mono ?_; rintro e wz10 ⟨vz10, rfl, hoz10, hgz10⟩
      (try go_wp2_with fail)
      have htz10 := htz8.kp (pm_stable _ _ _) (rm_stable _ _ _) hgz10
      have O1z10 := owns_kp hoz8 hgz10
      refine hK.out _ _ (Act9.of (htz10.blk HB.out HN.out.1 HN.out.2)) (fun hz10 => ?_)
      clear hK K
      refine wpAnyH_ready (rs := [8]) (by kernel_rfl) (by simp) ?_
      refine (AllReadyH.cons (o := ?pz11) ?oz11 (fun K hK => ?wz11) AllReadyH.nil)
      case oz11 => (simp only [List.getElem?_toArray, List.getElem?_cons_succ, List.getElem?_cons_zero]; rfl)
      case wz11 =>
        rw [if_pos (by rfl)]
        go_simp
        refine (both_same _ _ _ _ O1z10 hoz10).mono ?_; rintro e wz12 ⟨rfl, hgz12⟩
        (try go_wp2_with fail)
        have htz12 := htz10.kp (pm_stable _ _ _) (rm_stable _ _ _) hgz12
        have O1z12 := owns_kp O1z10 hgz12
        have O2z12 := owns_kp hoz10 hgz12
        refine hK.out _ _ (Act9.of (htz12.blk HB.out HN.out.1 HN.out.2)) (fun hz12 => ?_)
        clear hK K
        refine wpAnyH_take (i := 9) (oi := ?p9z13) (v := ?v9z13) ?o9z13 (by kernel_rfl) (by kernel_rfl) (by kernel_rfl) ?q9z13 ?y9z13 (by assumption) ?r9z13
        case o9z13 => (simp only [List.getElem?_toArray, List.getElem?_cons_succ, List.getElem?_cons_zero]; rfl)
        case q9z13 => (exact fun _ _ _ h => h)
        case y9z13 => (refine Or.inl ⟨by rfl, ?_⟩; intro w hSw; (try dsimp only at hSw); go_simp; (try with_reducible rfl))
        simp only [Act.put, List.setIfInBounds_toArray, List.set_cons_zero, List.set_cons_succ]
        refine wpAnyH_done (by kernel_rfl) ?_ _
        (try go_wp2_with fail)
        go_ret
        exact ⟨rfl, _, back htz12⟩
set_option maxRecDepth 20000 in
set_option maxHeartbeats 2000000 in
theorem step_1 (a0 : Int) (W X : Nat) (ek : Int) (eW eX : Nat) (efr efm F : Int) (b br n : Nat) (V : Nat → Nat → Nat) (S1 S2 : Nat → Prop) (wb w : World) (h : Two (PQ b n V) (RR br n V) S1 S2 wb w) (hW : W < 18446744073709551616) (hX : X < 18446744073709551616) (ha : a0 = 1) :
    Calls Try.prog 10 #[.pointer (some ⟨b, 0, none⟩), .pointer (some ⟨br, 0, none⟩), .agg (actC a0 W X ek eW eX efr efm F)] w fun e w' => e = .returned (.bool true) ∧ ∃ V2, Two (PQ b n V2) (RR br n V2) S1 S2 wb w' := by
  have K1 : Kp w (w.alloc (.cells (actC a0 W X ek eW eX efr efm F) 37)) := (Kp.refl w).alloc _ _
  obtain ⟨T1, T2, h0, n1, n2, back⟩ := h.box (pm_stable _ _ _) (rm_stable _ _ _) K1
  have HB := Lib.hid (Blk.new w (actC a0 W X ek eW eX efr efm F) 37)
  have H0 := Lib.hid h0
  have HN := Lib.hid (And.intro n1 n2)
  have c9 := Act9.of HB.out
  clear h K1 h0 n1 n2
  have d0 : (a0 == 0) = false := by simp; omega
  have d1 : (a0 == 1) = true := by simp [ha]
  have HX := Lib.hid (And.intro hW hX)
  obtain ⟨z, E, V2, hE⟩ : ∃ z E V2, (if W / 512 < n then V (W / 512) (W % 512) else 0) = z ∧ (if W / 512 < n then (0 : Int) else 80) = E ∧ (if W / 512 < n then putV V (W / 512) (W % 512) ((V (W / 512) (W % 512) + X) % 18446744073709551616) else V) = V2 := ⟨_, _, _, rfl, rfl, rfl⟩
  have HE := Lib.hid hE
  clear hW hX ha hE
  unfold actC at *
  obtain ⟨x0, x1, x2, -⟩ := c9
  go_enter Try.func10, Try.ntmps10
  go_wp2_with (first
    | (go_at_call 21; refine (t2_add (pm_stable _ _ _) W X z E V V2 _ A1.out HX.out.1 HE.out.1 HE.out.2.1 HE.out.2.2).mono ?_; rintro e w2 ⟨rfl, ht⟩; have A2 := Lib.hid ht; clear ht)
    | (go_at_call 18; refine (t1_add (rm_stable _ _ _) W X z E V V2 _ H0.out HX.out.1 HE.out.1 HE.out.2.1 HE.out.2.2).mono ?_; rintro e w1 ⟨rfl, ht⟩; have A1 := Lib.hid ht; clear ht x0 x1 x2; have pA1 := (Act9.of (A1.out.blk HB.out HN.out.1 HN.out.2)).2.1; have qA1 := (Act9.of (A1.out.blk HB.out HN.out.1 HN.out.2)).2.2.1))
  go_ret
  exact ⟨rfl, _, back A2.out⟩
set_option maxRecDepth 20000 in
set_option maxHeartbeats 2000000 in
theorem step_3 (a0 : Int) (W X : Nat) (ek : Int) (eW eX : Nat) (efr efm F : Int) (b br n : Nat) (V : Nat → Nat → Nat) (S1 S2 : Nat → Prop) (wb w : World) (h : Two (PQ b n V) (RR br n V) S1 S2 wb w) (hW : W < 18446744073709551616) (ha : a0 = 3) :
    Calls Try.prog 10 #[.pointer (some ⟨b, 0, none⟩), .pointer (some ⟨br, 0, none⟩), .agg (actC a0 W X ek eW eX efr efm F)] w fun e w' => e = .returned (.bool true) ∧ ∃ V2, Two (PQ b n V2) (RR br n V2) S1 S2 wb w' := by
  have K1 : Kp w (w.alloc (.cells (actC a0 W X ek eW eX efr efm F) 37)) := (Kp.refl w).alloc _ _
  obtain ⟨T1, T2, h0, n1, n2, back⟩ := h.box (pm_stable _ _ _) (rm_stable _ _ _) K1
  have HB := Lib.hid (Blk.new w (actC a0 W X ek eW eX efr efm F) 37)
  have H0 := Lib.hid h0
  have HN := Lib.hid (And.intro n1 n2)
  have c9 := Act9.of HB.out
  clear h K1 h0 n1 n2
  have d0 : (a0 == 0) = false := by simp; omega
  have d1 : (a0 == 1) = false := by simp; omega
  have d2 : (a0 == 2) = false := by simp; omega
  have d3 : (a0 == 3) = true := by simp [ha]
  have HX := Lib.hid hW
  obtain ⟨z, E, hE⟩ : ∃ z E, (if W / 512 < n then V (W / 512) (W % 512) else 0) = z ∧ (if W / 512 < n then (0 : Int) else 80) = E := ⟨_, _, rfl, rfl⟩
  have HE := Lib.hid hE
  clear hW ha hE
  unfold actC at *
  obtain ⟨x0, x1, x2, -⟩ := c9
  go_enter Try.func10, Try.ntmps10
  go_wp2_with (first
    | (go_at_call 23; refine (t2_read (pm_stable _ _ _) W z E V _ A1.out HX.out HE.out.1 HE.out.2).mono ?_; rintro e w2 ⟨rfl, ht⟩; have A2 := Lib.hid ht; clear ht)
    | (go_at_call 17; refine (t1_read (rm_stable _ _ _) W z E V _ H0.out HX.out HE.out.1 HE.out.2).mono ?_; rintro e w1 ⟨rfl, ht⟩; have A1 := Lib.hid ht; clear ht x0 x1 x2; have pA1 := (Act9.of (A1.out.blk HB.out HN.out.1 HN.out.2)).2.1; have qA1 := (Act9.of (A1.out.blk HB.out HN.out.1 HN.out.2)).2.2.1))
  go_ret
  exact ⟨rfl, _, back A2.out⟩
theorem step_any (a0 : Int) (W X : Nat) (ek : Int) (eW eX : Nat) (efr efm F : Int) (b br n : Nat) (V : Nat → Nat → Nat) (S1 S2 : Nat → Prop) (wb w : World) (h : Two (PQ b n V) (RR br n V) S1 S2 wb w)
    (hW : W < 18446744073709551616) (hX : X < 18446744073709551616) (hk : -128 ≤ ek ∧ ek < 128) (heW : eW < 18446744073709551616) (heX : eX < 18446744073709551616) (hF : -9223372036854775808 ≤ F ∧ F < 9223372036854775808) :
    Calls Try.prog 10 #[.pointer (some ⟨b, 0, none⟩), .pointer (some ⟨br, 0, none⟩), .agg (actC a0 W X ek eW eX efr efm F)] w fun e w' => e = .returned (.bool true) ∧ ∃ V2, Two (PQ b n V2) (RR br n V2) S1 S2 wb w' := by
  by_cases h0 : a0 = 0
  · exact step_0 a0 W X ek eW eX efr efm F b br n V S1 S2 wb w h hW hX h0
  by_cases h1 : a0 = 1
  · exact step_1 a0 W X ek eW eX efr efm F b br n V S1 S2 wb w h hW hX h1
  by_cases h2 : a0 = 2
  · exact step_2 a0 W X ek eW eX efr efm F b br n V S1 S2 wb w h heW heX hk h2
  by_cases h3 : a0 = 3
  · exact step_3 a0 W X ek eW eX efr efm F b br n V S1 S2 wb w h hW h3
  exact step_x a0 W X ek eW eX efr efm F b br n V S1 S2 wb w h hF h0 h1 h2 h3
end Go.Proofs.Ytnjdglejcfdonaa
