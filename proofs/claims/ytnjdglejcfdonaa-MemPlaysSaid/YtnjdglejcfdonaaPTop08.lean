/-
  Package mem: an entry reaches memory: the table of what the kinds do. No condition.
-/
import Derived.Test.YtnjdglejcfdonaaPReach08
import Derived.Laws.Tables
import Derived.Deep.WholeRow
namespace Go.Proofs.Ytnjdglejcfdonaa
open Go Go.RowKit Go.Maps

def rE (n : Nat) (k : Int) (W : Nat) (fr fm : Int) : Int := if k = 0 then (if W / 512 < n then 0 else 80) else if k = 1 then 0 else if k = 2 then (if okF n fm = true then 0 else 80) else if k = 3 then (if okF n fm = true ∧ okF n fr = true then 0 else 80) else 2
def rV (n : Nat) (V : Nat → Nat → Nat) (k : Int) (W X : Nat) (fr fm : Int) : Nat → Nat → Nat := if k = 0 then (if W / 512 < n then putV V (W / 512) (W % 512) X else V) else if k = 1 then V else if k = 2 then (if okF n fm = true then setF V fm.toNat (fun _ => 0) else V) else if k = 3 then (if okF n fm = true ∧ okF n fr = true then setF V fm.toNat (V fr.toNat) else V) else V
theorem okF_nat {n : Nat} {x : Int} (h : okF n x = true) : ∃ f : Nat, x = f ∧ f < n ∧ x.toNat = f := by
  unfold okF at h
  simp at h
  exact ⟨x.toNat, by omega, by omega, rfl⟩
def tabV (b : Nat) : Array Value := #[.func (.func 27) #[.pointer (some ⟨b, 0, none⟩)] #[], .func (.func 28) #[.pointer (some ⟨b, 0, none⟩)] #[], .func (.func 29) #[.pointer (some ⟨b, 0, none⟩)] #[], .func (.func 30) #[.pointer (some ⟨b, 0, none⟩)] #[]]
/-- The entry's cells and a place of the table. -/
def Six (w' : World) (B : Nat) (k W X fr fm : Int) (j : Nat) (v : Value) : Prop := w'.cell? ⟨B, 0, none⟩ = some (.int .i8 k) ∧ w'.cell? ⟨B, 1, none⟩ = some (.int .u64 W) ∧ w'.cell? ⟨B, 2, none⟩ = some (.int .u64 X) ∧ w'.cell? ⟨B, 3, none⟩ = some (.int .i64 fr) ∧ w'.cell? ⟨B, 4, none⟩ = some (.int .i64 fm) ∧ w'.cell? ⟨B + 1, j, none⟩ = some v
theorem Six.off {S : Nat → Prop} {w w' : World} {B : Nat} {k W X fr fm : Int} {j : Nat} {v : Value} (h : Six w B k W X fr fm j v) (g : Off S w w') (h1 : ¬ S B) (h2 : ¬ S (B + 1)) : Six w' B k W X fr fm j v := by
  obtain ⟨a, b, c, d, e, q⟩ := h
  exact ⟨cell_off a g h1, cell_off b g h1, cell_off c g h1, cell_off d g h1, cell_off e g h1, cell_off q g h2⟩
theorem Six.of {w : World} {B : Nat} {k W X fr fm : Int} {t s : TypeId} {b : Nat} (h : Blk w B (entV k W X fr fm) t) (g : Blk w (B + 1) (tabV b) s) (j : Nat) (v : Value) (hv : (tabV b)[j]? = some v) : Six w B k W X fr fm j v :=
  ⟨h.cell 0, h.cell 1, h.cell 2, h.cell 3, h.cell 4, (g.cell j).trans hv⟩
theorem setRow_new2 (w : World) (cs0 cs cs' : Array Value) (t0 t : TypeId) : ((w.alloc (.cells cs0 t0)).alloc (.cells cs t)).setRow (w.heap.size + 1) cs' = (w.alloc (.cells cs0 t0)).alloc (.cells cs' t) := by
  have e : w.heap.size + 1 = (w.alloc (.cells cs0 t0)).heap.size := by simp
  rw [e]
  exact World.setRow_alloc_new _ _ _ _
theorem preach_0 (W X fr fm E : Int) (w : World) (S : Nat → Prop) (b n : Nat) (U : Nat → Nat → Nat) (hS : ∀ k, S k → k < w.heap.size)
    (hc : ∀ w1, Kp w w1 → Calls Try.prog 27 #[.pointer (some ⟨b, 0, none⟩), .agg (entV 0 W X fr fm)] w1 fun e w' => e = .returned (.int .i64 E) ∧ ∃ S', PMem w' S' b n U ∧ Grew w1 S S' ∧ Off S w1 w') :
    Calls Try.prog 19 #[.pointer (some ⟨b, 0, none⟩), .agg (entV 0 W X fr fm)] w fun e w' => e = .returned (.int .i64 E) ∧ ∃ S', PMem w' S' b n U ∧ Grew w S S' ∧ Off S w w' := by
  have hmf : ∀ (fn : Fn) (first cap : Array Value) (w : World), (Instr.makeFunc fn first cap).run Try.prog w = .ok (.func fn first cap) w := fun _ _ _ _ => rfl
  have HC := Lib.hid hc
  have HS : Hid (¬ S w.heap.size ∧ ¬ S (w.heap.size + 1)) := Lib.hid ⟨fun q => by have := hS _ q; omega, fun q => by have := hS _ q; omega⟩
  have h6 : Six ((w.alloc (.cells (entV 0 W X fr fm) 35)).alloc (.cells (tabV b) 68)).drew w.heap.size 0 W X fr fm 0 (.func (.func 27) #[.pointer (some ⟨b, 0, none⟩)] #[]) := Six.of (((Blk.new w _ _).alloc _).drew) ((Blk.new2 w _ _ _).drew) _ _ rfl
  have HKw : Hid (Kp w ((w.alloc (.cells (entV 0 W X fr fm) 35)).alloc (.cells (tabV b) 68)).drew) := Lib.hid ((((Kp.refl w).alloc _ _).alloc _ _).drew)
  have H6 := Lib.hid h6
  clear hc hS h6
  unfold entV at HC ⊢
  unfold entV tabV at HKw H6
  go_enter Try.func19, Try.ntmps19
  go_wp2_with (refine wpList_store_row rfl 68 (.tmp 5) (.tmp 16) rfl (w.heap.size + 1) (tabV b) rfl rfl _ _ (Blk.new2 w _ _ _) (by kernel_rfl) rfl (by simp [tabV, Value.oneCell']) ?_; rw [setRow_new2]; unfold tabV)
  refine wp_region_held_drew (S := fun w' => w'.cell? ⟨w.heap.size, 0, none⟩ = some (.int .i8 0) ∧ w'.cell? ⟨w.heap.size, 1, none⟩ = some (.int .u64 W) ∧ w'.cell? ⟨w.heap.size, 2, none⟩ = some (.int .u64 X) ∧ w'.cell? ⟨w.heap.size, 3, none⟩ = some (.int .i64 fr) ∧ w'.cell? ⟨w.heap.size, 4, none⟩ = some (.int .i64 fm) ∧ w'.cell? ⟨w.heap.size + 1, 0, none⟩ = some (.func (.func 27) #[.pointer (some ⟨b, 0, none⟩)] #[])) (by kernel_rfl) H6.out (fun hHeld => ?_)
  clear H6
  generalize World.drew _ = w0 at hHeld HKw ⊢
  refine wpAnyH_take (i := 0) (oi := ?p0z1) (v := ?v0z1) ?o0z1 (by kernel_rfl) (by kernel_rfl) (by kernel_rfl) ?q0z1 ?y0z1 (by assumption) ?r0z1
  case o0z1 => (simp only [List.getElem?_toArray, List.getElem?_cons_zero]; rfl)
  case q0z1 => (exact fun _ _ _ h => h)
  case y0z1 => (refine Or.inl ⟨by rfl, ?_⟩; intro w hSw; (try dsimp only at hSw); go_simp; (try with_reducible rfl))
  simp only [Act.put, List.setIfInBounds_toArray, List.set_cons_zero, List.set_cons_succ]
  refine wpAnyH_take (i := 1) (oi := ?p1z2) (v := ?v1z2) ?o1z2 (by kernel_rfl) (by kernel_rfl) (by kernel_rfl) ?q1z2 ?y1z2 (by assumption) ?r1z2
  case o1z2 => (simp only [List.getElem?_toArray, List.getElem?_cons_succ, List.getElem?_cons_zero]; rfl)
  case q1z2 => (exact fun _ _ _ h => h)
  case y1z2 => (refine Or.inl ⟨by rfl, ?_⟩; intro w hSw; (try dsimp only at hSw); go_simp; (try with_reducible rfl))
  simp only [Act.put, List.setIfInBounds_toArray, List.set_cons_zero, List.set_cons_succ]
  refine wpAnyH_take (i := 2) (oi := ?p2z3) (v := ?v2z3) ?o2z3 (by kernel_rfl) (by kernel_rfl) (by kernel_rfl) ?q2z3 ?y2z3 (by assumption) ?r2z3
  case o2z3 => (simp only [List.getElem?_toArray, List.getElem?_cons_succ, List.getElem?_cons_zero]; rfl)
  case q2z3 => (exact fun _ _ _ h => h)
  case y2z3 => (refine Or.inl ⟨by rfl, ?_⟩; intro w hSw; (try dsimp only at hSw); go_simp; (try with_reducible rfl))
  simp only [Act.put, List.setIfInBounds_toArray, List.set_cons_zero, List.set_cons_succ]
  refine wpAnyH_take (i := 3) (oi := ?p3z4) (v := ?v3z4) ?o3z4 (by kernel_rfl) (by kernel_rfl) (by kernel_rfl) ?q3z4 ?y3z4 (by assumption) ?r3z4
  case o3z4 => (simp only [List.getElem?_toArray, List.getElem?_cons_succ, List.getElem?_cons_zero]; rfl)
  case q3z4 => (exact fun _ _ _ h => h)
  case y3z4 => (refine Or.inl ⟨by rfl, ?_⟩; intro w hSw; (try dsimp only at hSw); go_simp; (try with_reducible rfl))
  simp only [Act.put, List.setIfInBounds_toArray, List.set_cons_zero, List.set_cons_succ]
  refine wpAnyH_take (i := 4) (oi := ?p4z5) (v := ?v4z5) ?o4z5 (by kernel_rfl) (by kernel_rfl) (by kernel_rfl) ?q4z5 ?y4z5 (by assumption) ?r4z5
  case o4z5 => (simp only [List.getElem?_toArray, List.getElem?_cons_succ, List.getElem?_cons_zero]; rfl)
  case q4z5 => (exact fun _ _ _ h => h)
  case y4z5 => (refine Or.inl ⟨by rfl, ?_⟩; intro w hSw; (try dsimp only at hSw); go_simp; (try with_reducible rfl))
  simp only [Act.put, List.setIfInBounds_toArray, List.set_cons_zero, List.set_cons_succ]
  refine wpAnyH_ready (rs := [5]) (by kernel_rfl) (by simp) ?_
  refine (AllReadyH.cons (o := ?pz6) ?oz6 (fun K hK => ?wz6) AllReadyH.nil)
  case oz6 => (simp only [List.getElem?_toArray, List.getElem?_cons_succ, List.getElem?_cons_zero]; rfl)
  case wz6 =>
    rw [if_pos (by rfl)]
    go_simp
    refine (HC.out _ HKw.out).mono ?_; rintro e w4 ⟨rfl, S', r', g', o'⟩
    (try go_wp2_with fail)
    refine hK.out _ _ (Six.off hHeld o' HS.out.1 HS.out.2) (fun hz7 => ?_)
    clear hK K
    have R := Lib.hid r'; have G := Lib.hid g'; have O := Lib.hid o'; clear r' g' o'
    refine wpAnyH_take (i := 6) (oi := ?p6z8) (v := ?v6z8) ?o6z8 (by kernel_rfl) (by kernel_rfl) (by kernel_rfl) ?q6z8 ?y6z8 (by assumption) ?r6z8
    case o6z8 => (simp only [List.getElem?_toArray, List.getElem?_cons_succ, List.getElem?_cons_zero]; rfl)
    case q6z8 => (exact fun _ _ _ h => h)
    case y6z8 => (refine Or.inl ⟨by rfl, ?_⟩; intro w hSw; (try dsimp only at hSw); go_simp; (try with_reducible rfl))
    simp only [Act.put, List.setIfInBounds_toArray, List.set_cons_zero, List.set_cons_succ]
    refine wpAnyH_done (by kernel_rfl) ?_ _
    (try go_wp2_with fail)
    go_ret
    exact ⟨rfl, S', R.out, fun k hk => (G.out k hk).imp id (fun z => Nat.le_trans HKw.out.size z), (Off.of_kp HKw.out).trans O.out (Grew.refl _ _)⟩
theorem preach_1 (W X fr fm E : Int) (w : World) (S : Nat → Prop) (b n : Nat) (U : Nat → Nat → Nat) (hS : ∀ k, S k → k < w.heap.size)
    (hc : ∀ w1, Kp w w1 → Calls Try.prog 28 #[.pointer (some ⟨b, 0, none⟩), .agg (entV 1 W X fr fm)] w1 fun e w' => e = .returned (.int .i64 E) ∧ ∃ S', PMem w' S' b n U ∧ Grew w1 S S' ∧ Off S w1 w') :
    Calls Try.prog 19 #[.pointer (some ⟨b, 0, none⟩), .agg (entV 1 W X fr fm)] w fun e w' => e = .returned (.int .i64 E) ∧ ∃ S', PMem w' S' b n U ∧ Grew w S S' ∧ Off S w w' := by
  have hmf : ∀ (fn : Fn) (first cap : Array Value) (w : World), (Instr.makeFunc fn first cap).run Try.prog w = .ok (.func fn first cap) w := fun _ _ _ _ => rfl
  have HC := Lib.hid hc
  have HS : Hid (¬ S w.heap.size ∧ ¬ S (w.heap.size + 1)) := Lib.hid ⟨fun q => by have := hS _ q; omega, fun q => by have := hS _ q; omega⟩
  have h6 : Six ((w.alloc (.cells (entV 1 W X fr fm) 35)).alloc (.cells (tabV b) 68)).drew w.heap.size 1 W X fr fm 1 (.func (.func 28) #[.pointer (some ⟨b, 0, none⟩)] #[]) := Six.of (((Blk.new w _ _).alloc _).drew) ((Blk.new2 w _ _ _).drew) _ _ rfl
  have HKw : Hid (Kp w ((w.alloc (.cells (entV 1 W X fr fm) 35)).alloc (.cells (tabV b) 68)).drew) := Lib.hid ((((Kp.refl w).alloc _ _).alloc _ _).drew)
  have H6 := Lib.hid h6
  clear hc hS h6
  unfold entV at HC ⊢
  unfold entV tabV at HKw H6
  go_enter Try.func19, Try.ntmps19
  go_wp2_with (refine wpList_store_row rfl 68 (.tmp 5) (.tmp 16) rfl (w.heap.size + 1) (tabV b) rfl rfl _ _ (Blk.new2 w _ _ _) (by kernel_rfl) rfl (by simp [tabV, Value.oneCell']) ?_; rw [setRow_new2]; unfold tabV)
  refine wp_region_held_drew (S := fun w' => w'.cell? ⟨w.heap.size, 0, none⟩ = some (.int .i8 1) ∧ w'.cell? ⟨w.heap.size, 1, none⟩ = some (.int .u64 W) ∧ w'.cell? ⟨w.heap.size, 2, none⟩ = some (.int .u64 X) ∧ w'.cell? ⟨w.heap.size, 3, none⟩ = some (.int .i64 fr) ∧ w'.cell? ⟨w.heap.size, 4, none⟩ = some (.int .i64 fm) ∧ w'.cell? ⟨w.heap.size + 1, 1, none⟩ = some (.func (.func 28) #[.pointer (some ⟨b, 0, none⟩)] #[])) (by kernel_rfl) H6.out (fun hHeld => ?_)
  clear H6
  generalize World.drew _ = w0 at hHeld HKw ⊢
  refine wpAnyH_take (i := 0) (oi := ?p0z1) (v := ?v0z1) ?o0z1 (by kernel_rfl) (by kernel_rfl) (by kernel_rfl) ?q0z1 ?y0z1 (by assumption) ?r0z1
  case o0z1 => (simp only [List.getElem?_toArray, List.getElem?_cons_zero]; rfl)
  case q0z1 => (exact fun _ _ _ h => h)
  case y0z1 => (refine Or.inl ⟨by rfl, ?_⟩; intro w hSw; (try dsimp only at hSw); go_simp; (try with_reducible rfl))
  simp only [Act.put, List.setIfInBounds_toArray, List.set_cons_zero, List.set_cons_succ]
  refine wpAnyH_take (i := 1) (oi := ?p1z2) (v := ?v1z2) ?o1z2 (by kernel_rfl) (by kernel_rfl) (by kernel_rfl) ?q1z2 ?y1z2 (by assumption) ?r1z2
  case o1z2 => (simp only [List.getElem?_toArray, List.getElem?_cons_succ, List.getElem?_cons_zero]; rfl)
  case q1z2 => (exact fun _ _ _ h => h)
  case y1z2 => (refine Or.inl ⟨by rfl, ?_⟩; intro w hSw; (try dsimp only at hSw); go_simp; (try with_reducible rfl))
  simp only [Act.put, List.setIfInBounds_toArray, List.set_cons_zero, List.set_cons_succ]
  refine wpAnyH_take (i := 2) (oi := ?p2z3) (v := ?v2z3) ?o2z3 (by kernel_rfl) (by kernel_rfl) (by kernel_rfl) ?q2z3 ?y2z3 (by assumption) ?r2z3
  case o2z3 => (simp only [List.getElem?_toArray, List.getElem?_cons_succ, List.getElem?_cons_zero]; rfl)
  case q2z3 => (exact fun _ _ _ h => h)
  case y2z3 => (refine Or.inl ⟨by rfl, ?_⟩; intro w hSw; (try dsimp only at hSw); go_simp; (try with_reducible rfl))
  simp only [Act.put, List.setIfInBounds_toArray, List.set_cons_zero, List.set_cons_succ]
  refine wpAnyH_take (i := 3) (oi := ?p3z4) (v := ?v3z4) ?o3z4 (by kernel_rfl) (by kernel_rfl) (by kernel_rfl) ?q3z4 ?y3z4 (by assumption) ?r3z4
  case o3z4 => (simp only [List.getElem?_toArray, List.getElem?_cons_succ, List.getElem?_cons_zero]; rfl)
  case q3z4 => (exact fun _ _ _ h => h)
  case y3z4 => (refine Or.inl ⟨by rfl, ?_⟩; intro w hSw; (try dsimp only at hSw); go_simp; (try with_reducible rfl))
  simp only [Act.put, List.setIfInBounds_toArray, List.set_cons_zero, List.set_cons_succ]
  refine wpAnyH_take (i := 4) (oi := ?p4z5) (v := ?v4z5) ?o4z5 (by kernel_rfl) (by kernel_rfl) (by kernel_rfl) ?q4z5 ?y4z5 (by assumption) ?r4z5
  case o4z5 => (simp only [List.getElem?_toArray, List.getElem?_cons_succ, List.getElem?_cons_zero]; rfl)
  case q4z5 => (exact fun _ _ _ h => h)
  case y4z5 => (refine Or.inl ⟨by rfl, ?_⟩; intro w hSw; (try dsimp only at hSw); go_simp; (try with_reducible rfl))
  simp only [Act.put, List.setIfInBounds_toArray, List.set_cons_zero, List.set_cons_succ]
  refine wpAnyH_ready (rs := [5]) (by kernel_rfl) (by simp) ?_
  refine (AllReadyH.cons (o := ?pz6) ?oz6 (fun K hK => ?wz6) AllReadyH.nil)
  case oz6 => (simp only [List.getElem?_toArray, List.getElem?_cons_succ, List.getElem?_cons_zero]; rfl)
  case wz6 =>
    rw [if_pos (by rfl)]
    go_simp
    refine (HC.out _ HKw.out).mono ?_; rintro e w4 ⟨rfl, S', r', g', o'⟩
    (try go_wp2_with fail)
    refine hK.out _ _ (Six.off hHeld o' HS.out.1 HS.out.2) (fun hz7 => ?_)
    clear hK K
    have R := Lib.hid r'; have G := Lib.hid g'; have O := Lib.hid o'; clear r' g' o'
    refine wpAnyH_take (i := 6) (oi := ?p6z8) (v := ?v6z8) ?o6z8 (by kernel_rfl) (by kernel_rfl) (by kernel_rfl) ?q6z8 ?y6z8 (by assumption) ?r6z8
    case o6z8 => (simp only [List.getElem?_toArray, List.getElem?_cons_succ, List.getElem?_cons_zero]; rfl)
    case q6z8 => (exact fun _ _ _ h => h)
    case y6z8 => (refine Or.inl ⟨by rfl, ?_⟩; intro w hSw; (try dsimp only at hSw); go_simp; (try with_reducible rfl))
    simp only [Act.put, List.setIfInBounds_toArray, List.set_cons_zero, List.set_cons_succ]
    refine wpAnyH_done (by kernel_rfl) ?_ _
    (try go_wp2_with fail)
    go_ret
    exact ⟨rfl, S', R.out, fun k hk => (G.out k hk).imp id (fun z => Nat.le_trans HKw.out.size z), (Off.of_kp HKw.out).trans O.out (Grew.refl _ _)⟩
theorem preach_2 (W X fr fm E : Int) (w : World) (S : Nat → Prop) (b n : Nat) (U : Nat → Nat → Nat) (hS : ∀ k, S k → k < w.heap.size)
    (hc : ∀ w1, Kp w w1 → Calls Try.prog 29 #[.pointer (some ⟨b, 0, none⟩), .agg (entV 2 W X fr fm)] w1 fun e w' => e = .returned (.int .i64 E) ∧ ∃ S', PMem w' S' b n U ∧ Grew w1 S S' ∧ Off S w1 w') :
    Calls Try.prog 19 #[.pointer (some ⟨b, 0, none⟩), .agg (entV 2 W X fr fm)] w fun e w' => e = .returned (.int .i64 E) ∧ ∃ S', PMem w' S' b n U ∧ Grew w S S' ∧ Off S w w' := by
  have hmf : ∀ (fn : Fn) (first cap : Array Value) (w : World), (Instr.makeFunc fn first cap).run Try.prog w = .ok (.func fn first cap) w := fun _ _ _ _ => rfl
  have HC := Lib.hid hc
  have HS : Hid (¬ S w.heap.size ∧ ¬ S (w.heap.size + 1)) := Lib.hid ⟨fun q => by have := hS _ q; omega, fun q => by have := hS _ q; omega⟩
  have h6 : Six ((w.alloc (.cells (entV 2 W X fr fm) 35)).alloc (.cells (tabV b) 68)).drew w.heap.size 2 W X fr fm 2 (.func (.func 29) #[.pointer (some ⟨b, 0, none⟩)] #[]) := Six.of (((Blk.new w _ _).alloc _).drew) ((Blk.new2 w _ _ _).drew) _ _ rfl
  have HKw : Hid (Kp w ((w.alloc (.cells (entV 2 W X fr fm) 35)).alloc (.cells (tabV b) 68)).drew) := Lib.hid ((((Kp.refl w).alloc _ _).alloc _ _).drew)
  have H6 := Lib.hid h6
  clear hc hS h6
  unfold entV at HC ⊢
  unfold entV tabV at HKw H6
  go_enter Try.func19, Try.ntmps19
  go_wp2_with (refine wpList_store_row rfl 68 (.tmp 5) (.tmp 16) rfl (w.heap.size + 1) (tabV b) rfl rfl _ _ (Blk.new2 w _ _ _) (by kernel_rfl) rfl (by simp [tabV, Value.oneCell']) ?_; rw [setRow_new2]; unfold tabV)
  refine wp_region_held_drew (S := fun w' => w'.cell? ⟨w.heap.size, 0, none⟩ = some (.int .i8 2) ∧ w'.cell? ⟨w.heap.size, 1, none⟩ = some (.int .u64 W) ∧ w'.cell? ⟨w.heap.size, 2, none⟩ = some (.int .u64 X) ∧ w'.cell? ⟨w.heap.size, 3, none⟩ = some (.int .i64 fr) ∧ w'.cell? ⟨w.heap.size, 4, none⟩ = some (.int .i64 fm) ∧ w'.cell? ⟨w.heap.size + 1, 2, none⟩ = some (.func (.func 29) #[.pointer (some ⟨b, 0, none⟩)] #[])) (by kernel_rfl) H6.out (fun hHeld => ?_)
  clear H6
  generalize World.drew _ = w0 at hHeld HKw ⊢
  refine wpAnyH_take (i := 0) (oi := ?p0z1) (v := ?v0z1) ?o0z1 (by kernel_rfl) (by kernel_rfl) (by kernel_rfl) ?q0z1 ?y0z1 (by assumption) ?r0z1
  case o0z1 => (simp only [List.getElem?_toArray, List.getElem?_cons_zero]; rfl)
  case q0z1 => (exact fun _ _ _ h => h)
  case y0z1 => (refine Or.inl ⟨by rfl, ?_⟩; intro w hSw; (try dsimp only at hSw); go_simp; (try with_reducible rfl))
  simp only [Act.put, List.setIfInBounds_toArray, List.set_cons_zero, List.set_cons_succ]
  refine wpAnyH_take (i := 1) (oi := ?p1z2) (v := ?v1z2) ?o1z2 (by kernel_rfl) (by kernel_rfl) (by kernel_rfl) ?q1z2 ?y1z2 (by assumption) ?r1z2
  case o1z2 => (simp only [List.getElem?_toArray, List.getElem?_cons_succ, List.getElem?_cons_zero]; rfl)
  case q1z2 => (exact fun _ _ _ h => h)
  case y1z2 => (refine Or.inl ⟨by rfl, ?_⟩; intro w hSw; (try dsimp only at hSw); go_simp; (try with_reducible rfl))
  simp only [Act.put, List.setIfInBounds_toArray, List.set_cons_zero, List.set_cons_succ]
  refine wpAnyH_take (i := 2) (oi := ?p2z3) (v := ?v2z3) ?o2z3 (by kernel_rfl) (by kernel_rfl) (by kernel_rfl) ?q2z3 ?y2z3 (by assumption) ?r2z3
  case o2z3 => (simp only [List.getElem?_toArray, List.getElem?_cons_succ, List.getElem?_cons_zero]; rfl)
  case q2z3 => (exact fun _ _ _ h => h)
  case y2z3 => (refine Or.inl ⟨by rfl, ?_⟩; intro w hSw; (try dsimp only at hSw); go_simp; (try with_reducible rfl))
  simp only [Act.put, List.setIfInBounds_toArray, List.set_cons_zero, List.set_cons_succ]
  refine wpAnyH_take (i := 3) (oi := ?p3z4) (v := ?v3z4) ?o3z4 (by kernel_rfl) (by kernel_rfl) (by kernel_rfl) ?q3z4 ?y3z4 (by assumption) ?r3z4
  case o3z4 => (simp only [List.getElem?_toArray, List.getElem?_cons_succ, List.getElem?_cons_zero]; rfl)
  case q3z4 => (exact fun _ _ _ h => h)
  case y3z4 => (refine Or.inl ⟨by rfl, ?_⟩; intro w hSw; (try dsimp only at hSw); go_simp; (try with_reducible rfl))
  simp only [Act.put, List.setIfInBounds_toArray, List.set_cons_zero, List.set_cons_succ]
  refine wpAnyH_take (i := 4) (oi := ?p4z5) (v := ?v4z5) ?o4z5 (by kernel_rfl) (by kernel_rfl) (by kernel_rfl) ?q4z5 ?y4z5 (by assumption) ?r4z5
  case o4z5 => (simp only [List.getElem?_toArray, List.getElem?_cons_succ, List.getElem?_cons_zero]; rfl)
  case q4z5 => (exact fun _ _ _ h => h)
  case y4z5 => (refine Or.inl ⟨by rfl, ?_⟩; intro w hSw; (try dsimp only at hSw); go_simp; (try with_reducible rfl))
  simp only [Act.put, List.setIfInBounds_toArray, List.set_cons_zero, List.set_cons_succ]
  refine wpAnyH_ready (rs := [5]) (by kernel_rfl) (by simp) ?_
  refine (AllReadyH.cons (o := ?pz6) ?oz6 (fun K hK => ?wz6) AllReadyH.nil)
  case oz6 => (simp only [List.getElem?_toArray, List.getElem?_cons_succ, List.getElem?_cons_zero]; rfl)
  case wz6 =>
    rw [if_pos (by rfl)]
    go_simp
    refine (HC.out _ HKw.out).mono ?_; rintro e w4 ⟨rfl, S', r', g', o'⟩
    (try go_wp2_with fail)
    refine hK.out _ _ (Six.off hHeld o' HS.out.1 HS.out.2) (fun hz7 => ?_)
    clear hK K
    have R := Lib.hid r'; have G := Lib.hid g'; have O := Lib.hid o'; clear r' g' o'
    refine wpAnyH_take (i := 6) (oi := ?p6z8) (v := ?v6z8) ?o6z8 (by kernel_rfl) (by kernel_rfl) (by kernel_rfl) ?q6z8 ?y6z8 (by assumption) ?r6z8
    case o6z8 => (simp only [List.getElem?_toArray, List.getElem?_cons_succ, List.getElem?_cons_zero]; rfl)
    case q6z8 => (exact fun _ _ _ h => h)
    case y6z8 => (refine Or.inl ⟨by rfl, ?_⟩; intro w hSw; (try dsimp only at hSw); go_simp; (try with_reducible rfl))
    simp only [Act.put, List.setIfInBounds_toArray, List.set_cons_zero, List.set_cons_succ]
    refine wpAnyH_done (by kernel_rfl) ?_ _
    (try go_wp2_with fail)
    go_ret
    exact ⟨rfl, S', R.out, fun k hk => (G.out k hk).imp id (fun z => Nat.le_trans HKw.out.size z), (Off.of_kp HKw.out).trans O.out (Grew.refl _ _)⟩
theorem preach_3 (W X fr fm E : Int) (w : World) (S : Nat → Prop) (b n : Nat) (U : Nat → Nat → Nat) (hS : ∀ k, S k → k < w.heap.size)
    (hc : ∀ w1, Kp w w1 → Calls Try.prog 30 #[.pointer (some ⟨b, 0, none⟩), .agg (entV 3 W X fr fm)] w1 fun e w' => e = .returned (.int .i64 E) ∧ ∃ S', PMem w' S' b n U ∧ Grew w1 S S' ∧ Off S w1 w') :
    Calls Try.prog 19 #[.pointer (some ⟨b, 0, none⟩), .agg (entV 3 W X fr fm)] w fun e w' => e = .returned (.int .i64 E) ∧ ∃ S', PMem w' S' b n U ∧ Grew w S S' ∧ Off S w w' := by
  have hmf : ∀ (fn : Fn) (first cap : Array Value) (w : World), (Instr.makeFunc fn first cap).run Try.prog w = .ok (.func fn first cap) w := fun _ _ _ _ => rfl
  have HC := Lib.hid hc
  have HS : Hid (¬ S w.heap.size ∧ ¬ S (w.heap.size + 1)) := Lib.hid ⟨fun q => by have := hS _ q; omega, fun q => by have := hS _ q; omega⟩
  have h6 : Six ((w.alloc (.cells (entV 3 W X fr fm) 35)).alloc (.cells (tabV b) 68)).drew w.heap.size 3 W X fr fm 3 (.func (.func 30) #[.pointer (some ⟨b, 0, none⟩)] #[]) := Six.of (((Blk.new w _ _).alloc _).drew) ((Blk.new2 w _ _ _).drew) _ _ rfl
  have HKw : Hid (Kp w ((w.alloc (.cells (entV 3 W X fr fm) 35)).alloc (.cells (tabV b) 68)).drew) := Lib.hid ((((Kp.refl w).alloc _ _).alloc _ _).drew)
  have H6 := Lib.hid h6
  clear hc hS h6
  unfold entV at HC ⊢
  unfold entV tabV at HKw H6
  go_enter Try.func19, Try.ntmps19
  go_wp2_with (refine wpList_store_row rfl 68 (.tmp 5) (.tmp 16) rfl (w.heap.size + 1) (tabV b) rfl rfl _ _ (Blk.new2 w _ _ _) (by kernel_rfl) rfl (by simp [tabV, Value.oneCell']) ?_; rw [setRow_new2]; unfold tabV)
  refine wp_region_held_drew (S := fun w' => w'.cell? ⟨w.heap.size, 0, none⟩ = some (.int .i8 3) ∧ w'.cell? ⟨w.heap.size, 1, none⟩ = some (.int .u64 W) ∧ w'.cell? ⟨w.heap.size, 2, none⟩ = some (.int .u64 X) ∧ w'.cell? ⟨w.heap.size, 3, none⟩ = some (.int .i64 fr) ∧ w'.cell? ⟨w.heap.size, 4, none⟩ = some (.int .i64 fm) ∧ w'.cell? ⟨w.heap.size + 1, 3, none⟩ = some (.func (.func 30) #[.pointer (some ⟨b, 0, none⟩)] #[])) (by kernel_rfl) H6.out (fun hHeld => ?_)
  clear H6
  generalize World.drew _ = w0 at hHeld HKw ⊢
  refine wpAnyH_take (i := 0) (oi := ?p0z1) (v := ?v0z1) ?o0z1 (by kernel_rfl) (by kernel_rfl) (by kernel_rfl) ?q0z1 ?y0z1 (by assumption) ?r0z1
  case o0z1 => (simp only [List.getElem?_toArray, List.getElem?_cons_zero]; rfl)
  case q0z1 => (exact fun _ _ _ h => h)
  case y0z1 => (refine Or.inl ⟨by rfl, ?_⟩; intro w hSw; (try dsimp only at hSw); go_simp; (try with_reducible rfl))
  simp only [Act.put, List.setIfInBounds_toArray, List.set_cons_zero, List.set_cons_succ]
  refine wpAnyH_take (i := 1) (oi := ?p1z2) (v := ?v1z2) ?o1z2 (by kernel_rfl) (by kernel_rfl) (by kernel_rfl) ?q1z2 ?y1z2 (by assumption) ?r1z2
  case o1z2 => (simp only [List.getElem?_toArray, List.getElem?_cons_succ, List.getElem?_cons_zero]; rfl)
  case q1z2 => (exact fun _ _ _ h => h)
  case y1z2 => (refine Or.inl ⟨by rfl, ?_⟩; intro w hSw; (try dsimp only at hSw); go_simp; (try with_reducible rfl))
  simp only [Act.put, List.setIfInBounds_toArray, List.set_cons_zero, List.set_cons_succ]
  refine wpAnyH_take (i := 2) (oi := ?p2z3) (v := ?v2z3) ?o2z3 (by kernel_rfl) (by kernel_rfl) (by kernel_rfl) ?q2z3 ?y2z3 (by assumption) ?r2z3
  case o2z3 => (simp only [List.getElem?_toArray, List.getElem?_cons_succ, List.getElem?_cons_zero]; rfl)
  case q2z3 => (exact fun _ _ _ h => h)
  case y2z3 => (refine Or.inl ⟨by rfl, ?_⟩; intro w hSw; (try dsimp only at hSw); go_simp; (try with_reducible rfl))
  simp only [Act.put, List.setIfInBounds_toArray, List.set_cons_zero, List.set_cons_succ]
  refine wpAnyH_take (i := 3) (oi := ?p3z4) (v := ?v3z4) ?o3z4 (by kernel_rfl) (by kernel_rfl) (by kernel_rfl) ?q3z4 ?y3z4 (by assumption) ?r3z4
  case o3z4 => (simp only [List.getElem?_toArray, List.getElem?_cons_succ, List.getElem?_cons_zero]; rfl)
  case q3z4 => (exact fun _ _ _ h => h)
  case y3z4 => (refine Or.inl ⟨by rfl, ?_⟩; intro w hSw; (try dsimp only at hSw); go_simp; (try with_reducible rfl))
  simp only [Act.put, List.setIfInBounds_toArray, List.set_cons_zero, List.set_cons_succ]
  refine wpAnyH_take (i := 4) (oi := ?p4z5) (v := ?v4z5) ?o4z5 (by kernel_rfl) (by kernel_rfl) (by kernel_rfl) ?q4z5 ?y4z5 (by assumption) ?r4z5
  case o4z5 => (simp only [List.getElem?_toArray, List.getElem?_cons_succ, List.getElem?_cons_zero]; rfl)
  case q4z5 => (exact fun _ _ _ h => h)
  case y4z5 => (refine Or.inl ⟨by rfl, ?_⟩; intro w hSw; (try dsimp only at hSw); go_simp; (try with_reducible rfl))
  simp only [Act.put, List.setIfInBounds_toArray, List.set_cons_zero, List.set_cons_succ]
  refine wpAnyH_ready (rs := [5]) (by kernel_rfl) (by simp) ?_
  refine (AllReadyH.cons (o := ?pz6) ?oz6 (fun K hK => ?wz6) AllReadyH.nil)
  case oz6 => (simp only [List.getElem?_toArray, List.getElem?_cons_succ, List.getElem?_cons_zero]; rfl)
  case wz6 =>
    rw [if_pos (by rfl)]
    go_simp
    refine (HC.out _ HKw.out).mono ?_; rintro e w4 ⟨rfl, S', r', g', o'⟩
    (try go_wp2_with fail)
    refine hK.out _ _ (Six.off hHeld o' HS.out.1 HS.out.2) (fun hz7 => ?_)
    clear hK K
    have R := Lib.hid r'; have G := Lib.hid g'; have O := Lib.hid o'; clear r' g' o'
    refine wpAnyH_take (i := 6) (oi := ?p6z8) (v := ?v6z8) ?o6z8 (by kernel_rfl) (by kernel_rfl) (by kernel_rfl) ?q6z8 ?y6z8 (by assumption) ?r6z8
    case o6z8 => (simp only [List.getElem?_toArray, List.getElem?_cons_succ, List.getElem?_cons_zero]; rfl)
    case q6z8 => (exact fun _ _ _ h => h)
    case y6z8 => (refine Or.inl ⟨by rfl, ?_⟩; intro w hSw; (try dsimp only at hSw); go_simp; (try with_reducible rfl))
    simp only [Act.put, List.setIfInBounds_toArray, List.set_cons_zero, List.set_cons_succ]
    refine wpAnyH_done (by kernel_rfl) ?_ _
    (try go_wp2_with fail)
    go_ret
    exact ⟨rfl, S', R.out, fun k hk => (G.out k hk).imp id (fun z => Nat.le_trans HKw.out.size z), (Off.of_kp HKw.out).trans O.out (Grew.refl _ _)⟩
theorem preach_bad (k W X fr fm : Int) (b : Nat) (w : World) (hk : k < 0 ∨ 4 ≤ k) (hi : -128 ≤ k ∧ k < 128) :
    Calls Try.prog 19 #[.pointer (some ⟨b, 0, none⟩), .agg (entV k W X fr fm)] w fun e w' => e = .returned (.int .i64 2) ∧ Kp w w' := by
  have hmf : ∀ (fn : Fn) (first cap : Array Value) (w : World), (Instr.makeFunc fn first cap).run Try.prog w = .ok (.func fn first cap) w := fun _ _ _ _ => rfl
  have e1 : wrap64 k = k := by unfold wrap64; omega
  have HKw : Hid (Kp w ((w.alloc (.cells (entV k W X fr fm) 35)).alloc (.cells (tabV b) 68))) := Lib.hid (((Kp.refl w).alloc _ _).alloc _ _)
  unfold entV tabV at HKw
  unfold entV
  by_cases c : k < 0
  · have d1 : decide (k < 0) = true := decide_eq_true c
    go_enter Try.func19, Try.ntmps19
    go_wp2_with (refine wpList_store_row rfl 68 (.tmp 5) (.tmp 16) rfl (w.heap.size + 1) (tabV b) rfl rfl _ _ (Blk.new2 w _ _ _) (by kernel_rfl) rfl (by simp [tabV, Value.oneCell']) ?_; rw [setRow_new2]; unfold tabV)
    go_ret
    exact ⟨rfl, HKw.out⟩
  · have d1 : decide (k < 0) = false := decide_eq_false c
    have d2 : decide (4 ≤ k) = true := decide_eq_true (by omega)
    clear hk
    go_enter Try.func19, Try.ntmps19
    go_wp2_with (refine wpList_store_row rfl 68 (.tmp 5) (.tmp 16) rfl (w.heap.size + 1) (tabV b) rfl rfl _ _ (Blk.new2 w _ _ _) (by kernel_rfl) rfl (by simp [tabV, Value.oneCell']) ?_; rw [setRow_new2]; unfold tabV)
    go_ret
    exact ⟨rfl, HKw.out⟩
theorem of_kp {w w' : World} {S : Nat → Prop} {b n : Nat} {V : Nat → Nat → Nat} (h : PMem w S b n V) (g : Kp w w') : ∃ S', PMem w' S' b n V ∧ Grew w S S' ∧ Off S w w' := ⟨S, h.kp g, Grew.refl _ _, Off.of_kp g⟩
theorem preach_any (k : Int) (W X : Nat) (fr fm : Int) (w : World) (S : Nat → Prop) (b n : Nat) (V : Nat → Nat → Nat) (h : PMem w S b n V) (hW : W < 18446744073709551616) (hX : X < 18446744073709551616) (hi : -128 ≤ k ∧ k < 128) :
    Calls Try.prog 19 #[.pointer (some ⟨b, 0, none⟩), .agg (entV k W X fr fm)] w fun e w' => e = .returned (.int .i64 (rE n k W fr fm)) ∧ ∃ S', PMem w' S' b n (rV n V k W X fr fm) ∧ Grew w S S' ∧ Off S w w' := by
  unfold rE rV
  by_cases c0 : k = 0
  · subst c0
    rw [if_pos rfl, if_pos rfl]
    exact preach_0 _ _ _ _ _ w S b n _ (fun _ => h.lt) (fun w1 g => pword_any 0 W X fr fm w1 S b n V (h.kp g) hW hX)
  rw [if_neg c0, if_neg c0]
  by_cases c1 : k = 1
  · subst c1
    rw [if_pos rfl, if_pos rfl]
    exact preach_1 _ _ _ _ _ w S b n _ (fun _ => h.lt) (fun w1 g => (pbar_any 1 W X fr fm b w1).mono fun _ _ q => ⟨q.1, of_kp (h.kp g) q.2⟩)
  rw [if_neg c1, if_neg c1]
  by_cases c2 : k = 2
  · subst c2
    rw [if_pos rfl, if_pos rfl]
    by_cases d : okF n fm = true
    · rw [if_pos d, if_pos d]
      obtain ⟨f, rfl, hf, e⟩ := okF_nat d
      rw [e]
      exact preach_2 _ _ _ _ _ w S b n _ (fun _ => h.lt) (fun w1 g => pzero_any 2 W X fr f w1 S b n V (h.kp g) hf)
    · rw [if_neg d, if_neg d]
      exact preach_2 _ _ _ _ _ w S b n _ (fun _ => h.lt) (fun w1 g => (pzero_no 2 W X fr fm w1 S b n V (h.kp g) (by simpa using d)).mono fun _ _ q => ⟨q.1, of_kp (h.kp g) q.2⟩)
  rw [if_neg c2, if_neg c2]
  by_cases c3 : k = 3
  · subst c3
    rw [if_pos rfl, if_pos rfl]
    by_cases d : okF n fm = true ∧ okF n fr = true
    · rw [if_pos d, if_pos d]
      obtain ⟨f, rfl, hf, e⟩ := okF_nat d.1
      obtain ⟨r, rfl, hr, e'⟩ := okF_nat d.2
      rw [e, e']
      exact preach_3 _ _ _ _ _ w S b n _ (fun _ => h.lt) (fun w1 g => ptake_any 3 W X r f w1 S b n V (h.kp g) hf hr)
    · rw [if_neg d, if_neg d]
      refine preach_3 _ _ _ _ _ w S b n _ (fun _ => h.lt) (fun w1 g => (ptake_no 3 W X fr fm w1 S b n V (h.kp g) ?_).mono fun _ _ q => ⟨q.1, of_kp (h.kp g) q.2⟩)
      by_cases a : okF n fm = true
      · exact .inr (by simpa using fun q => d ⟨a, q⟩)
      · exact .inl (by simpa using a)
  rw [if_neg c3, if_neg c3]
  exact (preach_bad k W X fr fm b w (by omega) hi).mono fun _ _ q => ⟨q.1, of_kp h q.2⟩
end Go.Proofs.Ytnjdglejcfdonaa
