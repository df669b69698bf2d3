/-
  A buffer's Take and Forward, as the document writes them (tenement/tenementref09). No condition.
-/
import Derived.Test.YtgjjbgijdgihcaaDoorRRow09
import Derived.Deep.WholeRow
namespace Go.Proofs.YtgjjbgijdgihcaaDoor
open Go Go.RowKit

theorem results_tct {P : Program} {fn : Func} {s p u : Tmp} {ty : TypeId} (h : fn.results = #[.tmp s, .cell p ty, .tmp u]) (tmps : Array Value) (w : World) (g : Nat) (t : TypeId) (cs : Array Value) (fr : Nat × Nat) (d : TypeDesc)
    (hp : tmps.getD p undef = .pointer (some ⟨g, 0, none⟩)) (hg : w.heap[g]? = some (.cells cs t fr))
    (hu : P.underlying ty = some d) (hd : (match d with | .struct _ | .array _ _ => true | _ => false) = true) (hi : (P.info? ty).map (·.size) = some cs.size) :
    (results fn tmps).run P w = .ok (.tuple #[tmps.getD s undef, .agg cs, tmps.getD u undef]) w := by
  have hp' : tmps[p]?.getD undef = .pointer (some ⟨g, 0, none⟩) := by simpa using hp
  simp [results, h, hp', asAddr, run_loadVar_row w g t ty cs fr d hg hu hd hi]
theorem Blk.setRow {w : World} {b : Nat} {cs : Array Value} {t : TypeId} (h : Blk w b cs t) (cs' : Array Value) : Blk (w.setRow b cs') b cs' t := setRow_heap w b cs cs' t (0, 0) h
theorem Kp.setRow {w w' : World} {g : Nat} (h : Kp w w') (hg : w.heap.size ≤ g) (cs : Array Value) : Kp w (w'.setRow g cs) := by
  refine Below.trans h ⟨rfl, rfl, rfl, by simp, fun k hk => setRow_other w' g k cs (by omega)⟩
theorem OwnsE.other {w : World} {B b : Nat} {v : Value} {L : List Ent} (h : OwnsE w B v L) (hb : b < B) (cs : Array Value) : OwnsE (w.setRow b cs) B v L := by
  refine ⟨h.1, ?_⟩
  rcases h.2 with hn | ⟨g', cap, cur, e, hB, hg, r⟩
  · exact .inl hn
  · exact .inr ⟨g', cap, cur, e, hB, (setRow_other w b g' cs (by omega)).trans hg, r⟩
theorem five_kp {w w' : World} {b o : Nat} {e : Ent} (h : w.cell? ⟨b, o, none⟩ = some (.int .i8 e.k) ∧ w.cell? ⟨b, o + 1, none⟩ = some (.int .u64 e.w) ∧ w.cell? ⟨b, o + 2, none⟩ = some (.int .u64 e.x) ∧ w.cell? ⟨b, o + 3, none⟩ = some (.int .i64 e.fr) ∧ w.cell? ⟨b, o + 4, none⟩ = some (.int .i64 e.fm)) (g : Kp w w') : w'.cell? ⟨b, o, none⟩ = some (.int .i8 e.k) ∧ w'.cell? ⟨b, o + 1, none⟩ = some (.int .u64 e.w) ∧ w'.cell? ⟨b, o + 2, none⟩ = some (.int .u64 e.x) ∧ w'.cell? ⟨b, o + 3, none⟩ = some (.int .i64 e.fr) ∧ w'.cell? ⟨b, o + 4, none⟩ = some (.int .i64 e.fm) := by
  obtain ⟨b0, b1, b2, b3, b4⟩ := h
  have f := fun (o : Nat) (v : Value) (q : w.cell? ⟨b, o, none⟩ = some v) => (g.cell (lt_of_cell' q)).trans q
  exact ⟨f _ _ b0, f _ _ b1, f _ _ b2, f _ _ b3, f _ _ b4⟩
theorem EntsAt.kp {w w' : World} {b off : Nat} {L : List Ent} (h : EntsAt w b off L) (hb : b < w.heap.size) (g : Kp w w') : EntsAt w' b off L := fun k e hk j v hv => (g.cell hb).trans (h k e hk j v hv)
theorem five_set {w : World} {b o g : Nat} {e : Ent} (h : w.cell? ⟨b, o, none⟩ = some (.int .i8 e.k) ∧ w.cell? ⟨b, o + 1, none⟩ = some (.int .u64 e.w) ∧ w.cell? ⟨b, o + 2, none⟩ = some (.int .u64 e.x) ∧ w.cell? ⟨b, o + 3, none⟩ = some (.int .i64 e.fr) ∧ w.cell? ⟨b, o + 4, none⟩ = some (.int .i64 e.fm)) (hg : b < g) (cs : Array Value) : (w.setRow g cs).cell? ⟨b, o, none⟩ = some (.int .i8 e.k) ∧ (w.setRow g cs).cell? ⟨b, o + 1, none⟩ = some (.int .u64 e.w) ∧ (w.setRow g cs).cell? ⟨b, o + 2, none⟩ = some (.int .u64 e.x) ∧ (w.setRow g cs).cell? ⟨b, o + 3, none⟩ = some (.int .i64 e.fr) ∧ (w.setRow g cs).cell? ⟨b, o + 4, none⟩ = some (.int .i64 e.fm) := by
  obtain ⟨b0, b1, b2, b3, b4⟩ := h
  have f := fun (o : Nat) => World.cell?_of_block (a := ⟨b, o, none⟩) (setRow_other w g b cs (by omega))
  exact ⟨(f _).trans b0, (f _).trans b1, (f _).trans b2, (f _).trans b3, (f _).trans b4⟩
set_option maxHeartbeats 4000000 in
theorem rtake_any (a0 : Option Addr) (cap N : Nat) (L : List Ent) (k : Int) (w : World) (hN : N = L.length) (h : RowE w a0 cap L) (hw : ∀ e ∈ L, e.wf) :
    Calls Tryd.prog 11 #[.slice a0 N cap, .int .i64 k] w fun r w' => ∃ v, r = .returned (.tuple #[v, .agg (Ent.arr (takeB L k).2.1), .int .i64 (takeB L k).2.2]) ∧ OwnsE w' w.heap.size v (takeB L k).1 ∧ Kp w w' := by
  have HK0 := Lib.hid ((Kp.refl w).alloc (Ent.arr zeroE) 26)
  have HZ0 := Lib.hid (Blk.new w (Ent.arr zeroE) 26)
  have HC := Lib.hid (rcheck_any a0 cap N L _ hN (h.kp HK0.out))
  have HMy := Lib.hid (fun w1 (g : Kp w w1) => rmayat_any a0 cap N L k w1 hN (h.kp g) hw)
  have HE := Lib.hid hN
  have H := Lib.hid h
  clear hN h hw
  cases hok : okB L with
  | false =>
    have e2 : takeB L k = ([], zeroE, 2) := by unfold takeB; rw [hok]; rfl
    rw [e2]
    rw [hok, if_neg (by decide)] at HC
    unfold Ent.arr zeroE at HC HK0 HZ0
    go_enter Tryd.func11, Tryd.ntmps11
    go_wp2_with (first
      | (go_at_call 16; refine HC.out.mono ?_; rintro r w1 ⟨rfl, hg⟩; have K1 := Lib.hid hg; clear hg)
      | (refine wpList_store_row rfl 26 (.tmp 5) (.tmp 11) rfl w.heap.size (Ent.arr zeroE) rfl rfl _ _ (HZ0.out.kp K1.out) (by kernel_rfl) rfl (by simp [Ent.arr, Value.oneCell']) ?_))
    refine bodyPost_ret (results_tct rfl _ _ _ _ _ _ _ rfl ((HZ0.out.kp K1.out).setRow (Ent.arr zeroE)) Tryd.underlying26 rfl (by kernel_rfl)) rfl ?_
    exact ⟨_, rfl, OwnsE.nil _ _, (HK0.out.trans K1.out).setRow (Nat.le_refl _) _⟩
  | true =>
  rw [hok, if_pos rfl] at HC
  by_cases hk : ¬ (0 ≤ k ∧ k < L.length)
  · have e2 : takeB L k = ([], zeroE, 4) := by unfold takeB; rw [hok, if_pos rfl, if_neg hk]
    rw [e2]
    unfold Ent.arr zeroE at HC HK0 HZ0
    by_cases hk0 : k < 0
    · have f1 : decide (k < 0) = true := decide_eq_true hk0
      clear hk hk0
      go_enter Tryd.func11, Tryd.ntmps11
      go_wp2_with (first
        | (go_at_call 16; refine HC.out.mono ?_; rintro r w1 ⟨rfl, hg⟩; have K1 := Lib.hid hg; clear hg)
        | (refine wpList_store_row rfl 26 (.tmp 5) (.tmp 20) rfl w.heap.size (Ent.arr zeroE) rfl rfl _ _ (HZ0.out.kp K1.out) (by kernel_rfl) rfl (by simp [Ent.arr, Value.oneCell']) ?_))
      refine bodyPost_ret (results_tct rfl _ _ _ _ _ _ _ rfl ((HZ0.out.kp K1.out).setRow (Ent.arr zeroE)) Tryd.underlying26 rfl (by kernel_rfl)) rfl ?_
      exact ⟨_, rfl, OwnsE.nil _ _, (HK0.out.trans K1.out).setRow (Nat.le_refl _) _⟩
    · have f1 : decide (k < 0) = false := decide_eq_false hk0
      have f2 : decide ((N : Int) ≤ k) = true := decide_eq_true (by have := HE.out; omega)
      clear hk hk0
      go_enter Tryd.func11, Tryd.ntmps11
      go_wp2_with (first
        | (go_at_call 16; refine HC.out.mono ?_; rintro r w1 ⟨rfl, hg⟩; have K1 := Lib.hid hg; clear hg)
        | (refine wpList_store_row rfl 26 (.tmp 5) (.tmp 20) rfl w.heap.size (Ent.arr zeroE) rfl rfl _ _ (HZ0.out.kp K1.out) (by kernel_rfl) rfl (by simp [Ent.arr, Value.oneCell']) ?_))
      refine bodyPost_ret (results_tct rfl _ _ _ _ _ _ _ rfl ((HZ0.out.kp K1.out).setRow (Ent.arr zeroE)) Tryd.underlying26 rfl (by kernel_rfl)) rfl ?_
      exact ⟨_, rfl, OwnsE.nil _ _, (HK0.out.trans K1.out).setRow (Nat.le_refl _) _⟩
  have hk' : 0 ≤ k ∧ k < L.length := Decidable.not_not.1 hk
  clear hk
  obtain ⟨n, rfl⟩ : ∃ n : Nat, k = n := ⟨k.toNat, by omega⟩
  have hnN : n < N := by have := HE.out; omega
  have f1 : decide ((n : Int) < 0) = false := decide_eq_false (by omega)
  have f2 : decide ((N : Int) ≤ (n : Int)) = false := decide_eq_false (by omega)
  have f3 : decide (N ≤ n) = false := decide_eq_false (by omega)
  cases hm : mayAt L n with
  | false =>
    have e2 : takeB L n = ([], zeroE, 21) := by unfold takeB; rw [hok, if_pos rfl, if_pos hk', hm]; rfl
    rw [e2]
    rw [hm] at HMy
    clear hk' hnN
    unfold Ent.arr zeroE at HC HK0 HZ0
    go_enter Tryd.func11, Tryd.ntmps11
    go_wp2_with (first
      | (go_at_call 16; refine HC.out.mono ?_; rintro r w1 ⟨rfl, hg⟩; have K1 := Lib.hid hg; clear hg)
      | (go_at_call 18; refine (HMy.out _ (HK0.out.trans K1.out)).mono ?_; rintro r w2 ⟨rfl, hg⟩; have K2 := Lib.hid hg; clear hg)
      | (refine wpList_store_row rfl 26 (.tmp 5) (.tmp 25) rfl w.heap.size (Ent.arr zeroE) rfl rfl _ _ ((HZ0.out.kp K1.out).kp K2.out) (by kernel_rfl) rfl (by simp [Ent.arr, Value.oneCell']) ?_))
    refine bodyPost_ret (results_tct rfl _ _ _ _ _ _ _ rfl (((HZ0.out.kp K1.out).kp K2.out).setRow (Ent.arr zeroE)) Tryd.underlying26 rfl (by kernel_rfl)) rfl ?_
    exact ⟨_, rfl, OwnsE.nil _ _, ((HK0.out.trans K1.out).trans K2.out).setRow (Nat.le_refl _) _⟩
  | true =>
    rw [hm] at HMy
    have hx : L[n]? = some (L[n]'(by have := HE.out; omega)) := List.getElem?_eq_getElem _
    generalize L[n]'(by have := HE.out; omega) = e at hx
    have e2 : takeB L n = (firstL (L.eraseIdx n), e, 0) := by unfold takeB; rw [hok, if_pos rfl, if_pos hk', hm, if_pos rfl, Int.toNat_natCast, List.getD_eq_getElem?_getD, hx]; rfl
    rw [e2]
    have h8 := (okB_parts hok).1
    obtain ⟨b, off, h1, h2, h3⟩ := H.out
    have hne : L ≠ [] := fun q => by rw [q] at hx; simp at hx
    obtain ⟨rfl, hlt⟩ := h1 hne
    have hcap : (N : Int) ≤ (cap : Int) := by have := HE.out; omega
    have n0 : (0 : Int) ≤ (n : Int) := by omega
    have n1 : (n : Int) < (N : Int) := by omega
    have hN8 : (N : Int) ≤ 8 := by have := HE.out; omega
    have HR := Lib.hid h2
    have HB := Lib.hid hlt
    have H8 := Lib.hid h8
    clear h1 h2 h3 hne hlt h8 hk' hnN hok hm
    unfold Ent.arr zeroE at HC HK0 HZ0
    by_cases hce : cap = n + 1
    · have HD : Hid (L.drop (n + 1) = []) := Lib.hid (by apply List.drop_eq_nil_of_le; have := HE.out; omega)
      subst hce
      go_enter Tryd.func11, Tryd.ntmps11
      go_wp2_with (first
        | (go_at_call 16; refine HC.out.mono ?_; rintro r w1 ⟨rfl, hg⟩; have K1 := Lib.hid hg; clear hg)
        | (go_at_call 18; refine (HMy.out _ (HK0.out.trans K1.out)).mono ?_; rintro r w2 ⟨rfl, hg⟩; have K2 := Lib.hid hg; have KK := Lib.hid ((HK0.out.trans K1.out).trans K2.out); have HS2 : Hid (w.heap.size + 1 ≤ w2.heap.size) := Lib.hid (by have := (K1.out.trans K2.out).size; simp at this; omega); clear hg)
        | (at_builtin; refine wpList_append_row rfl (.tmp 31) (.tmp 35) rfl (w.heap.size + 1) _ (L.take n) (L.drop (n + 1)) rfl HO3.out _ _ _ (by rw [List.length_drop]; have := HE.out; omega) rfl (fun hM => absurd HD.out hM) (by rw [List.length_take, List.length_drop]; have := H8.out; omega) HS3.out ?_; intro v4 w4 hown4 hg4; have HA := Lib.hid (show OwnsE w4 (w.heap.size + 1) v4 (L.eraseIdx n) by rw [List.eraseIdx_eq_take_drop_succ]; exact hown4); have K4 := Lib.hid (Kp.grown K3.out hg4 (fun k e => by have := (World.ownsRow.lt HO3.out k e).1; omega)); have HZ4 := Lib.hid (Blk.grownOf HZ3.out hg4 (fun q => by have := (World.ownsRow.lt HO3.out _ q).1; omega)); clear hown4 hg4; obtain ⟨a4, c4, rfl, h4⟩ := HA.out.row; have H4 := Lib.hid h4; clear h4)
        | (at_builtin; refine wpList_append_row rfl (.tmp 26) (.tmp 29) rfl (w.heap.size + 1) _ [] (L.take n) rfl (OwnsE.nil _ _) _ _ _ (by rw [List.length_take]; have := HE.out; omega) rfl (fun _ => ⟨b, off, rfl, (HR.out.kp HB.out KK.out).take n⟩) (by rw [List.length_take]; have := H8.out; simp; omega) HS2.out ?_; intro v3 w3 hown3 hg3; have HS3 : Hid (w.heap.size + 1 ≤ w3.heap.size) := Lib.hid (Nat.le_trans HS2.out hg3.size); have HO3 := Lib.hid (show OwnsE w3 (w.heap.size + 1) v3 (L.take n) from hown3); have K3 := Lib.hid (Kp.grown KK.out hg3 (fun k e => by cases e)); have HZ3 := Lib.hid (Blk.grownOf ((HZ0.out.kp K1.out).kp K2.out) hg3 (fun q => by cases q)); clear hown3 hg3))
      have HS5 : Hid (w4.drew.cell? ⟨b, off + n * 5, none⟩ = some (.int .i8 e.k) ∧ w4.drew.cell? ⟨b, off + n * 5 + 1, none⟩ = some (.int .u64 e.w) ∧ w4.drew.cell? ⟨b, off + n * 5 + 2, none⟩ = some (.int .u64 e.x) ∧ w4.drew.cell? ⟨b, off + n * 5 + 3, none⟩ = some (.int .i64 e.fr) ∧ w4.drew.cell? ⟨b, off + n * 5 + 4, none⟩ = some (.int .i64 e.fm)) := Lib.hid (by
        have k := K4.out.drew
        have c := fun (j : Nat) v (q : e.cells[j]? = some v) => (k.cell (HB.out)).trans (HR.out n e hx j v q)
        exact ⟨c 0 _ rfl, c 1 _ rfl, c 2 _ rfl, c 3 _ rfl, c 4 _ rfl⟩)
      have HF := Lib.hid (fun w5 (g : Kp w4 w5) => rfirst_any a4 c4 _ (L.eraseIdx n) w5 rfl (H4.out.kp g) (by have := List.length_eraseIdx_le L n; have := H8.out; omega))
      have HKd := Lib.hid K4.out.drew
      have HZd := Lib.hid HZ4.out.drew
      clear hx
      go_wp2_with fail
      refine wp_region_held_drew (S := fun w' => w'.cell? ⟨b, off + n * 5, none⟩ = some (.int .i8 e.k) ∧ w'.cell? ⟨b, off + n * 5 + 1, none⟩ = some (.int .u64 e.w) ∧ w'.cell? ⟨b, off + n * 5 + 2, none⟩ = some (.int .u64 e.x) ∧ w'.cell? ⟨b, off + n * 5 + 3, none⟩ = some (.int .i64 e.fr) ∧ w'.cell? ⟨b, off + n * 5 + 4, none⟩ = some (.int .i64 e.fm)) (by kernel_rfl) HS5.out (fun hHeld => ?_)
      clear HS5
      have HK4d := Lib.hid ((Kp.refl w4).drew)
      generalize World.drew _ = wz at hHeld HKd HZd HK4d ⊢
      refine wpAnyH_take (i := 0) (oi := ?p0z1001) (v := ?v0z1001) ?o0z1001 (by kernel_rfl) (by kernel_rfl) (by kernel_rfl) ?q0z1001 ?y0z1001 (by assumption) ?r0z1001
      case o0z1001 => (simp only [List.getElem?_toArray, List.getElem?_cons_zero]; rfl)
      case q0z1001 => (exact fun _ _ _ h => h)
      case y0z1001 => (refine Or.inl ⟨by rfl, ?_⟩; intro w hSw; (try dsimp only at hSw); go_simp; (try with_reducible rfl))
      simp only [Act.put, List.setIfInBounds_toArray, List.set_cons_zero, List.set_cons_succ]
      refine wpAnyH_take (i := 2) (oi := ?p2z1002) (v := ?v2z1002) ?o2z1002 (by kernel_rfl) (by kernel_rfl) (by kernel_rfl) ?q2z1002 ?y2z1002 (by assumption) ?r2z1002
      case o2z1002 => (simp only [List.getElem?_toArray, List.getElem?_cons_succ, List.getElem?_cons_zero]; rfl)
      case q2z1002 => (exact fun _ _ _ h => h)
      case y2z1002 => (refine Or.inl ⟨by rfl, ?_⟩; intro w hSw; (try dsimp only at hSw); go_simp; (try with_reducible rfl))
      simp only [Act.put, List.setIfInBounds_toArray, List.set_cons_zero, List.set_cons_succ]
      refine wpAnyH_take (i := 3) (oi := ?p3z1003) (v := ?v3z1003) ?o3z1003 (by kernel_rfl) (by kernel_rfl) (by kernel_rfl) ?q3z1003 ?y3z1003 (by assumption) ?r3z1003
      case o3z1003 => (simp only [List.getElem?_toArray, List.getElem?_cons_succ, List.getElem?_cons_zero]; rfl)
      case q3z1003 => (exact fun _ _ _ h => h)
      case y3z1003 => (refine Or.inl ⟨by rfl, ?_⟩; intro w hSw; (try dsimp only at hSw); go_simp; (try with_reducible rfl))
      simp only [Act.put, List.setIfInBounds_toArray, List.set_cons_zero, List.set_cons_succ]
      refine wpAnyH_take (i := 4) (oi := ?p4z1004) (v := ?v4z1004) ?o4z1004 (by kernel_rfl) (by kernel_rfl) (by kernel_rfl) ?q4z1004 ?y4z1004 (by assumption) ?r4z1004
      case o4z1004 => (simp only [List.getElem?_toArray, List.getElem?_cons_succ, List.getElem?_cons_zero]; rfl)
      case q4z1004 => (exact fun _ _ _ h => h)
      case y4z1004 => (refine Or.inl ⟨by rfl, ?_⟩; intro w hSw; (try dsimp only at hSw); go_simp; (try with_reducible rfl))
      simp only [Act.put, List.setIfInBounds_toArray, List.set_cons_zero, List.set_cons_succ]
      refine wpAnyH_take (i := 5) (oi := ?p5z1005) (v := ?v5z1005) ?o5z1005 (by kernel_rfl) (by kernel_rfl) (by kernel_rfl) ?q5z1005 ?y5z1005 (by assumption) ?r5z1005
      case o5z1005 => (simp only [List.getElem?_toArray, List.getElem?_cons_succ, List.getElem?_cons_zero]; rfl)
      case q5z1005 => (exact fun _ _ _ h => h)
      case y5z1005 => (refine Or.inl ⟨by rfl, ?_⟩; intro w hSw; (try dsimp only at hSw); go_simp; (try with_reducible rfl))
      simp only [Act.put, List.setIfInBounds_toArray, List.set_cons_zero, List.set_cons_succ]
      refine wpAnyH_ready (rs := [1]) (by kernel_rfl) (by simp) ?_
      refine (AllReadyH.cons (o := ?pz1006) ?oz1006 (fun K hK => ?wz1006) AllReadyH.nil)
      case oz1006 => (simp only [List.getElem?_toArray, List.getElem?_cons_succ, List.getElem?_cons_zero]; rfl)
      case wz1006 =>
        rw [if_pos (by rfl)]
        go_simp
        refine (HF.out _ HK4d.out).mono ?_; rintro r w5 ⟨v5, rfl, ho5, hg5⟩
        (try go_wp2_with fail)
        have HO5 := Lib.hid ho5
        have K5 := Lib.hid (HKd.out.trans hg5)
        have HZ5 := Lib.hid (HZd.out.kp hg5)
        refine hK.out _ _ (five_kp hHeld hg5) (fun hz1007 => ?_)
        have HB5 : Hid (w.heap.size < wz.heap.size) := Lib.hid HZd.out.lt
        clear hK K hg5 ho5
        refine wpAnyH_take (i := 6) (oi := ?p6z1008) (v := ?v6z1008) ?o6z1008 (by kernel_rfl) (by kernel_rfl) (by kernel_rfl) ?q6z1008 ?y6z1008 (by assumption) ?r6z1008
        case o6z1008 => (simp only [List.getElem?_toArray, List.getElem?_cons_succ, List.getElem?_cons_zero]; rfl)
        case q6z1008 => (exact fun _ _ _ h => h)
        case y6z1008 => (refine Or.inl ⟨by rfl, ?_⟩; intro w hSw; (try dsimp only at hSw); go_simp; (try with_reducible rfl))
        simp only [Act.put, List.setIfInBounds_toArray, List.set_cons_zero, List.set_cons_succ]
        refine wpAnyH_ready (rs := [7]) (by kernel_rfl) (by simp) ?_
        refine (AllReadyH.cons (o := ?pz1009) ?oz1009 (fun K hK => ?wz1009) AllReadyH.nil)
        case oz1009 => (simp only [List.getElem?_toArray, List.getElem?_cons_succ, List.getElem?_cons_zero]; rfl)
        case wz1009 =>
          rw [if_pos (by rfl)]
          refine wp_store_row 26 (.tmp 5) (.tmp 42) rfl w.heap.size (Ent.arr e) rfl rfl _ _ HZ5.out (by kernel_rfl) rfl (by simp [Ent.arr, Value.oneCell']) ?_
          refine hK.out _ _ (five_set hz1007 (by exact HB.out) (Ent.arr e)) (fun hz1010 => ?_)
          clear hK K
          refine wpAnyH_take (i := 8) (oi := ?p8z1011) (v := ?v8z1011) ?o8z1011 (by kernel_rfl) (by kernel_rfl) (by kernel_rfl) ?q8z1011 ?y8z1011 (by assumption) ?r8z1011
          case o8z1011 => (simp only [List.getElem?_toArray, List.getElem?_cons_succ, List.getElem?_cons_zero]; rfl)
          case q8z1011 => (exact fun _ _ _ h => h)
          case y8z1011 => (refine Or.inl ⟨by rfl, ?_⟩; intro w hSw; (try dsimp only at hSw); go_simp; (try with_reducible rfl))
          simp only [Act.put, List.setIfInBounds_toArray, List.set_cons_zero, List.set_cons_succ]
          refine wpAnyH_done (by kernel_rfl) ?_ _
          go_wp2_with fail
          refine bodyPost_ret (results_tct rfl _ _ _ _ _ _ _ rfl (HZ5.out.setRow (Ent.arr e)) Tryd.underlying26 rfl (by kernel_rfl)) rfl ?_
          exact ⟨_, rfl, (HO5.out.other HB5.out _).low (Nat.le_of_lt HB5.out), K5.out.setRow (Nat.le_refl _) _⟩
    · have hgt : (n : Int) + 1 < (cap : Int) := by omega
      have hgt2 : n + 1 < cap := by omega
      go_enter Tryd.func11, Tryd.ntmps11
      go_wp2_with (first
        | (go_at_call 16; refine HC.out.mono ?_; rintro r w1 ⟨rfl, hg⟩; have K1 := Lib.hid hg; clear hg)
        | (go_at_call 18; refine (HMy.out _ (HK0.out.trans K1.out)).mono ?_; rintro r w2 ⟨rfl, hg⟩; have K2 := Lib.hid hg; have KK := Lib.hid ((HK0.out.trans K1.out).trans K2.out); have HS2 : Hid (w.heap.size + 1 ≤ w2.heap.size) := Lib.hid (by have := (K1.out.trans K2.out).size; simp at this; omega); clear hg)
        | (at_builtin; refine wpList_append_row rfl (.tmp 31) (.tmp 35) rfl (w.heap.size + 1) _ (L.take n) (L.drop (n + 1)) rfl HO3.out _ _ _ (by rw [List.length_drop]; have := HE.out; omega) rfl ((fun _ => ⟨b, _, rfl, (HR.out.kp HB.out K3.out).drop (n + 1)⟩)) (by rw [List.length_take, List.length_drop]; have := H8.out; omega) HS3.out ?_; intro v4 w4 hown4 hg4; have HA := Lib.hid (show OwnsE w4 (w.heap.size + 1) v4 (L.eraseIdx n) by rw [List.eraseIdx_eq_take_drop_succ]; exact hown4); have K4 := Lib.hid (Kp.grown K3.out hg4 (fun k e => by have := (World.ownsRow.lt HO3.out k e).1; omega)); have HZ4 := Lib.hid (Blk.grownOf HZ3.out hg4 (fun q => by have := (World.ownsRow.lt HO3.out _ q).1; omega)); clear hown4 hg4; obtain ⟨a4, c4, rfl, h4⟩ := HA.out.row; have H4 := Lib.hid h4; clear h4)
        | (at_builtin; refine wpList_append_row rfl (.tmp 26) (.tmp 29) rfl (w.heap.size + 1) _ [] (L.take n) rfl (OwnsE.nil _ _) _ _ _ (by rw [List.length_take]; have := HE.out; omega) rfl (fun _ => ⟨b, off, rfl, (HR.out.kp HB.out KK.out).take n⟩) (by rw [List.length_take]; have := H8.out; simp; omega) HS2.out ?_; intro v3 w3 hown3 hg3; have HS3 : Hid (w.heap.size + 1 ≤ w3.heap.size) := Lib.hid (Nat.le_trans HS2.out hg3.size); have HO3 := Lib.hid (show OwnsE w3 (w.heap.size + 1) v3 (L.take n) from hown3); have K3 := Lib.hid (Kp.grown KK.out hg3 (fun k e => by cases e)); have HZ3 := Lib.hid (Blk.grownOf ((HZ0.out.kp K1.out).kp K2.out) hg3 (fun q => by cases q)); clear hown3 hg3))
      have HS5 : Hid (w4.drew.cell? ⟨b, off + n * 5, none⟩ = some (.int .i8 e.k) ∧ w4.drew.cell? ⟨b, off + n * 5 + 1, none⟩ = some (.int .u64 e.w) ∧ w4.drew.cell? ⟨b, off + n * 5 + 2, none⟩ = some (.int .u64 e.x) ∧ w4.drew.cell? ⟨b, off + n * 5 + 3, none⟩ = some (.int .i64 e.fr) ∧ w4.drew.cell? ⟨b, off + n * 5 + 4, none⟩ = some (.int .i64 e.fm)) := Lib.hid (by
        have k := K4.out.drew
        have c := fun (j : Nat) v (q : e.cells[j]? = some v) => (k.cell (HB.out)).trans (HR.out n e hx j v q)
        exact ⟨c 0 _ rfl, c 1 _ rfl, c 2 _ rfl, c 3 _ rfl, c 4 _ rfl⟩)
      have HF := Lib.hid (fun w5 (g : Kp w4 w5) => rfirst_any a4 c4 _ (L.eraseIdx n) w5 rfl (H4.out.kp g) (by have := List.length_eraseIdx_le L n; have := H8.out; omega))
      have HKd := Lib.hid K4.out.drew
      have HZd := Lib.hid HZ4.out.drew
      clear hx
      go_wp2_with fail
      refine wp_region_held_drew (S := fun w' => w'.cell? ⟨b, off + n * 5, none⟩ = some (.int .i8 e.k) ∧ w'.cell? ⟨b, off + n * 5 + 1, none⟩ = some (.int .u64 e.w) ∧ w'.cell? ⟨b, off + n * 5 + 2, none⟩ = some (.int .u64 e.x) ∧ w'.cell? ⟨b, off + n * 5 + 3, none⟩ = some (.int .i64 e.fr) ∧ w'.cell? ⟨b, off + n * 5 + 4, none⟩ = some (.int .i64 e.fm)) (by kernel_rfl) HS5.out (fun hHeld => ?_)
      clear HS5
      have HK4d := Lib.hid ((Kp.refl w4).drew)
      generalize World.drew _ = wz at hHeld HKd HZd HK4d ⊢
      refine wpAnyH_take (i := 0) (oi := ?p0z2001) (v := ?v0z2001) ?o0z2001 (by kernel_rfl) (by kernel_rfl) (by kernel_rfl) ?q0z2001 ?y0z2001 (by assumption) ?r0z2001
      case o0z2001 => (simp only [List.getElem?_toArray, List.getElem?_cons_zero]; rfl)
      case q0z2001 => (exact fun _ _ _ h => h)
      case y0z2001 => (refine Or.inl ⟨by rfl, ?_⟩; intro w hSw; (try dsimp only at hSw); go_simp; (try with_reducible rfl))
      simp only [Act.put, List.setIfInBounds_toArray, List.set_cons_zero, List.set_cons_succ]
      refine wpAnyH_take (i := 2) (oi := ?p2z2002) (v := ?v2z2002) ?o2z2002 (by kernel_rfl) (by kernel_rfl) (by kernel_rfl) ?q2z2002 ?y2z2002 (by assumption) ?r2z2002
      case o2z2002 => (simp only [List.getElem?_toArray, List.getElem?_cons_succ, List.getElem?_cons_zero]; rfl)
      case q2z2002 => (exact fun _ _ _ h => h)
      case y2z2002 => (refine Or.inl ⟨by rfl, ?_⟩; intro w hSw; (try dsimp only at hSw); go_simp; (try with_reducible rfl))
      simp only [Act.put, List.setIfInBounds_toArray, List.set_cons_zero, List.set_cons_succ]
      refine wpAnyH_take (i := 3) (oi := ?p3z2003) (v := ?v3z2003) ?o3z2003 (by kernel_rfl) (by kernel_rfl) (by kernel_rfl) ?q3z2003 ?y3z2003 (by assumption) ?r3z2003
      case o3z2003 => (simp only [List.getElem?_toArray, List.getElem?_cons_succ, List.getElem?_cons_zero]; rfl)
      case q3z2003 => (exact fun _ _ _ h => h)
      case y3z2003 => (refine Or.inl ⟨by rfl, ?_⟩; intro w hSw; (try dsimp only at hSw); go_simp; (try with_reducible rfl))
      simp only [Act.put, List.setIfInBounds_toArray, List.set_cons_zero, List.set_cons_succ]
      refine wpAnyH_take (i := 4) (oi := ?p4z2004) (v := ?v4z2004) ?o4z2004 (by kernel_rfl) (by kernel_rfl) (by kernel_rfl) ?q4z2004 ?y4z2004 (by assumption) ?r4z2004
      case o4z2004 => (simp only [List.getElem?_toArray, List.getElem?_cons_succ, List.getElem?_cons_zero]; rfl)
      case q4z2004 => (exact fun _ _ _ h => h)
      case y4z2004 => (refine Or.inl ⟨by rfl, ?_⟩; intro w hSw; (try dsimp only at hSw); go_simp; (try with_reducible rfl))
      simp only [Act.put, List.setIfInBounds_toArray, List.set_cons_zero, List.set_cons_succ]
      refine wpAnyH_take (i := 5) (oi := ?p5z2005) (v := ?v5z2005) ?o5z2005 (by kernel_rfl) (by kernel_rfl) (by kernel_rfl) ?q5z2005 ?y5z2005 (by assumption) ?r5z2005
      case o5z2005 => (simp only [List.getElem?_toArray, List.getElem?_cons_succ, List.getElem?_cons_zero]; rfl)
      case q5z2005 => (exact fun _ _ _ h => h)
      case y5z2005 => (refine Or.inl ⟨by rfl, ?_⟩; intro w hSw; (try dsimp only at hSw); go_simp; (try with_reducible rfl))
      simp only [Act.put, List.setIfInBounds_toArray, List.set_cons_zero, List.set_cons_succ]
      refine wpAnyH_ready (rs := [1]) (by kernel_rfl) (by simp) ?_
      refine (AllReadyH.cons (o := ?pz2006) ?oz2006 (fun K hK => ?wz2006) AllReadyH.nil)
      case oz2006 => (simp only [List.getElem?_toArray, List.getElem?_cons_succ, List.getElem?_cons_zero]; rfl)
      case wz2006 =>
        rw [if_pos (by rfl)]
        go_simp
        refine (HF.out _ HK4d.out).mono ?_; rintro r w5 ⟨v5, rfl, ho5, hg5⟩
        (try go_wp2_with fail)
        have HO5 := Lib.hid ho5
        have K5 := Lib.hid (HKd.out.trans hg5)
        have HZ5 := Lib.hid (HZd.out.kp hg5)
        refine hK.out _ _ (five_kp hHeld hg5) (fun hz2007 => ?_)
        have HB5 : Hid (w.heap.size < wz.heap.size) := Lib.hid HZd.out.lt
        clear hK K hg5 ho5
        refine wpAnyH_take (i := 6) (oi := ?p6z2008) (v := ?v6z2008) ?o6z2008 (by kernel_rfl) (by kernel_rfl) (by kernel_rfl) ?q6z2008 ?y6z2008 (by assumption) ?r6z2008
        case o6z2008 => (simp only [List.getElem?_toArray, List.getElem?_cons_succ, List.getElem?_cons_zero]; rfl)
        case q6z2008 => (exact fun _ _ _ h => h)
        case y6z2008 => (refine Or.inl ⟨by rfl, ?_⟩; intro w hSw; (try dsimp only at hSw); go_simp; (try with_reducible rfl))
        simp only [Act.put, List.setIfInBounds_toArray, List.set_cons_zero, List.set_cons_succ]
        refine wpAnyH_ready (rs := [7]) (by kernel_rfl) (by simp) ?_
        refine (AllReadyH.cons (o := ?pz2009) ?oz2009 (fun K hK => ?wz2009) AllReadyH.nil)
        case oz2009 => (simp only [List.getElem?_toArray, List.getElem?_cons_succ, List.getElem?_cons_zero]; rfl)
        case wz2009 =>
          rw [if_pos (by rfl)]
          refine wp_store_row 26 (.tmp 5) (.tmp 42) rfl w.heap.size (Ent.arr e) rfl rfl _ _ HZ5.out (by kernel_rfl) rfl (by simp [Ent.arr, Value.oneCell']) ?_
          refine hK.out _ _ (five_set hz2007 (by exact HB.out) (Ent.arr e)) (fun hz2010 => ?_)
          clear hK K
          refine wpAnyH_take (i := 8) (oi := ?p8z2011) (v := ?v8z2011) ?o8z2011 (by kernel_rfl) (by kernel_rfl) (by kernel_rfl) ?q8z2011 ?y8z2011 (by assumption) ?r8z2011
          case o8z2011 => (simp only [List.getElem?_toArray, List.getElem?_cons_succ, List.getElem?_cons_zero]; rfl)
          case q8z2011 => (exact fun _ _ _ h => h)
          case y8z2011 => (refine Or.inl ⟨by rfl, ?_⟩; intro w hSw; (try dsimp only at hSw); go_simp; (try with_reducible rfl))
          simp only [Act.put, List.setIfInBounds_toArray, List.set_cons_zero, List.set_cons_succ]
          refine wpAnyH_done (by kernel_rfl) ?_ _
          go_wp2_with fail
          refine bodyPost_ret (results_tct rfl _ _ _ _ _ _ _ rfl (HZ5.out.setRow (Ent.arr e)) Tryd.underlying26 rfl (by kernel_rfl)) rfl ?_
          exact ⟨_, rfl, (HO5.out.other HB5.out _).low (Nat.le_of_lt HB5.out), K5.out.setRow (Nat.le_refl _) _⟩
end Go.Proofs.YtgjjbgijdgihcaaDoor
