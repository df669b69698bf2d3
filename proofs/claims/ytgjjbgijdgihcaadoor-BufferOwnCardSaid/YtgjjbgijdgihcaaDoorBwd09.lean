/-
  A region that draws its order inside a round of a range over a function; slices.Backward over a row of entries, for whatever body the rounds have. No condition.
-/
import Derived.Test.YtgjjbgijdgihcaaDoorPTake09
import Derived.RangeFuncNested
import Derived.RangeFuncBound
import Derived.RangeFuncCalls
import Derived.RangeFuncLeaves
import Derived.Shelf.Abstract
import Derived.OwnWalkIn
import Derived.TacticsInMore
import Derived.LoopNIn
import Derived.LoopIn
import Derived.OrdersIn
namespace Go.Proofs.YtgjjbgijdgihcaaDoor
open Go Go.RowKit Go.Shelf
attribute [local go_sem] Oper.semAt_some

section
variable {P : Program} {ops : Array Oper} {Q : Exit → Act → World → Prop} {S : World → Prop}
theorem rowsIn_wide {n l : Nat} {row : String} {args : Array Value} {w : World} {R : Value → World → Prop} (h : _root_.Go.Rows P row args w R) : _root_.Go.RowsIn (Fence.wide.inRound l) n P row args w R := by
  intro c cs _
  obtain ⟨v, w', r, s⟩ := h c cs
  refine ⟨v, w', r, ?_⟩
  rw [fenced_inRound]
  exact stepsIn_wide.2 s
theorem upon_round {n l : Nat} {o : Oper} {a : Act} {K K' : Act → World → Prop} (hK : ∀ a w, K a w → K' a w) : ∀ (r : Result Next), o.upon P a K Q r → o.uponIn (Fence.wide.inRound l) n P a K' Q r
  | .ok (.value v) w', h => hK _ _ h
  | .ok .skip w', h => hK _ _ h
  | .ok (.defer d) w', h => hK _ _ h
  | .ok (.enter f args) w', h => ⟨(fun q => by cases q), CallsIn.inRound l ((callsIn_wide.2 h).mono fun e w'' he => by cases e <;> first | exact hK _ _ he | exact he)⟩
  | .ok (.row row args) w', h => ⟨(fun q => by cases q), rowsIn_wide (h.mono fun v w'' he => hK _ _ he)⟩
  | .ok (.round l f tmps assign body) w', h => h.elim
  | .halt (.panic v) w', h => h
  | .halt (.fatal v) w', h => h.elim
  | .halt (.exit v) w', h => h.elim
  | .halt (.stuck v) w', h => h.elim
theorem anyIn_of_held {md : Region.Mode} {n l : Nat} (hlo : ¬ LetsOut Q) (hnd : ∀ (i : Nat) (o : Oper), ops[i]? = some o → ∀ c, o.op ≠ .defer c) : ∀ (fuel : Nat) (listed : Array Bool) (a : Act) (w : World), wpAnyH P md ops Q S fuel listed a w → wpAnyIn (Fence.wide.inRound l) n P md ops Q fuel listed a w
  | 0, _, _, _, h => h
  | fuel + 1, listed, a, w, h => by
    refine ⟨h.1, fun i hi => ?_⟩
    have h2 := h.2 i hi
    unfold wpOp at h2
    unfold wpOpIn
    cases ho : ops[i]? with
    | none =>
      rw [ho] at h2
      exact anyIn_of_held hlo hnd fuel _ a w h2.2
    | some o =>
      rw [ho] at h2
      simp only [] at h2 ⊢
      split
      · rw [if_pos (by assumption)] at h2
        rcases h2 with h2 | ⟨_, h2⟩
        · refine ⟨fun _ _ => trivial, ?_⟩
          rw [Fence.inRound_round, Oper.semAt_some l _ o (hnd i o ho)]
          exact upon_round (fun a' w' q => anyIn_of_held hlo hnd fuel _ a' w' q.2) _ h2
        · exact absurd h2 hlo
      · rw [if_neg (by assumption)] at h2
        exact ⟨fun _ _ => trivial, anyIn_of_held hlo hnd fuel _ _ w h2.2⟩
/-- The beginning of such a region. -/
theorem region_round {n l id : Nat} {a : Act} {w : World} (hm : P.follows .mixedOrders = true) (hlo : ¬ LetsOut Q) (hnd : ops.all (fun o => match o.op with | .defer _ => false | _ => true) = true) (hS : S w.drew)
    (h : S w.drew → wpAnyH P .any ops Q S ops.size (Array.replicate ops.size false) a w.drew) : (Code.region id ops true).wpIn (Fence.wide.inRound l) n P Q a w :=
  wpIn_region_any hm (anyIn_of_held hlo (fun i o ho c hc => by
    obtain ⟨hi, e⟩ := Array.getElem?_eq_some_iff.1 ho
    have := Array.all_eq_true.1 hnd i hi
    rw [e, hc] at this
    cases this) _ _ _ _ (h hS))
end
/-! slices.Backward -/
/-- What a round is handed: a place, and an entry that may be. -/
abbrev Rnd := { x : Nat × Ent // mayB x.2 = true ∧ x.2.wf }
def encR (x : Rnd) : Array Value := #[.int .i64 (x.1.1 : Nat), .agg (Ent.arr x.1.2)]
def entsR (xs : List Rnd) : List Ent := xs.map (·.1.2)
theorem entsR_snoc (xs : List Rnd) (x : Rnd) : entsR (xs ++ [x]) = entsR xs ++ [x.1.2] := by simp [entsR]
theorem rev_take {L : List Ent} {q : Nat} {e : Ent} (h : L[q]? = some e) : L.reverse.take (L.length - q) = L.reverse.take (L.length - (q + 1)) ++ [e] := by
  have hq := (List.getElem?_eq_some_iff.1 h).1
  have : L.length - q = (L.length - (q + 1)) + 1 := by omega
  rw [this, List.take_add_one, List.getElem?_reverse (by omega), show L.length - 1 - (L.length - (q + 1)) = q by omega, h]
  rfl
theorem mkback_any (a0 : Option Addr) (cap N : Nat) (w : World) : Calls Tryd.prog 29 #[.slice a0 N cap] w fun r w' => r = .returned (.func (.func 37) #[] #[.pointer (some ⟨w.heap.size, 0, none⟩)]) ∧ w' = w.alloc (.cells #[.slice a0 N cap] 22) := by
  go_enter Tryd.func29, Tryd.ntmps29
  go_wp2_with fail
  go_ret
  exact ⟨rfl, rfl⟩
set_option maxRecDepth 100000 in
set_option maxHeartbeats 2000000 in
theorem back_in (n l Bs : Nat) (a0 : Option Addr) (cap N : Nat) (L : List Ent) (w0 W : World) (hN : N = L.length) (hn : N ≤ 100) (h : RowE w0 a0 cap L) (hm : ∀ e ∈ L, mayB e = true ∧ e.wf) (hW : Kp w0 W) (hB : w0.cell? ⟨Bs, 0, none⟩ = some (.slice a0 N cap))
    (J Jx : List Rnd → World → Prop)
    (hY : ∀ pre x W1, J pre W1 → pre.length < N → YieldAt Fence.wide (n - 1) Tryd.prog l (encR x) W1 fun e W' => (e = .returned (.bool true) ∧ J (pre ++ [x]) W' ∧ Below w0.heap.size W1 W') ∨ (e = .returned (.bool false) ∧ Jx (pre ++ [x]) W'))
    (h0 : J [] W) :
    CallsIn Fence.wide n Tryd.prog 37 #[.func (.yield l) #[] #[], .pointer (some ⟨Bs, 0, none⟩)] W fun e W' => (∃ v, e = .returned v) ∧ ((∃ xs, entsR xs = L.reverse ∧ J xs W') ∨ (∃ pre, entsR pre <+: L.reverse ∧ Jx pre W')) := by
  have HE := Lib.hid hN
  have H := Lib.hid h
  have HM := Lib.hid hm
  have HBl := Lib.hid (lt_of_cell' hB)
  have HB0 := Lib.hid hB
  have hBw : W.cell? ⟨Bs, 0, none⟩ = some (.slice a0 N cap) := (hW.cell HBl.out).trans hB
  have HW := Lib.hid hW
  have hNI : (N : Int) ≤ 100 := by omega
  clear h hN hm hB hW
  refine callsIn_of_wp Tryd.func37 rfl trivial ?_ rfl
  simp only [Tryd.ntmps37, List.size_toArray, List.length_cons, List.length_nil, Nat.reduceAdd, Nat.reduceSub, Array.replicate_succ, Array.replicate_zero, List.push_toArray, List.append_toArray, List.nil_append, List.cons_append]
  gi_wp2
  gi_loopw [3] (fun i wr => ∃ (z : Int) (m : Nat) (pre : List Rnd), i = .int .i64 z ∧ m ≤ N ∧ z + 1 = (m : Int) ∧ pre.length = N - m ∧ entsR pre = L.reverse.take (L.length - m) ∧ J pre wr ∧ Kp w0 wr) (fun i _ => (intOf i + 1).toNat)
  case atStart => exact ⟨(N : Int) - 1, N, [], by go_num, Nat.le_refl _, by omega, by simp, by rw [HE.out]; simp [entsR], h0, HW.out⟩
  case round =>
    obtain ⟨z, m, pre, rfl, hmN, hz, hpl, hpe, hJ, hk⟩ := hrel
    have HK := Lib.hid hk
    have HP := Lib.hid hpe
    clear hk hpe
    cases m with
    | zero =>
      obtain rfl : z = -1 := by omega
      clear hz
      gi_wp2
      go_end0
      exact ⟨⟨_, rfl⟩, .inl ⟨pre, by rw [HP.out, Nat.sub_zero, ← List.length_reverse, List.take_length], hJ⟩⟩
    | succ q =>
      obtain rfl : z = (q : Int) := by omega
      clear hz
      have hx : L[q]? = some (L[q]'(by have := HE.out; omega)) := List.getElem?_eq_getElem _
      generalize L[q]'(by have := HE.out; omega) = e at hx
      have he := HM.out e (List.mem_of_getElem? hx)
      have hxx := Lib.hid (rev_take hx)
      obtain ⟨fn, tmps, assign, body, hy, hR⟩ := hY pre ⟨(q, e), he⟩ wr hJ (by omega)
      unfold encR Ent.arr at hy
      dsimp only at hy
      obtain ⟨b, off, rfl, hlt, hc⟩ := (H.out.kp HK.out).at hx
      obtain ⟨c0, c1, c2, c3, c4⟩ := hc q e hx
      have cB := (HK.out.cell HBl.out).trans HB0.out
      have HQ : Hid (q + 1 ≤ N) := Lib.hid hmN
      have HPl := Lib.hid hpl
      have i0 : (0 : Int) ≤ (q : Int) := by omega
      have i1 : (q : Int) < (N : Int) := by omega
      clear hc hlt hx hpl
      gi_wp2
      refine ⟨(fun q => by cases q), hR.mono ?_⟩
      rintro r W3 (⟨rfl, hJ3, hk3⟩ | ⟨rfl, hJx3⟩)
      · gi_wp2
        go_roundw
        case rel => exact ⟨(q : Int) - 1, q, _, by go_num, by have := HQ.out; omega, by omega, by rw [List.length_append, HPl.out]; have := HQ.out; simp; omega, by rw [entsR_snoc, HP.out, hxx.out], hJ3, Below.trans HK.out hk3⟩
        case measure => simp [intOf] <;> omega
      · gi_wp2
        refine bodyPost_ret (results_none rfl _ _ _) rfl ?_
        exact ⟨⟨_, rfl⟩, .inr ⟨_, by rw [entsR_snoc, HP.out, ← hxx.out]; exact List.take_prefix _ _, hJx3⟩⟩
theorem back_stops (n Bs : Nat) (a0 : Option Addr) (cap N : Nat) (L : List Ent) (w0 : World) (hN : N = L.length) (hn : N ≤ 100) (h : RowE w0 a0 cap L) (hm : ∀ e ∈ L, mayB e = true ∧ e.wf) (hB : w0.cell? ⟨Bs, 0, none⟩ = some (.slice a0 N cap)) :
    SeqStopsK Fence.wide n Tryd.prog 37 #[.pointer (some ⟨Bs, 0, none⟩)] encR (Below w0.heap.size) (fun xs => entsR xs = L.reverse) (fun pre => entsR pre <+: L.reverse) N w0 :=
  fun l J Jx W hW _ _ hY h0 => back_in n l Bs a0 cap N L w0 W hN hn h hm hW hB J Jx hY h0
end Go.Proofs.YtgjjbgijdgihcaaDoor
