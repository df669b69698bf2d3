/-
  Package isa: an instruction's text. No condition but the tables.
-/
import Derived.Test.YtfbkppncaampdaaDoorRefText07
import Derived.Laws.AppendOwn
import Derived.Maps.AppendAt
import Derived.Laws.OwnMore
import Derived.OwnWalk
import Derived.Deep.DeepCutAuto
import Derived.LoopN
namespace Go.Proofs.YtfbkppncaampdaaDoor
open Go Go.RowKit

theorem bad_any (w : World) : Calls Tryd.prog 23 #[] w fun e w' => e = .returned (.agg #[.int .i8 18, .int .i8 0, .int .i8 0, .int .i8 0, .int .i64 0]) ∧ Kp w w' := by
  go_enter Tryd.func23, Tryd.ntmps23
  go_wp2
  refine bodyPost_ret (results_cell_row rfl _ _ _ _ _ _ _ rfl (Blk.new w _ _) Tryd.underlying25 rfl (by kernel_rfl)) rfl ?_
  exact ⟨rfl, kpA _ _ _⟩
def OwnsS (w : World) (B : Nat) (v : Value) (ss : List (List UInt8)) : Prop := w.ownsRow B 9 1 v ss.length (ss.map fun s => .string (strB s))
theorem OwnsS.nil (w : World) (B : Nat) : OwnsS w B (.slice none 0 0) [] := World.ownsRow_nil w B _ _
theorem OwnsS.kp {w w' : World} {B : Nat} {v : Value} {ss : List (List UInt8)} (h : OwnsS w B v ss) (hk : Kp w w') : OwnsS w' B v ss := by
  refine ⟨h.1, ?_⟩
  rcases h.2 with h | ⟨g, cap, cur, rfl, hb, hg, hr⟩
  · exact .inl h
  · exact .inr ⟨g, cap, cur, rfl, hb, (Blk.kp (cs := cur) hg hk), hr⟩
theorem OwnsS.parts {w : World} {B : Nat} {v : Value} {ss : List (List UInt8)} (h : OwnsS w B v ss) :
    (v = .slice none 0 0 ∧ ss = []) ∨ ∃ g cap, v = .slice (some ⟨g, 0, none⟩) ss.length cap ∧ g < w.heap.size ∧ ss.length ≤ cap ∧ ∀ j s, (ss.map strB)[j]? = some s → w.cell? ⟨g, 0 + j, none⟩ = some (.string s) := by
  rcases h.2 with ⟨hv, hn⟩ | ⟨g, cap, cur, rfl, hb, hg, hn, hm, hs, ht⟩
  · exact .inl ⟨hv, List.eq_nil_of_length_eq_zero hn⟩
  · refine .inr ⟨g, cap, rfl, lt_of_block hg, hn, fun j s hj => ?_⟩
    have hb : Blk w g cur 9 := hg
    rw [Nat.zero_add, hb.cell]
    have hj' : (ss.map fun s => Value.string (strB s))[j]? = some (.string s) := by
      rw [List.getElem?_map] at hj ⊢
      cases hq : ss[j]? with
      | none => rw [hq] at hj; cases hj
      | some z => rw [hq] at hj; cases hj; rfl
    have hlt : j < ss.length := by
      have := (List.getElem?_eq_some_iff.1 hj).1
      simpa using this
    rw [← ht, List.getElem?_take] at hj'
    simpa [hlt] using hj'
theorem str_info : (Tryd.prog.info? 9).map (fun i => (i.zero, i.size, i.bytes)) = some (some (.string ⟨#[]⟩), 1, 16) := by kernel_rfl
theorem one_str (s : ByteArray) : ∀ u ∈ [Value.string s], u.oneCell' = true := by
  intro u hu
  simp at hu
  subst hu
  rfl
def aheadL (k : Nat) : List UInt8 := if k < 3 then [120] else []
theorem ahead_any (k : Nat) (w : World) (hk : k < 4) :
    Calls Tryd.prog 26 #[.int .i64 k] w fun e w' => e = .returned (.string (strB (aheadL k))) ∧ w = w' := by
  by_cases h : k < 3
  · rw [show aheadL k = [120] from if_pos h]
    exact ahead_x k w (by omega)
  · obtain rfl : k = 3 := by omega
    exact ahead_no w
def prtTo (o : Nat) (d n m imm : Int) : Nat → List (List UInt8)
  | 0 => []
  | k + 1 => prtTo o d n m imm k ++ (if pWd o k = 0 then [] else [aheadL k ++ Lib.itoa (vAt d n m imm k)])
theorem prtTo_len (o : Nat) (d n m imm : Int) : ∀ k, (prtTo o d n m imm k).length ≤ k
  | 0 => Nat.le_refl _
  | k + 1 => by
    have := prtTo_len o d n m imm k
    unfold prtTo
    split <;> simp <;> omega
theorem prtTo_no {o k : Nat} {d n m imm : Int} (h : pWd o k = 0) : prtTo o d n m imm (k + 1) = prtTo o d n m imm k := by
  show _ ++ _ = _
  rw [if_pos h, List.append_nil]
theorem prtTo_yes {o k : Nat} {d n m imm : Int} (h : pWd o k ≠ 0) : prtTo o d n m imm (k + 1) = prtTo o d n m imm k ++ [aheadL k ++ Lib.itoa (vAt d n m imm k)] := by
  show _ ++ _ = _
  rw [if_neg h]
theorem prtTo_all (o : Nat) (d n m imm : Int) : prtTo o d n m imm 4 = prtL o d n m imm := by
  have e : ∀ b, rWd b = 0 ↔ b = false := fun b => by cases b <;> simp [rWd]
  unfold prtL
  simp only [prtTo, pWd, e, vAt, aheadL]
  cases fD o <;> cases fN o <;> cases fM o <;> simp
theorem sums_len (o : Nat) (d n m imm : Int) (g : InsA o d n m imm) (k : Nat) (hk : k < 4) : (-100000 ≤ vAt d n m imm k ∧ vAt d n m imm k ≤ 100000) := by
  have hz := g.small
  obtain rfl | rfl | rfl | rfl : k = 0 ∨ k = 1 ∨ k = 2 ∨ k = 3 := by omega
  · exact hz.1
  · exact hz.2.1
  · exact hz.2.2.1
  · exact hz.2.2.2
theorem prtTo_small (o : Nat) (d n m imm : Int) (g : InsA o d n m imm) : ∀ k, k ≤ 4 → ∀ s ∈ prtTo o d n m imm k, s.length ≤ 14
  | 0, _, s, hs => by cases hs
  | k + 1, hk, s, hs => by
    by_cases c : pWd o k = 0
    · rw [prtTo_no c] at hs
      exact prtTo_small o d n m imm g k (by omega) s hs
    · rw [prtTo_yes c, List.mem_append] at hs
      rcases hs with hs | hs
      · exact prtTo_small o d n m imm g k (by omega) s hs
      · rw [List.mem_singleton] at hs
        subst hs
        have hv := sums_len o d n m imm g k (by omega)
        have := itoa_len _ hv.1 hv.2
        unfold aheadL
        split <;> simp <;> omega
theorem join_len : ∀ (ss : List (List UInt8)), (∀ s ∈ ss, s.length ≤ 14) → (Lib.join ss [44]).length ≤ 15 * ss.length
  | [], _ => by simp [Lib.join_nil]
  | [a], h => by
    rw [Lib.join_one]
    have := h a (by simp)
    simp; omega
  | a :: b :: r, h => by
    have e : Lib.join (a :: b :: r) [44] = a ++ [44] ++ Lib.join (b :: r) [44] := by simp [Lib.join, List.intercalate, List.intersperse]
    have h1 := h a (by simp)
    have h2 := join_len (b :: r) (fun s hs => h s (by simp at hs ⊢; exact .inr hs))
    rw [e, List.length_append, List.length_append]
    simp only [List.length_cons, List.length_nil] at *
    omega
theorem norm_ins (op d n m imm : Int) (hop : -128 ≤ op ∧ op < 128) : ∃ (o : Nat) (D N M I : Int), InsA o D N M I ∧ txtL op d n m imm = txtO o D N M I ∧ ((InsA op d n m imm ∧ op = o ∧ d = D ∧ n = N ∧ m = M ∧ imm = I) ∨ (¬ InsA op d n m imm ∧ o = 18 ∧ D = 0 ∧ N = 0 ∧ M = 0 ∧ I = 0)) := by
  by_cases h : InsA op d n m imm
  · obtain ⟨o, rfl⟩ := Int.eq_ofNat_of_zero_le h.1
    exact ⟨o, d, n, m, imm, h, (if_pos h).trans (by rw [Int.toNat_natCast]), .inl ⟨h, rfl, rfl, rfl, rfl, rfl⟩⟩
  · exact ⟨18, 0, 0, 0, 0, by decide, (if_neg h).trans rfl, .inr ⟨h, rfl, rfl, rfl, rfl, rfl⟩⟩
theorem OwnsS.step {w w1 wz : World} {v v' : Value} {zs : List (List UInt8)} {a : List UInt8} (hz : Kp w wz) (ho : OwnsS wz w.heap.size v zs) (h1 : w1.ownsRow w.heap.size 9 1 v' (zs.length + 1) (zs.map (fun s => Value.string (strB s)) ++ [Value.string (strB a)])) (hg : wz.grownBy w1 v.ownBlock) :
    OwnsS w1 w.heap.size v' (zs ++ [a]) ∧ Kp w w1 := by
  refine ⟨?_, Kp.grown hz hg fun k e => (World.ownsRow.lt ho k e).1⟩
  unfold OwnsS
  rw [List.length_append, List.map_append]
  exact h1
theorem news_one {w : World} {b : Nat} {x : Value} {t : TypeId} (h : Blk w b #[x] t) : ∀ j u, [x][j]? = some u → w.cell? ((⟨b, 0, none⟩ : Addr).add j) = some u := by
  intro j u hj
  match j, hj with
  | 0, hj =>
    simp at hj
    subst hj
    simp [Addr.add, h.cell]
theorem maxl {n : Nat} (h : n ≤ 100) : n ≤ maxLen := by unfold maxLen; omega
theorem fits16 {n : Nat} (h : n ≤ 50) : n + 1 ≤ maxLen ∧ (n + 1) * 16 ≤ 140737488355328 := ⟨maxl (by omega), by omega⟩
theorem ahead_kp (k : Nat) (w : World) (hk : k < 4) :
    Calls Tryd.prog 26 #[.int .i64 k] w fun e w' => e = .returned (.string (strB (aheadL k))) ∧ Kp w w' :=
  (ahead_any k w hk).mono fun _ _ h => ⟨h.1, h.2 ▸ Kp.refl _⟩
theorem EAt.set {w w1 : World} {o : Nat} {op d n m imm : Int} (h : EAt w w1 o op d n m imm) (B : Nat) (cs : Array Value) (h1 : 0 < B) (h2 : w.heap.size < B) : EAt w (w1.setRow B cs) o op d n m imm := by
  obtain ⟨h0, h1', h2', h3, h4, h5, h6, h7, h8, h9, h10, h11, h12, hl, hm, hk⟩ := h
  have a := fun j => cell_setRow w1 B 0 j cs (by omega)
  have b := fun j => cell_setRow w1 B w.heap.size j cs (by omega)
  exact ⟨(a _).trans h0, (a _).trans h1', (a _).trans h2', (a _).trans h3, (a _).trans h4, (a _).trans h5, (a _).trans h6, (a _).trans h7, (b _).trans h8, (b _).trans h9, (b _).trans h10, (b _).trans h11, (b _).trans h12, by simpa using hl, by simpa using hm, hk.setRow (by omega) cs⟩
theorem EAt.lts {w w1 : World} {o : Nat} {op d n m imm : Int} (h : EAt w w1 o op d n m imm) : 0 < w1.heap.size ∧ w.heap.size < w1.heap.size ∧ Kp w w1 := h.2.2.2.2.2.2.2.2.2.2.2.2.2
def TxAt (w0 w' : World) (B k : Nat) (v : Value) : Prop := w'.cell? ⟨B, k, none⟩ = some v ∧ Kp w0 w'
theorem TxAt.of {w0 w' : World} {B k : Nat} {v : Value} {cs : Array Value} {t : TypeId} (hB : Blk w0 B cs t) (hk : Kp w0 w') (hv : cs[k]? = some v) : TxAt w0 w' B k v := ⟨((hB.kp hk).cell k).trans hv, hk⟩
theorem TxAt.kp {w0 w1 w2 : World} {B k : Nat} {v : Value} (h : TxAt w0 w1 B k v) (hb : B < w1.heap.size) (g : Kp w1 w2) : TxAt w0 w2 B k v := ⟨(g.cell hb).trans h.1, h.2.trans g⟩
theorem TxAt.drew {w0 w1 : World} {B k : Nat} {v : Value} (h : TxAt w0 w1 B k v) (hb : B < w1.heap.size) : TxAt w0 w1.drew B k v := h.kp hb (Kp.refl _).drew
theorem join_any (w : World) (gb cap : Nat) (ss : List (List UInt8)) (hcells : ∀ j s, (ss.map strB)[j]? = some s → w.cell? ⟨gb, 0 + j, none⟩ = some (.string s)) (hg : gb < w.heap.size) (hc : ss.length ≤ cap) (hn : ss.length ≤ 100) (hl : (Lib.join ss [44]).length ≤ 1000) :
    Calls Tryd.prog 28 #[.slice (some ⟨gb, 0, none⟩) ss.length cap, .string ⟨#[44]⟩] w fun e w' => e = .returned (.string (strB (Lib.join ss [44]))) ∧ Kp w w' := by
  have e1 : (ss.map strB).map (fun b => b.data.toList) = ss := by
    rw [List.map_map]
    have : ((fun b : ByteArray => b.data.toList) ∘ strB) = id := by funext s; simp [strB]
    rw [this, List.map_id]
  have h := Tryd.strings_Join gb 0 cap (ss.map strB) ⟨#[44]⟩ w hcells hg (by simp; omega) (by simpa using hc) (by rw [e1]; show (Lib.join ss [44]).length ≤ _; omega)
  rw [e1, List.length_map] at h
  exact h
theorem valV_at (d n m imm : Int) (k : Nat) (hk : k < 4) : (valV d n m imm)[k]? = some (.int .i64 (vAt d n m imm k)) := by
  obtain rfl | rfl | rfl | rfl : k = 0 ∨ k = 1 ∨ k = 2 ∨ k = 3 := by omega
  all_goals rfl
set_option maxRecDepth 20000 in
set_option maxHeartbeats 8000000 in
theorem text_any (op d n m imm : Int) (w : World) (hT : TabsOk w) (hF : FmtsOk w) (hP : PowOk w) (hop : -128 ≤ op ∧ op < 128) :
    Calls Tryd.prog 12 #[.agg (insV op d n m imm)] w fun e w' => e = .returned (.string (strB (txtL op d n m imm))) ∧ Kp w w' := by
  obtain ⟨o, D, N, M, I, g, htx, hcase⟩ := norm_ins op d n m imm hop
  rw [htx]
  have HG := Lib.hid g
  have HO : Hid (o < 19) := Lib.hid (by have := g.2.1; omega)
  have HT := Lib.hid hT
  have HF := Lib.hid hF
  have HP := Lib.hid hP
  have HR := Lib.hid hop
  have HV := Lib.hid (fun w => values_any o D N M I w g.i8.1 g.i8.2.1 g.i8.2.2)
  clear hT hF hP hop htx
  have HI := Lib.hid (IAt.new w op d n m imm)
  unfold insV at HI
  unfold insV
  go_enter Tryd.func12, Tryd.ntmps12
  go_wp2_with fail
  refine (check_any op d n m imm _ (HT.out.kp (kpA _ _ _)) HR.out).mono ?_; rintro e w1 ⟨rfl, hg⟩
  have H1 := Lib.hid hg; clear hg
  go_upto_if 10 with fail
  go_cut [] from 8 (fun wx => Blk wx w.heap.size (insV o D N M I) 25 ∧ Kp w wx)
  case first =>
    rcases hcase with ⟨h, rfl, rfl, rfl, rfl, rfl⟩ | ⟨h, rfl, rfl, rfl, rfl, rfl⟩
    · have e := chkA_yes h
      have HB : Hid (Blk w1 w.heap.size (insV o d n m imm) 25 ∧ Kp w w1) := Lib.hid ⟨(Blk.new w _ _).kp H1.out, (kpA _ _ _).trans H1.out⟩
      rw [e]
      go_wp2
      go_meet
      case rel => exact HB.out
    · have e := chkA_no h
      rw [e]
      go_wp2_with (first | (go_at_call 23; refine (bad_any _).mono ?_; rintro e w2 ⟨rfl, hg⟩; have HB : Hid (Blk w2 w.heap.size (insV op d n m imm) 25 ∧ Kp w w2) := Lib.hid ⟨((Blk.new w _ _).kp H1.out).kp hg, ((kpA _ _ _).trans H1.out).trans hg⟩; clear hg) | (refine wpList_store_row rfl 25 (.tmp 1) (.tmp 11) rfl w.heap.size (insV 18 0 0 0 0) rfl rfl _ _ HB.out.1 (by kernel_rfl) rfl (by simp [insV, Value.oneCell']) ?_))
      go_meet
      case rel => exact ⟨HB.out.1.setRow _, HB.out.2.setRow (Nat.le_refl _) _⟩
  case rest =>
  clear hcase HI
  have HB0 := Lib.hid hcut
  clear hcut
  go_upto_region 3 with fail
  go_cut [3, 4] from 12 (fun s3 s4 wx => ∃ B1 B2, s3 = .pointer (some ⟨B1, 0, none⟩) ∧ s4 = .pointer (some ⟨B2, 0, none⟩) ∧ Blk wx B1 (fmtV o) 62 ∧ Blk wx B2 (valV D N M I) 67 ∧ Kp w wx)
  case first =>
    have i0 : (0 : Int) ≤ (o : Int) := by omega
    have i1 : (o : Int) < 19 := by have := HO.out; omega
    have HE := Lib.hid (EB.at (w := w) (op := o) o HO.out ⟨HF.out.kp HB0.out.2, HB0.out.1, HB0.out.2⟩)
    refine wp_region_held_drew (S := fun w' => w'.cell? ⟨0, o * 8, none⟩ = some (.string (fName o)) ∧ w'.cell? ⟨0, o * 8 + 1, none⟩ = some (.int .u32 (fW o)) ∧ w'.cell? ⟨0, o * 8 + 2, none⟩ = some (.bool (fD o)) ∧ w'.cell? ⟨0, o * 8 + 3, none⟩ = some (.bool (fN o)) ∧ w'.cell? ⟨0, o * 8 + 4, none⟩ = some (.bool (fM o)) ∧ w'.cell? ⟨0, o * 8 + 5, none⟩ = some (.int .i64 (fLo o)) ∧ w'.cell? ⟨0, o * 8 + 6, none⟩ = some (.int .i64 (fWd o)) ∧ w'.cell? ⟨0, o * 8 + 7, none⟩ = some (.bool (fS o)) ∧ w'.cell? ⟨w.heap.size, 0, none⟩ = some (.int .i8 o) ∧ w'.cell? ⟨w.heap.size, 1, none⟩ = some (.int .i8 D) ∧ w'.cell? ⟨w.heap.size, 2, none⟩ = some (.int .i8 N) ∧ w'.cell? ⟨w.heap.size, 3, none⟩ = some (.int .i8 M) ∧ w'.cell? ⟨w.heap.size, 4, none⟩ = some (.int .i64 I) ∧ 0 < w'.heap.size ∧ w.heap.size < w'.heap.size ∧ Kp w w') (by kernel_rfl) (EAt.drew (o := o) HE.out) (fun hHeld => ?_)
    generalize World.drew _ = w0 at hHeld ⊢
    refine wpAnyH_take (i := 0) (oi := ?p0z1) (v := ?v0z1) ?o0z1 (by kernel_rfl) (by kernel_rfl) (by kernel_rfl) ?q0z1 ?y0z1 (by assumption) ?r0z1
    case o0z1 => (simp only [List.getElem?_toArray, List.getElem?_cons_zero]; rfl)
    case q0z1 => (exact fun _ _ _ h => h)
    case y0z1 => (refine Or.inl ⟨by rfl, ?_⟩; intro w hSw; (try dsimp only at hSw); go_simp; (try with_reducible rfl))
    simp only [Act.put, List.setIfInBounds_toArray, List.set_cons_zero, List.set_cons_succ]
    refine wpAnyH_take (i := 1) (oi := ?p1z2) (v := ?v1z2) ?o1z2 (by kernel_rfl) (by kernel_rfl) (by kernel_rfl) ?q1z2 ?y1z2 (by assumption) ?r1z2
    case o1z2 => (simp only [List.getElem?_toArray, List.getElem?_cons_succ, List.getElem?_cons_zero]; rfl)
    case q1z2 => (exact fun _ _ _ h => h)
    case y1z2 => (refine Or.inl ⟨by rfl, ?_⟩; intro w hSw; (try dsimp only at hSw); go_simp; (try with_reducible rfl))
    simp only [Act.put, List.setIfInBounds_toArray, List.set_cons_zero, List.set_cons_succ]
    refine wpAnyH_take (i := 2) (oi := ?p2z3) (v := ?v2z3) ?o2z3 (by kernel_rfl) (by kernel_rfl) (by kernel_rfl) ?q2z3 ?y2z3 (by assumption) ?r2z3
    case o2z3 => (simp only [List.getElem?_toArray, List.getElem?_cons_succ, List.getElem?_cons_zero]; rfl)
    case q2z3 => (exact fun _ _ _ h => h)
    case y2z3 => (refine Or.inl ⟨by rfl, ?_⟩; intro w hSw; (try dsimp only at hSw); go_simp; (try with_reducible rfl))
    simp only [Act.put, List.setIfInBounds_toArray, List.set_cons_zero, List.set_cons_succ]
    refine wpAnyH_take (i := 3) (oi := ?p3z4) (v := ?v3z4) ?o3z4 (by kernel_rfl) (by kernel_rfl) (by kernel_rfl) ?q3z4 ?y3z4 (by assumption) ?r3z4
    case o3z4 => (simp only [List.getElem?_toArray, List.getElem?_cons_succ, List.getElem?_cons_zero]; rfl)
    case q3z4 => (exact fun _ _ _ h => h)
    case y3z4 => (refine Or.inl ⟨by rfl, ?_⟩; intro w hSw; (try dsimp only at hSw); go_simp; (try with_reducible rfl))
    simp only [Act.put, List.setIfInBounds_toArray, List.set_cons_zero, List.set_cons_succ]
    refine wpAnyH_take (i := 4) (oi := ?p4z5) (v := ?v4z5) ?o4z5 (by kernel_rfl) (by kernel_rfl) (by kernel_rfl) ?q4z5 ?y4z5 (by assumption) ?r4z5
    case o4z5 => (simp only [List.getElem?_toArray, List.getElem?_cons_succ, List.getElem?_cons_zero]; rfl)
    case q4z5 => (exact fun _ _ _ h => h)
    case y4z5 => (refine Or.inl ⟨by rfl, ?_⟩; intro w hSw; (try dsimp only at hSw); go_simp; (try with_reducible rfl))
    simp only [Act.put, List.setIfInBounds_toArray, List.set_cons_zero, List.set_cons_succ]
    refine wpAnyH_ready (rs := [5, 6, 7]) (by kernel_rfl) (by simp) ?_
    refine (AllReadyH.cons (o := ?pz6) ?oz6 (fun K hK => ?wz6) (AllReadyH.cons (o := ?pz7) ?oz7 (fun K hK => ?wz7) (AllReadyH.cons (o := ?pz8) ?oz8 (fun K hK => ?wz8) AllReadyH.nil)))
    case oz6 => (simp only [List.getElem?_toArray, List.getElem?_cons_succ, List.getElem?_cons_zero]; rfl)
    case oz7 => (simp only [List.getElem?_toArray, List.getElem?_cons_succ, List.getElem?_cons_zero]; rfl)
    case oz8 => (simp only [List.getElem?_toArray, List.getElem?_cons_succ, List.getElem?_cons_zero]; rfl)
    case wz6 =>
      rw [if_pos (by rfl)]
      go_simp
      refine (HV.out _).mono ?_; rintro e wz9 ⟨rfl, hgz9⟩
      (try go_wp2_with fail)
      refine hK.out _ _ (EAt.kp (o := o) hHeld hgz9) (fun hz9 => ?_)
      clear hK K hgz9
      refine wpAnyH_ready (rs := [6, 7]) (by kernel_rfl) (by simp) ?_
      refine (AllReadyH.cons (o := ?pz10) ?oz10 (fun K hK => ?wz10) (AllReadyH.cons (o := ?pz11) ?oz11 (fun K hK => ?wz11) AllReadyH.nil))
      case oz10 => (simp only [List.getElem?_toArray, List.getElem?_cons_succ, List.getElem?_cons_zero]; rfl)
      case oz11 => (simp only [List.getElem?_toArray, List.getElem?_cons_succ, List.getElem?_cons_zero]; rfl)
      case wz10 =>
        rw [if_pos (by rfl)]
        go_simp
        have hgz12 := kpA wz9 #[.string ⟨#[]⟩, .int .u32 0, .bool false, .bool false, .bool false, .int .i64 0, .int .i64 0, .bool false] 62
        have hBz12 := Blk.new wz9 #[.string ⟨#[]⟩, .int .u32 0, .bool false, .bool false, .bool false, .int .i64 0, .int .i64 0, .bool false] 62
        have ltz12 := EAt.lts (o := o) hz9
        refine hK.out _ _ (EAt.kp (o := o) hz9 hgz12) (fun hz12 => ?_)
        clear hK K hgz12
        generalize wz9.alloc (.cells #[.string ⟨#[]⟩, .int .u32 0, .bool false, .bool false, .bool false, .int .i64 0, .int .i64 0, .bool false] 62) = wz12 at hz12 hBz12 ⊢
        refine wpAnyH_ready (rs := [7]) (by kernel_rfl) (by simp) ?_
        refine (AllReadyH.cons (o := ?pz13) ?oz13 (fun K hK => ?wz13) AllReadyH.nil)
        case oz13 => (simp only [List.getElem?_toArray, List.getElem?_cons_succ, List.getElem?_cons_zero]; rfl)
        case wz13 =>
          rw [if_pos (by rfl)]
          go_simp
          have hgz14 := kpA wz12 #[.int .i64 0, .int .i64 0, .int .i64 0, .int .i64 0] 67
          have fz15 := hBz12.kp hgz14
          have hBz14 := Blk.new wz12 #[.int .i64 0, .int .i64 0, .int .i64 0, .int .i64 0] 67
          have ltz14 := EAt.lts (o := o) hz12
          have nez14 := (hBz12).lt
          refine hK.out _ _ (EAt.kp (o := o) hz12 hgz14) (fun hz14 => ?_)
          clear hK K hgz14
          generalize wz12.alloc (.cells #[.int .i64 0, .int .i64 0, .int .i64 0, .int .i64 0] 67) = wz14 at hz14 fz15 hBz14 ⊢
          refine wpAnyH_ready (rs := [8]) (by kernel_rfl) (by simp) ?_
          refine (AllReadyH.cons (o := ?pz16) ?oz16 (fun K hK => ?wz16) AllReadyH.nil)
          case oz16 => (simp only [List.getElem?_toArray, List.getElem?_cons_succ, List.getElem?_cons_zero]; rfl)
          case wz16 =>
            rw [if_pos (by rfl)]
            refine wp_store_row 62 (.tmp 3) (.tmp 15) rfl (wz9.heap.size) (fmtV o) rfl rfl _ _ fz15 (by kernel_rfl) rfl (by simp [fmtV, Value.oneCell']) ?_
            have sAz17 := Blk.setRow fz15 (fmtV o)
            have sBz17 := Blk.setRowO hBz14 (fmtV o) (show _ ≠ wz9.heap.size by omega)
            refine hK.out _ _ (EAt.set (o := o) hz14 (wz9.heap.size) (fmtV o) ltz12.1 ltz12.2.1) (fun hz17 => ?_)
            clear hK K
            generalize World.setRow wz14 (wz9.heap.size) (fmtV o) = wz17 at hz17 sAz17 sBz17 ⊢
            refine wpAnyH_ready (rs := [9]) (by kernel_rfl) (by simp) ?_
            refine (AllReadyH.cons (o := ?pz18) ?oz18 (fun K hK => ?wz18) AllReadyH.nil)
            case oz18 => (simp only [List.getElem?_toArray, List.getElem?_cons_succ, List.getElem?_cons_zero]; rfl)
            case wz18 =>
              rw [if_pos (by rfl)]
              refine wp_store_row 67 (.tmp 4) (.tmp 17) rfl (wz12.heap.size) (valV D N M I) rfl rfl _ _ sBz17 (by kernel_rfl) rfl (by simp [valV, Value.oneCell']) ?_
              have sAz19 := Blk.setRow sBz17 (valV D N M I)
              have sBz19 := Blk.setRowO sAz17 (valV D N M I) (show _ ≠ wz12.heap.size by omega)
              refine hK.out _ _ (EAt.set (o := o) hz17 (wz12.heap.size) (valV D N M I) ltz14.1 ltz14.2.1) (fun hz19 => ?_)
              clear hK K
              generalize World.setRow wz17 (wz12.heap.size) (valV D N M I) = wz19 at hz19 sAz19 sBz19 ⊢
              refine wpAnyH_done (by kernel_rfl) ?_ _
              go_wp2_with fail
              go_meet
              case rel => exact ⟨_, _, rfl, rfl, sBz19, sAz19, (EAt.lts (o := o) hz19).2.2⟩
      case wz11 =>
        rw [if_pos (by rfl)]
        go_simp
        have hgz20 := kpA wz9 #[.int .i64 0, .int .i64 0, .int .i64 0, .int .i64 0] 67
        have hBz20 := Blk.new wz9 #[.int .i64 0, .int .i64 0, .int .i64 0, .int .i64 0] 67
        have ltz20 := EAt.lts (o := o) hz9
        refine hK.out _ _ (EAt.kp (o := o) hz9 hgz20) (fun hz20 => ?_)
        clear hK K hgz20
        generalize wz9.alloc (.cells #[.int .i64 0, .int .i64 0, .int .i64 0, .int .i64 0] 67) = wz20 at hz20 hBz20 ⊢
        refine wpAnyH_ready (rs := [6]) (by kernel_rfl) (by simp) ?_
        refine (AllReadyH.cons (o := ?pz21) ?oz21 (fun K hK => ?wz21) AllReadyH.nil)
        case oz21 => (simp only [List.getElem?_toArray, List.getElem?_cons_succ, List.getElem?_cons_zero]; rfl)
        case wz21 =>
          rw [if_pos (by rfl)]
          go_simp
          have hgz22 := kpA wz20 #[.string ⟨#[]⟩, .int .u32 0, .bool false, .bool false, .bool false, .int .i64 0, .int .i64 0, .bool false] 62
          have fz23 := hBz20.kp hgz22
          have hBz22 := Blk.new wz20 #[.string ⟨#[]⟩, .int .u32 0, .bool false, .bool false, .bool false, .int .i64 0, .int .i64 0, .bool false] 62
          have ltz22 := EAt.lts (o := o) hz20
          have nez22 := (hBz20).lt
          refine hK.out _ _ (EAt.kp (o := o) hz20 hgz22) (fun hz22 => ?_)
          clear hK K hgz22
          generalize wz20.alloc (.cells #[.string ⟨#[]⟩, .int .u32 0, .bool false, .bool false, .bool false, .int .i64 0, .int .i64 0, .bool false] 62) = wz22 at hz22 fz23 hBz22 ⊢
          refine wpAnyH_ready (rs := [8]) (by kernel_rfl) (by simp) ?_
          refine (AllReadyH.cons (o := ?pz24) ?oz24 (fun K hK => ?wz24) AllReadyH.nil)
          case oz24 => (simp only [List.getElem?_toArray, List.getElem?_cons_succ, List.getElem?_cons_zero]; rfl)
          case wz24 =>
            rw [if_pos (by rfl)]
            refine wp_store_row 62 (.tmp 3) (.tmp 15) rfl (wz20.heap.size) (fmtV o) rfl rfl _ _ hBz22 (by kernel_rfl) rfl (by simp [fmtV, Value.oneCell']) ?_
            have sAz25 := Blk.setRow hBz22 (fmtV o)
            have sBz25 := Blk.setRowO fz23 (fmtV o) (show _ ≠ wz20.heap.size by omega)
            refine hK.out _ _ (EAt.set (o := o) hz22 (wz20.heap.size) (fmtV o) ltz22.1 ltz22.2.1) (fun hz25 => ?_)
            clear hK K
            generalize World.setRow wz22 (wz20.heap.size) (fmtV o) = wz25 at hz25 sAz25 sBz25 ⊢
            refine wpAnyH_ready (rs := [9]) (by kernel_rfl) (by simp) ?_
            refine (AllReadyH.cons (o := ?pz26) ?oz26 (fun K hK => ?wz26) AllReadyH.nil)
            case oz26 => (simp only [List.getElem?_toArray, List.getElem?_cons_succ, List.getElem?_cons_zero]; rfl)
            case wz26 =>
              rw [if_pos (by rfl)]
              refine wp_store_row 67 (.tmp 4) (.tmp 17) rfl (wz9.heap.size) (valV D N M I) rfl rfl _ _ sBz25 (by kernel_rfl) rfl (by simp [valV, Value.oneCell']) ?_
              have sAz27 := Blk.setRow sBz25 (valV D N M I)
              have sBz27 := Blk.setRowO sAz25 (valV D N M I) (show _ ≠ wz9.heap.size by omega)
              refine hK.out _ _ (EAt.set (o := o) hz25 (wz9.heap.size) (valV D N M I) ltz20.1 ltz20.2.1) (fun hz27 => ?_)
              clear hK K
              generalize World.setRow wz25 (wz9.heap.size) (valV D N M I) = wz27 at hz27 sAz27 sBz27 ⊢
              refine wpAnyH_done (by kernel_rfl) ?_ _
              go_wp2_with fail
              go_meet
              case rel => exact ⟨_, _, rfl, rfl, sBz27, sAz27, (EAt.lts (o := o) hz27).2.2⟩
    case wz7 =>
      rw [if_pos (by rfl)]
      go_simp
      have hgz28 := kpA w0 #[.string ⟨#[]⟩, .int .u32 0, .bool false, .bool false, .bool false, .int .i64 0, .int .i64 0, .bool false] 62
      have hBz28 := Blk.new w0 #[.string ⟨#[]⟩, .int .u32 0, .bool false, .bool false, .bool false, .int .i64 0, .int .i64 0, .bool false] 62
      have ltz28 := EAt.lts (o := o) hHeld
      refine hK.out _ _ (EAt.kp (o := o) hHeld hgz28) (fun hz28 => ?_)
      clear hK K hgz28
      generalize w0.alloc (.cells #[.string ⟨#[]⟩, .int .u32 0, .bool false, .bool false, .bool false, .int .i64 0, .int .i64 0, .bool false] 62) = wz28 at hz28 hBz28 ⊢
      refine wpAnyH_ready (rs := [5, 7]) (by kernel_rfl) (by simp) ?_
      refine (AllReadyH.cons (o := ?pz29) ?oz29 (fun K hK => ?wz29) (AllReadyH.cons (o := ?pz30) ?oz30 (fun K hK => ?wz30) AllReadyH.nil))
      case oz29 => (simp only [List.getElem?_toArray, List.getElem?_cons_succ, List.getElem?_cons_zero]; rfl)
      case oz30 => (simp only [List.getElem?_toArray, List.getElem?_cons_succ, List.getElem?_cons_zero]; rfl)
      case wz29 =>
        rw [if_pos (by rfl)]
        go_simp
        refine (HV.out _).mono ?_; rintro e wz31 ⟨rfl, hgz31⟩
        (try go_wp2_with fail)
        have fz32 := hBz28.kp hgz31
        refine hK.out _ _ (EAt.kp (o := o) hz28 hgz31) (fun hz31 => ?_)
        clear hK K hgz31
        refine wpAnyH_ready (rs := [7]) (by kernel_rfl) (by simp) ?_
        refine (AllReadyH.cons (o := ?pz33) ?oz33 (fun K hK => ?wz33) AllReadyH.nil)
        case oz33 => (simp only [List.getElem?_toArray, List.getElem?_cons_succ, List.getElem?_cons_zero]; rfl)
        case wz33 =>
          rw [if_pos (by rfl)]
          go_simp
          have hgz34 := kpA wz31 #[.int .i64 0, .int .i64 0, .int .i64 0, .int .i64 0] 67
          have fz35 := fz32.kp hgz34
          have hBz34 := Blk.new wz31 #[.int .i64 0, .int .i64 0, .int .i64 0, .int .i64 0] 67
          have ltz34 := EAt.lts (o := o) hz31
          have nez34 := (fz32).lt
          refine hK.out _ _ (EAt.kp (o := o) hz31 hgz34) (fun hz34 => ?_)
          clear hK K hgz34
          generalize wz31.alloc (.cells #[.int .i64 0, .int .i64 0, .int .i64 0, .int .i64 0] 67) = wz34 at hz34 fz35 hBz34 ⊢
          refine wpAnyH_ready (rs := [8]) (by kernel_rfl) (by simp) ?_
          refine (AllReadyH.cons (o := ?pz36) ?oz36 (fun K hK => ?wz36) AllReadyH.nil)
          case oz36 => (simp only [List.getElem?_toArray, List.getElem?_cons_succ, List.getElem?_cons_zero]; rfl)
          case wz36 =>
            rw [if_pos (by rfl)]
            refine wp_store_row 62 (.tmp 3) (.tmp 15) rfl (w0.heap.size) (fmtV o) rfl rfl _ _ fz35 (by kernel_rfl) rfl (by simp [fmtV, Value.oneCell']) ?_
            have sAz37 := Blk.setRow fz35 (fmtV o)
            have sBz37 := Blk.setRowO hBz34 (fmtV o) (show _ ≠ w0.heap.size by omega)
            refine hK.out _ _ (EAt.set (o := o) hz34 (w0.heap.size) (fmtV o) ltz28.1 ltz28.2.1) (fun hz37 => ?_)
            clear hK K
            generalize World.setRow wz34 (w0.heap.size) (fmtV o) = wz37 at hz37 sAz37 sBz37 ⊢
            refine wpAnyH_ready (rs := [9]) (by kernel_rfl) (by simp) ?_
            refine (AllReadyH.cons (o := ?pz38) ?oz38 (fun K hK => ?wz38) AllReadyH.nil)
            case oz38 => (simp only [List.getElem?_toArray, List.getElem?_cons_succ, List.getElem?_cons_zero]; rfl)
            case wz38 =>
              rw [if_pos (by rfl)]
              refine wp_store_row 67 (.tmp 4) (.tmp 17) rfl (wz31.heap.size) (valV D N M I) rfl rfl _ _ sBz37 (by kernel_rfl) rfl (by simp [valV, Value.oneCell']) ?_
              have sAz39 := Blk.setRow sBz37 (valV D N M I)
              have sBz39 := Blk.setRowO sAz37 (valV D N M I) (show _ ≠ wz31.heap.size by omega)
              refine hK.out _ _ (EAt.set (o := o) hz37 (wz31.heap.size) (valV D N M I) ltz34.1 ltz34.2.1) (fun hz39 => ?_)
              clear hK K
              generalize World.setRow wz37 (wz31.heap.size) (valV D N M I) = wz39 at hz39 sAz39 sBz39 ⊢
              refine wpAnyH_done (by kernel_rfl) ?_ _
              go_wp2_with fail
              go_meet
              case rel => exact ⟨_, _, rfl, rfl, sBz39, sAz39, (EAt.lts (o := o) hz39).2.2⟩
      case wz30 =>
        rw [if_pos (by rfl)]
        go_simp
        have hgz40 := kpA wz28 #[.int .i64 0, .int .i64 0, .int .i64 0, .int .i64 0] 67
        have fz41 := hBz28.kp hgz40
        have hBz40 := Blk.new wz28 #[.int .i64 0, .int .i64 0, .int .i64 0, .int .i64 0] 67
        have ltz40 := EAt.lts (o := o) hz28
        have nez40 := (hBz28).lt
        refine hK.out _ _ (EAt.kp (o := o) hz28 hgz40) (fun hz40 => ?_)
        clear hK K hgz40
        generalize wz28.alloc (.cells #[.int .i64 0, .int .i64 0, .int .i64 0, .int .i64 0] 67) = wz40 at hz40 fz41 hBz40 ⊢
        refine wpAnyH_ready (rs := [5]) (by kernel_rfl) (by simp) ?_
        refine (AllReadyH.cons (o := ?pz42) ?oz42 (fun K hK => ?wz42) AllReadyH.nil)
        case oz42 => (simp only [List.getElem?_toArray, List.getElem?_cons_succ, List.getElem?_cons_zero]; rfl)
        case wz42 =>
          rw [if_pos (by rfl)]
          go_simp
          refine (HV.out _).mono ?_; rintro e wz43 ⟨rfl, hgz43⟩
          (try go_wp2_with fail)
          have fz44 := fz41.kp hgz43
          have fz45 := hBz40.kp hgz43
          refine hK.out _ _ (EAt.kp (o := o) hz40 hgz43) (fun hz43 => ?_)
          clear hK K hgz43
          refine wpAnyH_ready (rs := [8]) (by kernel_rfl) (by simp) ?_
          refine (AllReadyH.cons (o := ?pz46) ?oz46 (fun K hK => ?wz46) AllReadyH.nil)
          case oz46 => (simp only [List.getElem?_toArray, List.getElem?_cons_succ, List.getElem?_cons_zero]; rfl)
          case wz46 =>
            rw [if_pos (by rfl)]
            refine wp_store_row 62 (.tmp 3) (.tmp 15) rfl (w0.heap.size) (fmtV o) rfl rfl _ _ fz44 (by kernel_rfl) rfl (by simp [fmtV, Value.oneCell']) ?_
            have sAz47 := Blk.setRow fz44 (fmtV o)
            have sBz47 := Blk.setRowO fz45 (fmtV o) (show _ ≠ w0.heap.size by omega)
            refine hK.out _ _ (EAt.set (o := o) hz43 (w0.heap.size) (fmtV o) ltz28.1 ltz28.2.1) (fun hz47 => ?_)
            clear hK K
            generalize World.setRow wz43 (w0.heap.size) (fmtV o) = wz47 at hz47 sAz47 sBz47 ⊢
            refine wpAnyH_ready (rs := [9]) (by kernel_rfl) (by simp) ?_
            refine (AllReadyH.cons (o := ?pz48) ?oz48 (fun K hK => ?wz48) AllReadyH.nil)
            case oz48 => (simp only [List.getElem?_toArray, List.getElem?_cons_succ, List.getElem?_cons_zero]; rfl)
            case wz48 =>
              rw [if_pos (by rfl)]
              refine wp_store_row 67 (.tmp 4) (.tmp 17) rfl (wz28.heap.size) (valV D N M I) rfl rfl _ _ sBz47 (by kernel_rfl) rfl (by simp [valV, Value.oneCell']) ?_
              have sAz49 := Blk.setRow sBz47 (valV D N M I)
              have sBz49 := Blk.setRowO sAz47 (valV D N M I) (show _ ≠ wz28.heap.size by omega)
              refine hK.out _ _ (EAt.set (o := o) hz47 (wz28.heap.size) (valV D N M I) ltz40.1 ltz40.2.1) (fun hz49 => ?_)
              clear hK K
              generalize World.setRow wz47 (wz28.heap.size) (valV D N M I) = wz49 at hz49 sAz49 sBz49 ⊢
              refine wpAnyH_done (by kernel_rfl) ?_ _
              go_wp2_with fail
              go_meet
              case rel => exact ⟨_, _, rfl, rfl, sBz49, sAz49, (EAt.lts (o := o) hz49).2.2⟩
    case wz8 =>
      rw [if_pos (by rfl)]
      go_simp
      have hgz50 := kpA w0 #[.int .i64 0, .int .i64 0, .int .i64 0, .int .i64 0] 67
      have hBz50 := Blk.new w0 #[.int .i64 0, .int .i64 0, .int .i64 0, .int .i64 0] 67
      have ltz50 := EAt.lts (o := o) hHeld
      refine hK.out _ _ (EAt.kp (o := o) hHeld hgz50) (fun hz50 => ?_)
      clear hK K hgz50
      generalize w0.alloc (.cells #[.int .i64 0, .int .i64 0, .int .i64 0, .int .i64 0] 67) = wz50 at hz50 hBz50 ⊢
      refine wpAnyH_ready (rs := [5, 6]) (by kernel_rfl) (by simp) ?_
      refine (AllReadyH.cons (o := ?pz51) ?oz51 (fun K hK => ?wz51) (AllReadyH.cons (o := ?pz52) ?oz52 (fun K hK => ?wz52) AllReadyH.nil))
      case oz51 => (simp only [List.getElem?_toArray, List.getElem?_cons_succ, List.getElem?_cons_zero]; rfl)
      case oz52 => (simp only [List.getElem?_toArray, List.getElem?_cons_succ, List.getElem?_cons_zero]; rfl)
      case wz51 =>
        rw [if_pos (by rfl)]
        go_simp
        refine (HV.out _).mono ?_; rintro e wz53 ⟨rfl, hgz53⟩
        (try go_wp2_with fail)
        have fz54 := hBz50.kp hgz53
        refine hK.out _ _ (EAt.kp (o := o) hz50 hgz53) (fun hz53 => ?_)
        clear hK K hgz53
        refine wpAnyH_ready (rs := [6]) (by kernel_rfl) (by simp) ?_
        refine (AllReadyH.cons (o := ?pz55) ?oz55 (fun K hK => ?wz55) AllReadyH.nil)
        case oz55 => (simp only [List.getElem?_toArray, List.getElem?_cons_succ, List.getElem?_cons_zero]; rfl)
        case wz55 =>
          rw [if_pos (by rfl)]
          go_simp
          have hgz56 := kpA wz53 #[.string ⟨#[]⟩, .int .u32 0, .bool false, .bool false, .bool false, .int .i64 0, .int .i64 0, .bool false] 62
          have fz57 := fz54.kp hgz56
          have hBz56 := Blk.new wz53 #[.string ⟨#[]⟩, .int .u32 0, .bool false, .bool false, .bool false, .int .i64 0, .int .i64 0, .bool false] 62
          have ltz56 := EAt.lts (o := o) hz53
          have nez56 := (fz54).lt
          refine hK.out _ _ (EAt.kp (o := o) hz53 hgz56) (fun hz56 => ?_)
          clear hK K hgz56
          generalize wz53.alloc (.cells #[.string ⟨#[]⟩, .int .u32 0, .bool false, .bool false, .bool false, .int .i64 0, .int .i64 0, .bool false] 62) = wz56 at hz56 fz57 hBz56 ⊢
          refine wpAnyH_ready (rs := [8]) (by kernel_rfl) (by simp) ?_
          refine (AllReadyH.cons (o := ?pz58) ?oz58 (fun K hK => ?wz58) AllReadyH.nil)
          case oz58 => (simp only [List.getElem?_toArray, List.getElem?_cons_succ, List.getElem?_cons_zero]; rfl)
          case wz58 =>
            rw [if_pos (by rfl)]
            refine wp_store_row 62 (.tmp 3) (.tmp 15) rfl (wz53.heap.size) (fmtV o) rfl rfl _ _ hBz56 (by kernel_rfl) rfl (by simp [fmtV, Value.oneCell']) ?_
            have sAz59 := Blk.setRow hBz56 (fmtV o)
            have sBz59 := Blk.setRowO fz57 (fmtV o) (show _ ≠ wz53.heap.size by omega)
            refine hK.out _ _ (EAt.set (o := o) hz56 (wz53.heap.size) (fmtV o) ltz56.1 ltz56.2.1) (fun hz59 => ?_)
            clear hK K
            generalize World.setRow wz56 (wz53.heap.size) (fmtV o) = wz59 at hz59 sAz59 sBz59 ⊢
            refine wpAnyH_ready (rs := [9]) (by kernel_rfl) (by simp) ?_
            refine (AllReadyH.cons (o := ?pz60) ?oz60 (fun K hK => ?wz60) AllReadyH.nil)
            case oz60 => (simp only [List.getElem?_toArray, List.getElem?_cons_succ, List.getElem?_cons_zero]; rfl)
            case wz60 =>
              rw [if_pos (by rfl)]
              refine wp_store_row 67 (.tmp 4) (.tmp 17) rfl (w0.heap.size) (valV D N M I) rfl rfl _ _ sBz59 (by kernel_rfl) rfl (by simp [valV, Value.oneCell']) ?_
              have sAz61 := Blk.setRow sBz59 (valV D N M I)
              have sBz61 := Blk.setRowO sAz59 (valV D N M I) (show _ ≠ w0.heap.size by omega)
              refine hK.out _ _ (EAt.set (o := o) hz59 (w0.heap.size) (valV D N M I) ltz50.1 ltz50.2.1) (fun hz61 => ?_)
              clear hK K
              generalize World.setRow wz59 (w0.heap.size) (valV D N M I) = wz61 at hz61 sAz61 sBz61 ⊢
              refine wpAnyH_done (by kernel_rfl) ?_ _
              go_wp2_with fail
              go_meet
              case rel => exact ⟨_, _, rfl, rfl, sBz61, sAz61, (EAt.lts (o := o) hz61).2.2⟩
      case wz52 =>
        rw [if_pos (by rfl)]
        go_simp
        have hgz62 := kpA wz50 #[.string ⟨#[]⟩, .int .u32 0, .bool false, .bool false, .bool false, .int .i64 0, .int .i64 0, .bool false] 62
        have fz63 := hBz50.kp hgz62
        have hBz62 := Blk.new wz50 #[.string ⟨#[]⟩, .int .u32 0, .bool false, .bool false, .bool false, .int .i64 0, .int .i64 0, .bool false] 62
        have ltz62 := EAt.lts (o := o) hz50
        have nez62 := (hBz50).lt
        refine hK.out _ _ (EAt.kp (o := o) hz50 hgz62) (fun hz62 => ?_)
        clear hK K hgz62
        generalize wz50.alloc (.cells #[.string ⟨#[]⟩, .int .u32 0, .bool false, .bool false, .bool false, .int .i64 0, .int .i64 0, .bool false] 62) = wz62 at hz62 fz63 hBz62 ⊢
        refine wpAnyH_ready (rs := [5]) (by kernel_rfl) (by simp) ?_
        refine (AllReadyH.cons (o := ?pz64) ?oz64 (fun K hK => ?wz64) AllReadyH.nil)
        case oz64 => (simp only [List.getElem?_toArray, List.getElem?_cons_succ, List.getElem?_cons_zero]; rfl)
        case wz64 =>
          rw [if_pos (by rfl)]
          go_simp
          refine (HV.out _).mono ?_; rintro e wz65 ⟨rfl, hgz65⟩
          (try go_wp2_with fail)
          have fz66 := fz63.kp hgz65
          have fz67 := hBz62.kp hgz65
          refine hK.out _ _ (EAt.kp (o := o) hz62 hgz65) (fun hz65 => ?_)
          clear hK K hgz65
          refine wpAnyH_ready (rs := [8]) (by kernel_rfl) (by simp) ?_
          refine (AllReadyH.cons (o := ?pz68) ?oz68 (fun K hK => ?wz68) AllReadyH.nil)
          case oz68 => (simp only [List.getElem?_toArray, List.getElem?_cons_succ, List.getElem?_cons_zero]; rfl)
          case wz68 =>
            rw [if_pos (by rfl)]
            refine wp_store_row 62 (.tmp 3) (.tmp 15) rfl (wz50.heap.size) (fmtV o) rfl rfl _ _ fz67 (by kernel_rfl) rfl (by simp [fmtV, Value.oneCell']) ?_
            have sAz69 := Blk.setRow fz67 (fmtV o)
            have sBz69 := Blk.setRowO fz66 (fmtV o) (show _ ≠ wz50.heap.size by omega)
            refine hK.out _ _ (EAt.set (o := o) hz65 (wz50.heap.size) (fmtV o) ltz62.1 ltz62.2.1) (fun hz69 => ?_)
            clear hK K
            generalize World.setRow wz65 (wz50.heap.size) (fmtV o) = wz69 at hz69 sAz69 sBz69 ⊢
            refine wpAnyH_ready (rs := [9]) (by kernel_rfl) (by simp) ?_
            refine (AllReadyH.cons (o := ?pz70) ?oz70 (fun K hK => ?wz70) AllReadyH.nil)
            case oz70 => (simp only [List.getElem?_toArray, List.getElem?_cons_succ, List.getElem?_cons_zero]; rfl)
            case wz70 =>
              rw [if_pos (by rfl)]
              refine wp_store_row 67 (.tmp 4) (.tmp 17) rfl (w0.heap.size) (valV D N M I) rfl rfl _ _ sBz69 (by kernel_rfl) rfl (by simp [valV, Value.oneCell']) ?_
              have sAz71 := Blk.setRow sBz69 (valV D N M I)
              have sBz71 := Blk.setRowO sAz69 (valV D N M I) (show _ ≠ w0.heap.size by omega)
              refine hK.out _ _ (EAt.set (o := o) hz69 (w0.heap.size) (valV D N M I) ltz50.1 ltz50.2.1) (fun hz71 => ?_)
              clear hK K
              generalize World.setRow wz69 (w0.heap.size) (valV D N M I) = wz71 at hz71 sAz71 sBz71 ⊢
              refine wpAnyH_done (by kernel_rfl) ?_ _
              go_wp2_with fail
              go_meet
              case rel => exact ⟨_, _, rfl, rfl, sBz71, sAz71, (EAt.lts (o := o) hz71).2.2⟩
  case rest =>
  obtain ⟨B1, B2, rfl, rfl, hb1, hb2, hkw⟩ := hcut
  have HF1 := Lib.hid hb1
  have HV1 := Lib.hid hb2
  have HK1 := Lib.hid hkw
  clear hb1 hb2 hkw HB0
  go_wp2_with (first | (refine wpList_load_row rfl 62 (.tmp 3) rfl B1 rfl _ _ _ _ HF1.out Tryd.underlying62 rfl (by kernel_rfl) ?_) | (go_at_call 25; refine (parts_any7 o _).mono ?_; rintro e w0 ⟨rfl, hg⟩; have H0 : Hid (Blk w0 B1 (fmtV o) 62 ∧ Blk w0 B2 (valV D N M I) 67 ∧ Kp w w0) := Lib.hid ⟨HF1.out.kp hg, HV1.out.kp hg, HK1.out.trans hg⟩; clear hg))
  have HPW : Hid (PowOk w0) := Lib.hid (HP.out.kp H0.out.2.2)
  clear HF1 HV1 HK1
  obtain ⟨ii0, hi0, hz0, hz1, hz2⟩ := info_parts str_info
  go_loopw [5, 6, 7, 20] (fun l s6 s7 x wr => ∃ k : Nat, k ≤ 4 ∧ x = .int .i64 k ∧ OwnsS wr w0.heap.size l (prtTo o D N M I k) ∧ Kp w0 wr) (fun _ _ _ x _ => 4 - (intOf x).toNat)
  case atStart => exact ⟨0, by omega, rfl, OwnsS.nil _ _, Kp.refl _⟩
  case round =>
    obtain ⟨k, hk4, rfl, hown, hk⟩ := hrel
    obtain ⟨w3, rfl⟩ : ∃ w3, w3 = wr := ⟨_, rfl⟩
    have HOW := Lib.hid hown
    have HK := Lib.hid hk
    clear hown hk
    by_cases h4 : k = 4
    · subst h4
      clear hk4
      have hs4 := prtTo_small o D N M I HG.out 4 (Nat.le_refl _)
      have hl4 := prtTo_len o D N M I 4
      have HT4 : Hid (txtO o D N M I = nmL o ++ tailL (prtTo o D N M I 4)) := Lib.hid (by rw [prtTo_all]; rfl)
      generalize prtTo o D N M I 4 = ss at HOW hs4 hl4 HT4
      have hc0 : w3.cell? ⟨B1, 0, none⟩ = some (.string (strB (nmL o))) := (H0.out.1.kp HK.out).cell 0
      cases ss with
      | nil =>
        rcases HOW.out.parts with ⟨rfl, -⟩ | ⟨gb, cap, rfl, -⟩
        · go_wp2
          go_ret
          exact ⟨ret_str (by rw [HT4.out]; simp [tailL]), H0.out.2.2.trans HK.out⟩
        · simp only [List.length_nil]
          go_wp2
          go_ret
          exact ⟨ret_str (by rw [HT4.out]; simp [tailL]), H0.out.2.2.trans HK.out⟩
      | cons s0 sr =>
        rcases HOW.out.parts with ⟨-, hx⟩ | ⟨gb, cap, rfl, hgl, hcap, hcells⟩
        · cases hx
        · have hjl : (Lib.join (s0 :: sr) [44]).length ≤ 100 := by
            have := join_len (s0 :: sr) hs4
            omega
          have HJ := Lib.hid (fun W (hk : Kp w3 W) => join_any W gb cap (s0 :: sr) (fun j s h => (hk.cell hgl).trans (hcells j s h)) (Nat.lt_of_lt_of_le hgl hk.size) hcap (by omega) (by omega))
          have HT5 : Hid (txtO o D N M I = nmL o ++ [32] ++ Lib.join (s0 :: sr) [44]) := Lib.hid (HT4.out.trans (by rw [show tailL (s0 :: sr) = [32] ++ Lib.join (s0 :: sr) [44] from rfl, ← List.append_assoc]))
          have hn0 : (((s0 :: sr).length : Nat) : Int) = ((sr.length + 1 : Nat) : Int) := rfl
          generalize (s0 :: sr).length = nn at HJ hn0 ⊢
          have hn1 : ((nn : Int) == 0) = false := by simp; omega
          generalize Lib.join (s0 :: sr) [44] = JJ at HJ hjl HT5
          have hln := nm_len o HO.out
          generalize nmL o = NM at hc0 hln HT5
          obtain ⟨s1, hs1, a1⟩ := add_any NM [32] (by simp only [List.length_cons, List.length_nil]; omega)
          obtain ⟨s2, hs2, a2⟩ := add_any (NM ++ [32]) JJ (by simp only [List.length_append, List.length_cons, List.length_nil]; omega)
          rw [← hs1] at a2
          have a1 : ∀ w, (Op.stringOp .add (strB NM) ⟨#[32]⟩).run Tryd.prog w = .ok (.string s1) w := a1
          have HS2 := Lib.hid (hs2.trans (congrArg strB HT5.out.symm))
          have HS0 : Hid (TxAt w3 w3 B1 0 (.string (strB NM))) := Lib.hid ⟨hc0, Kp.refl _⟩
          have HB1 : Hid (B1 < w3.heap.size) := Lib.hid (Nat.lt_of_lt_of_le H0.out.1.lt HK.out.size)
          clear hs4 hl4 hcells hjl hln hs1 hs2 hgl hcap hn0 HT4 HOW
          go_wp2_with fail
          go_region_held3 (fun w' => w'.cell? ⟨B1, 0, none⟩ = some (.string (strB NM)) ∧ Kp w3 w')
            (first | exact HS0.out.drew HB1.out | assumption | exact TxAt.drew (by assumption) HB1.out)
            (first | (go_at_call 28; rename_i hh _ _; refine (HJ.out _ hh.2).mono ?_; rintro e w' ⟨rfl, hg⟩; have hh' := TxAt.kp hh HB1.out hg; clear hh hg))
          rename_i hh
          have HH := Lib.hid hh.2
          clear hh
          go_wp2
          go_ret
          exact ⟨ret_str HS2.out, H0.out.2.2.trans (HK.out.trans HH.out)⟩
    · have hk3 : k < 4 := by omega
      have k0 : (0 : Int) ≤ (k : Int) := by omega
      have k1 : (k : Int) < 4 := by omega
      have HK3 := Lib.hid hk3
      have hidx : ∀ w, (Instr.index 70 (.agg (prtV o)) (.int .i64 k)).run Tryd.prog w = .ok (.agg #[.int .i64 (pLo o k), .int .i64 (pWd o k), .bool (pS o k)]) w := prt_at o k hk3
      clear hk4 h4 hk3
      by_cases hw : pWd o k = 0
      · have HU := Lib.hid (prtTo_no (d := D) (n := N) (m := M) (imm := I) hw)
        have e0 : ((pWd o k : Nat) : Int) = 0 := by omega
        clear hw
        go_wp2_with fail
        go_roundw
        case rel => exact ⟨k + 1, by have := HK3.out; omega, by go_num, HU.out ▸ HOW.out.kp (kpA _ _ _), HK.out.trans (kpA _ _ _)⟩
        case measure => have := HK3.out; simp [intOf]; omega
      · have HU := Lib.hid (prtTo_yes (d := D) (n := N) (m := M) (imm := I) hw)
        have e0 : (0 : Int) < ((pWd o k : Nat) : Int) := by omega
        clear hw
        have hvb := sums_len o D N M I HG.out k HK3.out
        have HFM := Lib.hid (fun W (hk : Kp w0 W) => fmt_any (vAt D N M I k) (by omega) (by omega) W (HPW.out.kp hk))
        have HAH := Lib.hid (fun W => ahead_kp k W HK3.out)
        have hi14 := itoa_len (vAt D N M I k) hvb.1 hvb.2
        have hah : (aheadL k).length ≤ 1 := by unfold aheadL; split <;> simp
        have HM := Lib.hid (fits16 (n := (prtTo o D N M I k).length) (by have := prtTo_len o D N M I k; have := HK3.out; omega))
        have HVA := Lib.hid (valV_at D N M I k HK3.out)
        generalize Lib.itoa (vAt D N M I k) = LV at HFM hi14 HU
        generalize aheadL k = LA at HAH hah HU
        obtain ⟨s1, hs1, a1⟩ := add_any LA LV (by omega)
        have HS1 := Lib.hid hs1
        clear hvb hi14 hah hs1
        have HOW1 : Hid (OwnsS (w3.alloc (.cells #[.int .i64 (pLo o k), .int .i64 (pWd o k), .bool (pS o k)] 60)).drew w0.heap.size u5 (prtTo o D N M I k)) := Lib.hid (HOW.out.kp ((kpA _ _ _).drew))
        have HK1 : Hid (Kp w0 (w3.alloc (.cells #[.int .i64 (pLo o k), .int .i64 (pWd o k), .bool (pS o k)] 60)).drew) := Lib.hid (HK.out.trans ((kpA _ _ _).drew))
        go_wp2_with fail
        refine wp_region_held_drew (S := fun w' => w'.cell? ⟨B2, k, none⟩ = some (.int .i64 (vAt D N M I k)) ∧ Kp w0 w') (by kernel_rfl) (TxAt.of H0.out.2.1 HK1.out HVA.out) (fun hHeld => ?_)
        have hown0 := HOW1.out
        clear HOW1 HK1
        generalize World.drew _ = wz at hHeld hown0 ⊢
        refine wpAnyH_take (i := 0) (oi := ?p0z1001) (v := ?v0z1001) ?o0z1001 (by kernel_rfl) (by kernel_rfl) (by kernel_rfl) ?q0z1001 ?y0z1001 (by assumption) ?r0z1001
        case o0z1001 => (simp only [List.getElem?_toArray, List.getElem?_cons_zero]; rfl)
        case q0z1001 => (exact fun _ _ _ h => h)
        case y0z1001 => (refine Or.inl ⟨by rfl, ?_⟩; intro w hSw; (try dsimp only at hSw); go_simp; (try with_reducible rfl))
        simp only [Act.put, List.setIfInBounds_toArray, List.set_cons_zero, List.set_cons_succ]
        refine wpAnyH_take (i := 1) (oi := ?p1z1002) (v := ?v1z1002) ?o1z1002 (by kernel_rfl) (by kernel_rfl) (by kernel_rfl) ?q1z1002 ?y1z1002 (by assumption) ?r1z1002
        case o1z1002 => (simp only [List.getElem?_toArray, List.getElem?_cons_succ, List.getElem?_cons_zero]; rfl)
        case q1z1002 => (exact fun _ _ _ h => h)
        case y1z1002 => (refine Or.inl ⟨by rfl, ?_⟩; intro w hSw; (try dsimp only at hSw); go_simp; (try with_reducible rfl))
        simp only [Act.put, List.setIfInBounds_toArray, List.set_cons_zero, List.set_cons_succ]
        refine wpAnyH_take (i := 3) (oi := ?p3z1003) (v := ?v3z1003) ?o3z1003 (by kernel_rfl) (by kernel_rfl) (by kernel_rfl) ?q3z1003 ?y3z1003 (by assumption) ?r3z1003
        case o3z1003 => (simp only [List.getElem?_toArray, List.getElem?_cons_succ, List.getElem?_cons_zero]; rfl)
        case q3z1003 => (exact fun _ _ _ h => h)
        case y3z1003 => (refine Or.inl ⟨by rfl, ?_⟩; intro w hSw; (try dsimp only at hSw); go_simp; (try with_reducible rfl))
        simp only [Act.put, List.setIfInBounds_toArray, List.set_cons_zero, List.set_cons_succ]
        refine wpAnyH_take (i := 4) (oi := ?p4z1004) (v := ?v4z1004) ?o4z1004 (by kernel_rfl) (by kernel_rfl) (by kernel_rfl) ?q4z1004 ?y4z1004 (by assumption) ?r4z1004
        case o4z1004 => (simp only [List.getElem?_toArray, List.getElem?_cons_succ, List.getElem?_cons_zero]; rfl)
        case q4z1004 => (exact fun _ _ _ h => h)
        case y4z1004 => (refine Or.inl ⟨by rfl, ?_⟩; intro w hSw; (try dsimp only at hSw); go_simp; (try with_reducible rfl))
        simp only [Act.put, List.setIfInBounds_toArray, List.set_cons_zero, List.set_cons_succ]
        refine wpAnyH_take (i := 5) (oi := ?p5z1005) (v := ?v5z1005) ?o5z1005 (by kernel_rfl) (by kernel_rfl) (by kernel_rfl) ?q5z1005 ?y5z1005 (by assumption) ?r5z1005
        case o5z1005 => (simp only [List.getElem?_toArray, List.getElem?_cons_succ, List.getElem?_cons_zero]; rfl)
        case q5z1005 => (exact fun _ _ _ h => h)
        case y5z1005 => (refine Or.inl ⟨by rfl, ?_⟩; intro w hSw; (try dsimp only at hSw); go_simp; (try with_reducible rfl))
        simp only [Act.put, List.setIfInBounds_toArray, List.set_cons_zero, List.set_cons_succ]
        refine wpAnyH_ready (rs := [2]) (by kernel_rfl) (by simp) ?_
        refine (AllReadyH.cons (o := ?pz1006) ?oz1006 (fun K hK => ?wz1006) AllReadyH.nil)
        case oz1006 => (simp only [List.getElem?_toArray, List.getElem?_cons_succ, List.getElem?_cons_zero]; rfl)
        case wz1006 =>
          rw [if_pos (by rfl)]
          go_simp
          refine (HAH.out _).mono ?_; rintro e wz1007 ⟨rfl, hgz1007⟩
          (try go_wp2_with fail)
          have fz1008 := hown0.kp hgz1007
          refine hK.out _ _ (TxAt.kp hHeld (Nat.lt_of_lt_of_le H0.out.2.1.lt (Kp.size (hHeld).2)) hgz1007) (fun hz1007 => ?_)
          clear hK K hgz1007
          refine wpAnyH_ready (rs := [6]) (by kernel_rfl) (by simp) ?_
          refine (AllReadyH.cons (o := ?pz1009) ?oz1009 (fun K hK => ?wz1009) AllReadyH.nil)
          case oz1009 => (simp only [List.getElem?_toArray, List.getElem?_cons_succ, List.getElem?_cons_zero]; rfl)
          case wz1009 =>
            rw [if_pos (by rfl)]
            go_simp
            refine (HFM.out _ (hz1007).2).mono ?_; rintro e wz1010 ⟨rfl, hgz1010⟩
            (try go_wp2_with fail)
            have fz1011 := fz1008.kp hgz1010
            refine hK.out _ _ (TxAt.kp hz1007 (Nat.lt_of_lt_of_le H0.out.2.1.lt (Kp.size (hz1007).2)) hgz1010) (fun hz1010 => ?_)
            clear hK K hgz1010
            refine wpAnyH_take (i := 7) (oi := ?p7z1012) (v := ?v7z1012) ?o7z1012 (by kernel_rfl) (by kernel_rfl) (by kernel_rfl) ?q7z1012 ?y7z1012 (by assumption) ?r7z1012
            case o7z1012 => (simp only [List.getElem?_toArray, List.getElem?_cons_succ, List.getElem?_cons_zero]; rfl)
            case q7z1012 => (exact fun _ _ _ h => h)
            case y7z1012 => (refine Or.inl ⟨by rfl, ?_⟩; intro w hSw; (try dsimp only at hSw); go_simp; (try with_reducible rfl))
            simp only [Act.put, List.setIfInBounds_toArray, List.set_cons_zero, List.set_cons_succ]
            refine wpAnyH_ready (rs := [8]) (by kernel_rfl) (by simp) ?_
            refine (AllReadyH.cons (o := ?pz1013) ?oz1013 (fun K hK => ?wz1013) AllReadyH.nil)
            case oz1013 => (simp only [List.getElem?_toArray, List.getElem?_cons_succ, List.getElem?_cons_zero]; rfl)
            case wz1013 =>
              rw [if_pos (by rfl)]
              go_simp
              have hgz1014 := kpA wz1010 #[.string s1] 9
              have fz1015 := fz1011.kp hgz1014
              have hBz1014 := Blk.new wz1010 #[.string s1] 9
              refine hK.out _ _ (TxAt.kp hz1010 (Nat.lt_of_lt_of_le H0.out.2.1.lt (Kp.size (hz1010).2)) hgz1014) (fun hz1014 => ?_)
              clear hK K hgz1014
              generalize wz1010.alloc (.cells #[.string s1] 9) = wz1014 at hz1014 fz1015 hBz1014 ⊢
              refine wpAnyH_ready (rs := [9]) (by kernel_rfl) (by simp) ?_
              refine (AllReadyH.cons (o := ?pz1016) ?oz1016 (fun K hK => ?wz1016) AllReadyH.nil)
              case oz1016 => (simp only [List.getElem?_toArray, List.getElem?_cons_succ, List.getElem?_cons_zero]; rfl)
              case wz1016 =>
                rw [if_pos (by rfl)]
                refine wp_append_own _ (.tmp 27) (.tmp 35) 69 rfl w0.heap.size 9 ii0 _ 1 16 Tryd.underlying69 hi0 hz0 hz1 hz2 rfl (by decide) _ _ _ rfl fz1015 ⟨wz1010.heap.size, 0, none⟩ 1 1 [.string s1] rfl rfl (news_one hBz1014) (one_str s1) HM.out.1 HM.out.2 (Kp.size (hz1014).2) ?_
                intro v' wz1017 hown1 hg1 hn1
                rw [HS1.out] at hown1
                have hst := OwnsS.step (hz1014).2 fz1015 hown1 hg1
                clear hown1 hg1 hn1
                refine hK.out _ _ (TxAt.of H0.out.2.1 hst.2 HVA.out) (fun hz1017 => ?_)
                clear hK K
                refine wpAnyH_take (i := 10) (oi := ?p10z1018) (v := ?v10z1018) ?o10z1018 (by kernel_rfl) (by kernel_rfl) (by kernel_rfl) ?q10z1018 ?y10z1018 (by assumption) ?r10z1018
                case o10z1018 => (simp only [List.getElem?_toArray, List.getElem?_cons_succ, List.getElem?_cons_zero]; rfl)
                case q10z1018 => (exact fun _ _ _ h => h)
                case y10z1018 => (refine Or.inl ⟨by rfl, ?_⟩; intro w hSw; (try dsimp only at hSw); go_simp; (try with_reducible rfl))
                simp only [Act.put, List.setIfInBounds_toArray, List.set_cons_zero, List.set_cons_succ]
                refine wpAnyH_done (by kernel_rfl) ?_ _
                have HST := Lib.hid hst
                clear hst
                go_wp2_with fail
                go_roundw
                case rel => exact ⟨k + 1, by have := HK3.out; omega, by go_num, HU.out ▸ HST.out.1, HST.out.2⟩
                case measure => have := HK3.out; simp [intOf]; omega
end Go.Proofs.YtfbkppncaampdaaDoor
