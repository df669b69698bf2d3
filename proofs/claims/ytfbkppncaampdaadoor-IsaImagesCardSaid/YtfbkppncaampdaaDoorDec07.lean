/-
  Package isa: the decoder's rows made once. No condition but the table.
-/
import Derived.Test.YtfbkppncaampdaaDoorRows07
import Derived.Test.YtfbkppncaampdaaDoorOnce07
import Derived.Test.YtfbkppncaampdaaDoorOff
import Derived.Laws.NewBlocks
namespace Go.Proofs.YtfbkppncaampdaaDoor
open Go Go.RowKit

theorem chunk_len (f : Nat → List Value) (hf : ∀ j, (f j).length = 3) : ∀ n, ((List.range n).flatMap f).length = 3 * n
  | 0 => rfl
  | n + 1 => by
    rw [List.range_succ, List.flatMap_append, List.length_append, chunk_len f hf n]
    simp [hf]
    omega
theorem chunk_at (f : Nat → List Value) (hf : ∀ j, (f j).length = 3) : ∀ n k j, k < n → j < 3 → ((List.range n).flatMap f)[3 * k + j]? = (f k)[j]?
  | 0, k, j, hk, _ => by omega
  | n + 1, k, j, hk, hj => by
    have hl := chunk_len f hf n
    rw [List.range_succ, List.flatMap_append]
    by_cases c : k < n
    · rw [List.getElem?_append_left (by omega)]
      exact chunk_at f hf n k j c hj
    · obtain rfl : k = n := by omega
      rw [List.getElem?_append_right (by omega), hl, show 3 * k + j - 3 * k = j by omega]
      simp
theorem rowsC_at (ps : List Nat) (k j : Nat) (hk : k < ps.length) (hj : j < 3) : (rowsC ps)[3 * k + j]? = (rowC k (ps.getD k 0))[j]? :=
  chunk_at (fun j => rowC j (ps.getD j 0)) (fun _ => rfl) _ _ _ hk hj
def RowsAt (w : World) (B g cap : Nat) (ps : List Nat) : Prop := ps.length = 19 ∧ B ≤ g ∧ g < w.heap.size ∧ 19 ≤ cap ∧ (∀ k j, k < 19 → j < 3 → w.cell? ⟨g, 3 * k + j, none⟩ = (rowC k (ps.getD k 0))[j]?) ∧ Caps w B ps
theorem RowsAt.kp {w w' : World} {B g cap : Nat} {ps : List Nat} (h : RowsAt w B g cap ps) (hk : Kp w w') : RowsAt w' B g cap ps := by
  obtain ⟨h1, h2, h3, h4, h5, h6⟩ := h
  exact ⟨h1, h2, Nat.lt_of_lt_of_le h3 hk.size, h4, fun k j a b => (hk.cell h3).trans (h5 k j a b), h6.kp hk⟩
theorem cell_other (w : World) (D o b j : Nat) (v : Value) (h : b ≠ D) : (w.setCell ⟨D, o, none⟩ v).cell? ⟨b, j, none⟩ = w.cell? ⟨b, j, none⟩ :=
  World.cell?_of_block (Below.heap_setCell w ⟨D, o, none⟩ v b h)
theorem RowsAt.set {w : World} {B g cap : Nat} {ps : List Nat} (h : RowsAt w B g cap ps) (D o : Nat) (v : Value) (hD : D < B) : RowsAt (w.setCell ⟨D, o, none⟩ v) B g cap ps := by
  obtain ⟨h1, h2, h3, h4, h5, h6⟩ := h
  refine ⟨h1, h2, by simpa using h3, h4, fun k j a b => (cell_other w D o g _ v (by omega)).trans (h5 k j a b), fun j p hp hj => ?_⟩
  obtain ⟨c1, c4⟩ := h6 j p hp hj
  exact ⟨c1, c4.other (by show p ≠ D; omega) v⟩
theorem RowsAt.low {w : World} {B g cap : Nat} {ps : List Nat} (h : RowsAt w B g cap ps) : RowsAt w 0 g cap ps :=
  ⟨h.1, Nat.zero_le _, h.2.2.1, h.2.2.2.1, h.2.2.2.2.1, fun j p hp hj => ⟨Nat.zero_le _, (h.2.2.2.2.2 j p hp hj).2⟩⟩
theorem rows_is (w : World) (hF : FmtsRow w) :
    Calls Tryd.prog 48 #[] w fun e w' => ∃ g cap ps, e = .returned (.slice (some ⟨g, 0, none⟩) 19 cap) ∧ RowsAt w' w.heap.size g cap ps ∧ Kp w w' := by
  refine (rows_any w hF).mono ?_
  rintro e w' ⟨v, ps, rfl, hl, ho, hc, hk⟩
  rcases ho.2 with ⟨-, hn⟩ | ⟨g, cap, cur, rfl, hb, hg, hn, hm, hs, ht⟩
  · omega
  · have hB : Blk w' g cur 88 := hg
    refine ⟨g, cap, ps, by rw [hl], ⟨hl, hb, hB.lt, by omega, fun k j hk hj => ?_, hc⟩, hk⟩
    rw [hB.cell, ← rowsC_at ps k j (by omega) hj, ← ht, List.getElem?_take, if_pos (by omega)]
    simp
theorem load_b (a : Addr) (x : Int) (w : World) (h : w.cell? a = some (.int .u32 x)) :
    Calls Tryd.prog 58 #[.pointer (some a)] w fun e w' => e = .returned (.bool (x != 0)) ∧ w = w' := by
  have hl := run_call_load (P := Tryd.prog) Tryd.func76 (by kernel_rfl) (by kernel_rfl) (by kernel_rfl) .u32 (by kernel_rfl) h
  go_enter Tryd.func58, Tryd.ntmps58
  go_wp2
  go_ret
  exact ⟨rfl, rfl⟩
def decV (a b c : Int) (v : Value) : Array Value := #[.int .u32 a, .int .i32 b, .int .u32 c, v]
theorem Off.kp' {S : Nat → Prop} {a b c : World} (h : Off S a b) (g : Kp b c) : Off S a c := h.trans (Off.of_kp g) (Grew.refl _ _)
theorem FmtsRow.off {a b : World} {S : Nat → Prop} (h : FmtsRow a) (g : Off S a b) (hG : ¬ S 0) : FmtsRow b := by
  obtain ⟨t, fr, h⟩ := h
  exact ⟨t, fr, (g.block _ (lt_of_block h) hG).trans h⟩
def DecAt (wb w : World) (D P : Nat) (a b : Int) (v : Value) : Prop := Blk w D (decV a b 0 v) 54 ∧ Blk w P #[.pointer (some ⟨D, 0, none⟩)] 85 ∧ Off (fun k => k = D) wb w
theorem DecAt.kp {wb w w' : World} {D P : Nat} {a b : Int} {v : Value} (h : DecAt wb w D P a b v) (g : Kp w w') : DecAt wb w' D P a b v := ⟨h.1.kp g, h.2.1.kp g, h.2.2.kp' g⟩
theorem all1_any (wb w : World) (D P : Nat) (hF : FmtsRow wb) (h : DecAt wb w D P 0 1 (.slice none 0 0)) (hD : 0 ≠ D) (hne : P ≠ D) :
    Calls Tryd.prog 47 #[.pointer (some ⟨P, 0, none⟩)] w fun e w' => e = .returned (.tuple #[]) ∧ ∃ g cap ps, RowsAt w' w.heap.size g cap ps ∧ DecAt wb w' D P 0 1 (.slice (some ⟨g, 0, none⟩) 19 cap) := by
  have hp : w.drew.cell? ⟨P, 0, none⟩ = some (.pointer (some ⟨D, 0, none⟩)) := h.2.1.drew.cell 0
  have HD := Lib.hid h
  have HF := Lib.hid hF
  have HS := Lib.hid hD
  have HN := Lib.hid hne
  clear h hF hD hne
  go_enter Tryd.func47, Tryd.ntmps47
  go_wp2_with fail
  have HL : Hid (D < w.heap.size) := Lib.hid HD.out.1.lt
  refine wp_region_held_drew (S := fun w' => w'.cell? ⟨P, 0, none⟩ = some (.pointer (some ⟨D, 0, none⟩)) ∧ Off (fun k => k = D) wb w') (by kernel_rfl) ⟨hp, HD.out.2.2.kp' (Kp.refl _).drew⟩ (fun hHeld => ?_)
  have HD0 := HD.out.kp (Kp.refl w).drew
  have hsz : w.drew.heap.size = w.heap.size := rfl
  clear hp HD
  generalize World.drew _ = w0 at hHeld HD0 hsz ⊢
  refine wpAnyH_take (i := 0) (oi := ?p0z1) (v := ?v0z1) ?o0z1 (by kernel_rfl) (by kernel_rfl) (by kernel_rfl) ?q0z1 ?y0z1 (by assumption) ?r0z1
  case o0z1 => (simp only [List.getElem?_toArray, List.getElem?_cons_zero]; rfl)
  case q0z1 => (exact fun _ _ _ h => h)
  case y0z1 => (refine Or.inl ⟨by rfl, ?_⟩; intro w hSw; (try dsimp only at hSw); go_simp; (try with_reducible rfl))
  simp only [Act.put, List.setIfInBounds_toArray, List.set_cons_zero, List.set_cons_succ]
  refine wpAnyH_ready (rs := [1]) (by kernel_rfl) (by simp) ?_
  refine (AllReadyH.cons (o := ?pz2) ?oz2 (fun K hK => ?wz2) AllReadyH.nil)
  case oz2 => (simp only [List.getElem?_toArray, List.getElem?_cons_succ, List.getElem?_cons_zero]; rfl)
  case wz2 =>
    rw [if_pos (by rfl)]
    go_simp
    refine (rows_is _ (HF.out.off (hHeld).2 HS.out)).mono ?_; rintro e wz3 ⟨g, cap, ps, rfl, hra, hg⟩
    (try go_wp2_with fail)
    have hd1 := HD0.kp hg
    rw [hsz] at hra
    refine hK.out _ _ ⟨hd1.2.1.cell 0, hd1.2.2⟩ (fun hz3 => ?_)
    clear hK K hg
    have hc3 : wz3.cell? ⟨D, 3, none⟩ = some (.slice none 0 0) := hd1.1.cell 3
    have hf3 := hd1.1.frozen 3
    have HRA := Lib.hid hra
    have HD1 := Lib.hid hd1
    clear hra hd1 HD0
    refine wpAnyH_take (i := 2) (oi := ?p2z4) (v := ?v2z4) ?o2z4 (by kernel_rfl) (by kernel_rfl) (by kernel_rfl) ?q2z4 ?y2z4 (by assumption) ?r2z4
    case o2z4 => (simp only [List.getElem?_toArray, List.getElem?_cons_succ, List.getElem?_cons_zero]; rfl)
    case q2z4 => (exact fun _ _ _ h => h)
    case y2z4 => (refine Or.inl ⟨by rfl, ?_⟩; intro w hSw; (try dsimp only at hSw); go_simp; (try with_reducible rfl))
    simp only [Act.put, List.setIfInBounds_toArray, List.set_cons_zero, List.set_cons_succ]
    refine wpAnyH_take (i := 3) (oi := ?p3z5) (v := ?v3z5) ?o3z5 (by kernel_rfl) (by kernel_rfl) (by kernel_rfl) ?q3z5 ?y3z5 (by assumption) ?r3z5
    case o3z5 => (simp only [List.getElem?_toArray, List.getElem?_cons_succ, List.getElem?_cons_zero]; rfl)
    case q3z5 => (exact fun _ _ _ h => h)
    case y3z5 => (refine Or.inl ⟨by rfl, ?_⟩; intro w hSw; (try dsimp only at hSw); go_simp; (try with_reducible rfl))
    simp only [Act.put, List.setIfInBounds_toArray, List.set_cons_zero, List.set_cons_succ]
    refine wpAnyH_ready (rs := [4]) (by kernel_rfl) (by simp) ?_
    refine (AllReadyH.cons (o := ?pz6) ?oz6 (fun K hK => ?wz6) AllReadyH.nil)
    case oz6 => (simp only [List.getElem?_toArray, List.getElem?_cons_succ, List.getElem?_cons_zero]; rfl)
    case wz6 =>
      rw [if_pos (by rfl)]
      go_simp
      have hw2 : DecAt wb (wz3.setCell ⟨D, 3, none⟩ (.slice (some ⟨g, 0, none⟩) 19 cap)) D P 0 1 (.slice (some ⟨g, 0, none⟩) 19 cap) := ⟨HD1.out.1.set 3 _, HD1.out.2.1.other (by exact HN.out) _, HD1.out.2.2.setCell (p := ⟨D, 3, none⟩) (.inl rfl) _⟩
      have hr2 := HRA.out.set D 3 (.slice (some ⟨g, 0, none⟩) 19 cap) HL.out
      refine hK.out _ _ ⟨hw2.2.1.cell 0, hw2.2.2⟩ (fun hz7 => ?_)
      clear hK K hc3 hf3
      refine wpAnyH_done (by kernel_rfl) ?_ _
      have HW2 := Lib.hid hw2
      have HR2 := Lib.hid hr2
      clear hw2 hr2
      go_wp2_with fail
      go_end0
      exact ⟨rfl, g, cap, ps, HR2.out, HW2.out⟩
set_option maxRecDepth 100000 in
set_option maxHeartbeats 1600000 in
theorem slow_any (wb w : World) (D P : Nat) (hF : FmtsRow wb) (h : DecAt wb w D P 0 0 (.slice none 0 0)) (hD : 0 ≠ D) (hne : P ≠ D) :
    Calls Tryd.prog 59 #[.pointer (some ⟨D, 0, none⟩), .func (.func 47) #[] #[.pointer (some ⟨P, 0, none⟩)]] w fun e w' => e = .returned (.tuple #[]) ∧ ∃ g cap ps, RowsAt w' w.heap.size g cap ps ∧ DecAt wb w' D P 1 0 (.slice (some ⟨g, 0, none⟩) 19 cap) := by
  have hnot : ∀ (x : Bool) (w : World), (Op.unary .not (.bool x)).run Tryd.prog w = .ok (.bool (!x)) w := fun _ _ => rfl
  have HD := Lib.hid h
  have HF := Lib.hid hF
  have HS := Lib.hid hD
  have HN := Lib.hid hne
  have HL : Hid (D < w.heap.size) := Lib.hid h.1.lt
  have h1 : DecAt wb (w.setCell ⟨D, 1, none⟩ (.int .i32 1)) D P 0 1 (.slice none 0 0) := ⟨h.1.set 1 _, h.2.1.other (by exact hne) _, h.2.2.setCell (p := ⟨D, 1, none⟩) (.inl rfl) _⟩
  have H1 := Lib.hid h1
  clear h hF hD hne h1
  go_enter_defers Tryd.func59, Tryd.ntmps59
  go_wp2_with (first
    | (go_at_call 77; refine (lock_ok ⟨D, 1, none⟩ _ (HD.out.1.cell 1) (HD.out.1.frozen 1)).mono ?_; rintro e w' ⟨rfl, rfl⟩)
    | (go_at_call 58; refine (load_b ⟨D, 0, none⟩ 0 _ (H1.out.1.cell 0)).mono ?_; rintro e w' ⟨rfl, rfl⟩)
    | (go_at_call 47; refine (all1_any wb _ D P HF.out H1.out HS.out HN.out).mono ?_; rintro e w2 ⟨rfl, g, cap, ps, hra, hd2⟩; have HRA := Lib.hid hra; have HD2 := Lib.hid hd2; clear hra hd2))
  have hsz : (w.setCell ⟨D, 1, none⟩ (.int .i32 1)).heap.size = w.heap.size := by simp
  have hra := HRA.out
  rw [hsz] at hra
  have d0 : DecAt wb w2.drew D P 0 1 (.slice (some ⟨g, 0, none⟩) 19 cap) := HD2.out.kp (Kp.refl w2).drew
  have r0 := hra.kp (Kp.refl w2).drew
  have d1 : DecAt wb (w2.drew.setCell ⟨D, 0, none⟩ (.int .u32 1)) D P 1 1 (.slice (some ⟨g, 0, none⟩) 19 cap) := ⟨d0.1.set 0 _, d0.2.1.other (by exact HN.out) _, d0.2.2.setCell (p := ⟨D, 0, none⟩) (.inl rfl) _⟩
  have r1 := r0.set D 0 (.int .u32 1) HL.out
  have d2 : DecAt wb ((w2.drew.setCell ⟨D, 0, none⟩ (.int .u32 1)).setCell ⟨D, 1, none⟩ (.int .i32 0)) D P 1 0 (.slice (some ⟨g, 0, none⟩) 19 cap) := ⟨d1.1.set 1 _, d1.2.1.other (by exact HN.out) _, d1.2.2.setCell (p := ⟨D, 1, none⟩) (.inl rfl) _⟩
  have r2 := r1.set D 1 (.int .i32 0) HL.out
  have c0 : w2.cell? ⟨D, 0, none⟩ = some (.int .u32 0) := HD2.out.1.cell 0
  have f0 := HD2.out.1.frozen 0
  have c1 : (w2.drew.setCell ⟨D, 0, none⟩ (.int .u32 1)).cell? ⟨D, 1, none⟩ = some (.int .i32 1) := d1.1.cell 1
  have f1 := d1.1.frozen 1
  refine leaves_cons (f := 79) (args := #[.pointer (some ⟨D, 0, none⟩), .bool true]) (by simp) (by simp [go_sem]) ?_
  refine (store_def ⟨D, 0, none⟩ (.int .u32 0) .returning _ c0 f0).mono ?_
  rintro e u' w'' ⟨rfl, rfl, rfl⟩
  refine leaves_cons (f := 78) (args := #[.pointer (some ⟨D, 1, none⟩)]) (by simp [settle]) (by simp [go_sem]) ?_
  refine (unlock_def ⟨D, 1, none⟩ _ _ c1 f1).mono ?_
  rintro e u' w'' ⟨rfl, rfl, rfl⟩
  have R := Lib.hid r2
  have DD := Lib.hid d2
  clear r0 r1 r2 d0 d1 d2 c0 c1 f0 f1 hra
  simp [Leaves, settle, results, Tryd.results59]
  exact ⟨g, cap, ⟨ps, R.out⟩, DD.out⟩
set_option maxRecDepth 100000 in
theorem do_any (wb w : World) (D P : Nat) (hF : FmtsRow wb) (h : DecAt wb w D P 0 0 (.slice none 0 0)) (hD : 0 ≠ D) (hne : P ≠ D) :
    Calls Tryd.prog 46 #[.pointer (some ⟨D, 0, none⟩), .func (.func 47) #[] #[.pointer (some ⟨P, 0, none⟩)]] w fun e w' => e = .returned (.tuple #[]) ∧ ∃ g cap ps, RowsAt w' w.heap.size g cap ps ∧ DecAt wb w' D P 1 0 (.slice (some ⟨g, 0, none⟩) 19 cap) := by
  have hnot : ∀ (x : Bool) (w : World), (Op.unary .not (.bool x)).run Tryd.prog w = .ok (.bool (!x)) w := fun _ _ => rfl
  have hc := h.1.cell 0
  have HH := Lib.hid h
  have HF := Lib.hid hF
  have HS := Lib.hid (And.intro hD hne)
  clear h hF hD hne
  go_enter Tryd.func46, Tryd.ntmps46
  go_wp2_with (first
    | (go_at_call 58; refine (load_b ⟨D, 0, none⟩ 0 _ (HH.out.1.cell 0)).mono ?_; rintro e w' ⟨rfl, rfl⟩)
    | (go_at_call 59; refine (slow_any wb _ D P HF.out HH.out HS.out.1 HS.out.2).mono ?_; rintro e w2 ⟨rfl, g, cap, ps, hra, hd2⟩; have HRA := Lib.hid hra; have HD2 := Lib.hid hd2; clear hra hd2))
  go_end0
  exact ⟨rfl, g, cap, ps, HRA.out, HD2.out⟩
set_option maxRecDepth 100000 in
theorem drows_any (wb w : World) (D : Nat) (hF : FmtsRow wb) (hB : Blk w D (decV 0 0 0 (.slice none 0 0)) 54) (hk : Off (fun k => k = D) wb w) (hD : 0 ≠ D) :
    Calls Tryd.prog 34 #[.pointer (some ⟨D, 0, none⟩)] w fun e w' => ∃ g cap ps, e = .returned (.slice (some ⟨g, 0, none⟩) 19 cap) ∧ RowsAt w' 0 g cap ps ∧ Off (fun k => k = D) wb w' := by
  have hmf : ∀ (fn : Fn) (first cap : Array Value) (w : World), (Instr.makeFunc fn first cap).run Tryd.prog w = .ok (.func fn first cap) w := fun _ _ _ _ => rfl
  have H0 : Hid (DecAt wb (w.alloc (.cells #[.pointer (some ⟨D, 0, none⟩)] 85)) D w.heap.size 0 0 (.slice none 0 0)) := Lib.hid ⟨hB.alloc _, Blk.new w _ _, hk.alloc _⟩
  have HF := Lib.hid hF
  have HS : Hid (0 ≠ D ∧ w.heap.size ≠ D) := Lib.hid ⟨hD, by have := hB.lt; omega⟩
  clear hF hB hk hD
  go_enter Tryd.func34, Tryd.ntmps34
  go_wp2_with (go_at_call 46; refine (do_any wb _ D w.heap.size HF.out H0.out HS.out.1 HS.out.2).mono ?_; rintro e w2 ⟨rfl, g, cap, ps, hra, hd2⟩; have hc3 := hd2.1.cell 3; have hcp := hd2.2.1.cell 0; simp [decV] at hc3 hcp; have HRA := Lib.hid hra; have HD2 := Lib.hid hd2; clear hra hd2)
  go_ret
  exact ⟨g, cap, ps, rfl, HRA.out.low, HD2.out.2.2⟩
end Go.Proofs.YtfbkppncaampdaaDoor
