/-
  The contract of package syndrome's word and Encode, for every syndrome, where the table holds what the program's text lays. No condition.
-/
import Derived.Test.YtjglobnjmahpaaaDoorSynChk
import Derived.Test.YtjglobnjmahpaaaDoorWordsN
import Derived.Deep.RegionHeld3
namespace Go.Proofs.YtjglobnjmahpaaaDoor
open Go Go.RowKit

/-! The table, cell by cell. -/
def clsL : List Value := [.int .u64 63, .int .u64 21, .int .u64 36, .int .u64 0, .int .u64 62]
def TabsOk (w : World) : Prop := ∀ i, i < 5 → w.cell? ⟨0, i, none⟩ = clsL[i]?
theorem lt_of_cell {w : World} {b o : Nat} {v : Value} (h : w.cell? ⟨b, o, none⟩ = some v) : b < w.heap.size := by
  unfold World.cell? at h
  apply Nat.lt_of_not_le
  intro hn
  rw [Array.getElem?_eq_none hn] at h
  simp at h
theorem keepc {w : World} {g o : Nat} {v : Value} (h : w.cell? ⟨g, o, none⟩ = some v) (c : Array Value) (t : TypeId) : (w.alloc (.cells c t)).cell? ⟨g, o, none⟩ = some v := ((kpA w c t).cell (lt_of_cell h)).trans h
theorem TabsOk.lt {w : World} (h : TabsOk w) : 0 < w.heap.size := lt_of_cell (h 0 (by decide))
theorem TabsOk.kp {w w' : World} (h : TabsOk w) (hk : Kp w w') : TabsOk w' := fun i hi => (hk.cell h.lt).trans (h i hi)
theorem TabsOk.at {w : World} (h : TabsOk w) (i : Nat) (v : Value) (hv : clsL[i]? = some v) : w.cell? ⟨0, i, none⟩ = some v := by
  rw [h i (List.getElem?_eq_some_iff.1 hv).1, hv]

/-! What they come to. -/
def clsN : Nat → Nat
  | 0 => 63
  | 1 => 21
  | 2 => 36
  | 3 => 0
  | _ => 62
def bN (b : Bool) : Nat := if b then 1 else 0
def stsN (f l : Int) : Nat := if f = 1 then 4 + l.toNat else if f = 2 then 15 else if f = 3 then 33 else 0
def esrN (c : Nat) (st : Bool) (f l : Int) : Nat := 67108864 * clsN c + 33554432 + 64 * bN st + stsN f l

theorem storeBit_any (c : Int) (st : Bool) (f l va : Int) (w : World) :
    Calls Tryd.prog 24 #[.agg #[.int .i8 c, .bool st, .int .i8 f, .int .i8 l, .int .u64 va]] w fun e w' => e = .returned (.int .u64 (bN st)) ∧ w' = w.alloc (.cells #[.int .i8 c, .bool st, .int .i8 f, .int .i8 l, .int .u64 va] 25) := by
  cases st
  all_goals
    go_enter Tryd.func24, Tryd.ntmps24
    go_wp2
    go_ret
    exact ⟨rfl, rfl⟩
theorem status_any (f l : Int) (w : World) (h : FOk f l ∨ f = 0) :
    Calls Tryd.prog 25 #[.int .i8 f, .int .i8 l] w fun e w' => e = .returned (.int .u64 (stsN f l)) ∧ w = w' := by
  rcases h with (⟨rfl, h0, h1⟩ | ⟨rfl, rfl⟩ | ⟨rfl, rfl⟩) | rfl
  · obtain ⟨n, rfl⟩ := Int.eq_ofNat_of_zero_le h0
    go_enter Tryd.func25, Tryd.ntmps25
    go_wp2
    go_ret
    exact ⟨ret_int (by simp [stsN]), rfl⟩
  all_goals
    go_enter Tryd.func25, Tryd.ntmps25
    go_wp2
    go_ret
    exact ⟨rfl, rfl⟩

/-! The loop's rounds. -/
def accW (V B T : Nat) : Nat → BitVec 64
  | 0 => 0#64
  | 1 => putB 0#64 (BitVec.ofNat 64 V) 31 26
  | 2 => putB (putB 0#64 (BitVec.ofNat 64 V) 31 26) 1#64 25 25
  | 3 => putB (putB (putB 0#64 (BitVec.ofNat 64 V) 31 26) 1#64 25 25) (BitVec.ofNat 64 B) 6 6
  | _ => putB (putB (putB (putB 0#64 (BitVec.ofNat 64 V) 31 26) 1#64 25 25) (BitVec.ofNat 64 B) 6 6) (BitVec.ofNat 64 T) 5 0
theorem accW_fin (V B T : Nat) (hV : V < 64) (hB : B < 2) (hT : T < 64) : (accW V B T 4).toNat = 67108864 * V + 33554432 + 64 * B + T := by
  have e1 := putB_nat 0#64 (BitVec.ofNat 64 V) 31 26 (by decide) (by decide) (by rw [ofN V (by omega), mask_toNat _ (by decide)]; omega)
  rw [ofN V (by omega)] at e1
  have e2 := putB_nat (putB 0#64 (BitVec.ofNat 64 V) 31 26) 1#64 25 25 (by decide) (by decide) (by decide)
  rw [e1] at e2
  have e3 := putB_nat (putB (putB 0#64 (BitVec.ofNat 64 V) 31 26) 1#64 25 25) (BitVec.ofNat 64 B) 6 6 (by decide) (by decide) (by rw [ofN B (by omega), mask_toNat _ (by decide)]; omega)
  rw [e2, ofN B (by omega)] at e3
  have e4 := putB_nat (putB (putB (putB 0#64 (BitVec.ofNat 64 V) 31 26) 1#64 25 25) (BitVec.ofNat 64 B) 6 6) (BitVec.ofNat 64 T) 5 0 (by decide) (by decide) (by rw [ofN T (by omega), mask_toNat _ (by decide)]; omega)
  rw [e3, ofN T (by omega)] at e4
  show (putB (putB (putB (putB 0#64 (BitVec.ofNat 64 V) 31 26) 1#64 25 25) (BitVec.ofNat 64 B) 6 6) (BitVec.ofNat 64 T) 5 0).toNat = _
  rw [e4]
  clear e1 e2 e3 e4
  simp
  omega
theorem clsN_lt (c : Nat) : clsN c < 64 := by unfold clsN; split <;> decide
theorem bN_lt (b : Bool) : bN b < 2 := by cases b <;> decide
theorem stsN_lt (f l : Int) (h : FOk f l ∨ f = 0) : stsN f l < 64 := by
  unfold FOk at h
  unfold stsN
  split
  · omega
  · split
    · omega
    · split <;> omega
theorem accW_puts (V B T : Nat) (hV : V < 64) (hB : B < 2) (hT : T < 64) : V < 2 ^ 6 ∧ B < 2 ^ 1 ∧ T < 2 ^ 6 := ⟨hV, hB, hT⟩
theorem put_any (x : BitVec 64) (v hi lo : Nat) (w : World) (h1 : lo ≤ hi) (h2 : hi ≤ 63) (hf : v < 2 ^ (hi - lo + 1)) :
    Calls Tryd.prog 26 #[.int .u64 x.toNat, .int .i64 hi, .int .i64 lo, .int .u64 v] w fun e w' => e = .returned (.tuple #[.int .u64 (putB x (BitVec.ofNat 64 v) hi lo).toNat, .int .i64 0]) ∧ Kp w w' := by
  have hv : v < 2 ^ 64 := Nat.lt_of_lt_of_le hf (Nat.pow_le_pow_right (by decide) (by omega))
  have := put_yes x (BitVec.ofNat 64 v) hi lo w h1 h2 (by rw [ofN v hv, mask_toNat _ (by omega)]; omega)
  rwa [ofN v hv] at this
theorem parts_at (V B T : Nat) (K : Int) (k : Nat) (e : K = (k : Int)) (hk : k < 4) (hi lo : Int) (v : Nat) (h : [((31 : Int), (26 : Int), V), (25, 25, 1), (6, 6, B), (5, 0, T)][k]? = some (hi, lo, v)) (w : World) :
    (Instr.index 50 (.agg #[.int .i64 31, .int .i64 26, .int .u64 V, .int .i64 25, .int .i64 25, .int .u64 1, .int .i64 6, .int .i64 6, .int .u64 B, .int .i64 5, .int .i64 0, .int .u64 T]) (.int .i64 K)).run Tryd.prog w = .ok (.agg #[.int .i64 hi, .int .i64 lo, .int .u64 v]) w := by
  obtain rfl | rfl | rfl | rfl : k = 0 ∨ k = 1 ∨ k = 2 ∨ k = 3 := by omega
  all_goals
    simp at h
    obtain ⟨rfl, rfl, rfl⟩ := h
    refine index_agg (s := 3) Tryd.underlying50 Tryd.underlying48 rfl (by kernel_rfl) _ _ e (by decide) ?_ w
    simp
set_option maxHeartbeats 2000000 in
theorem word_any (c : Nat) (st : Bool) (f l va : Int) (w : World) (hT : TabsOk w) (hc : c < 5) (hf : FOk f l ∨ f = 0) :
    Calls Tryd.prog 15 #[.agg #[.int .i8 c, .bool st, .int .i8 f, .int .i8 l, .int .u64 va]] w fun e w' => e = .returned (.int .u64 (esrN c st f l)) ∧ Kp w w' := by
  have HF := Lib.hid hf; clear hf
  have HT := Lib.hid hT; clear hT
  have kc := (HT.out.kp (kpA w #[.int .i8 c, .bool st, .int .i8 f, .int .i8 l, .int .u64 va] 25)).at c (.int .u64 (clsN c)) (by
    obtain rfl | rfl | rfl | rfl | rfl : c = 0 ∨ c = 1 ∨ c = 2 ∨ c = 3 ∨ c = 4 := by omega
    all_goals rfl)
  have HL : Hid (0 < w.heap.size) := Lib.hid HT.out.lt
  have i0 : (0 : Int) ≤ (c : Int) := by omega
  have i1 : (c : Int) < 5 := by omega
  have HC := Lib.hid hc; clear hc
  go_enter Tryd.func15, Tryd.ntmps15
  go_wp2
  go_region_held3 (fun w' => w'.cell? ⟨w.heap.size, 0, none⟩ = some (.int .i8 c) ∧ w'.cell? ⟨w.heap.size, 1, none⟩ = some (.bool st) ∧ w'.cell? ⟨w.heap.size, 2, none⟩ = some (.int .i8 f) ∧ w'.cell? ⟨w.heap.size, 3, none⟩ = some (.int .i8 l) ∧ w'.cell? ⟨w.heap.size, 4, none⟩ = some (.int .u64 va) ∧ w'.cell? ⟨0, c, none⟩ = some (.int .u64 (clsN c)) ∧ w.heap.size < w'.heap.size ∧ Kp w w')
    (first | (refine ⟨by simp, by simp, by simp, by simp, by simp, by repeat (first | exact kc | assumption | apply keepc), by simp <;> omega, ?_⟩; repeat (first | exact Kp.refl _ | assumption | apply Kp.drew | apply Kp.alloc)))
    (first | (go_at_call 24; refine (storeBit_any _ _ _ _ _ _).mono ?_; rintro e w' ⟨rfl, rfl⟩) | (go_at_call 25; refine (status_any _ _ _ HF.out).mono ?_; rintro e w' ⟨rfl, rfl⟩))
  rename_i hHeld
  have G0 := Lib.hid hHeld.2.2.2.2.2.2.2; clear hHeld
  have e0 : (0 : Int) = ((accW (clsN c) (bN st) (stsN f l) 0).toNat : Int) := rfl
  have E0 := Lib.hid e0; clear e0 kc i0 i1
  go_wp2
  go_loopw [3, 22] (fun x i wr => ∃ k : Nat, k ≤ 4 ∧ i = .int .i64 k ∧ x = .int .u64 (accW (clsN c) (bN st) (stsN f l) k).toNat ∧ Kp w wr) (fun _ i _ => 4 - (intOf i).toNat)
  case atStart => exact ⟨0, by omega, rfl, by rw [← E0.out], G0.out⟩
  case round =>
    obtain ⟨k, hk, rfl, rfl, hg⟩ := hrel
    have HG := Lib.hid hg; clear hg
    by_cases h4 : k = 4
    · subst h4
      go_wp2_with fail
      go_ret
      exact ⟨ret_int (by rw [accW_fin _ _ _ (clsN_lt c) (bN_lt st) (stsN_lt f l HF.out)]; rfl), HG.out⟩
    · have HP := Lib.hid (accW_puts (clsN c) (bN st) (stsN f l) (clsN_lt c) (bN_lt st) (stsN_lt f l HF.out))
      obtain rfl | rfl | rfl | rfl : k = 0 ∨ k = 1 ∨ k = 2 ∨ k = 3 := by omega
      · have ix := parts_at (clsN c) (bN st) (stsN f l) 0 0 rfl (by decide) _ _ _ rfl wr
        go_wp2_with fail
        refine (put_any _ (clsN c) 31 26 _ (by decide) (by decide) HP.out.1).mono ?_; rintro e w2 ⟨rfl, hg⟩
        have H2 := Lib.hid (HG.out.trans (((Kp.refl _).alloc _ _).trans hg)); clear hg
        go_wp2_with fail
        go_roundw
        case rel => exact ⟨1, by omega, by go_num, rfl, H2.out⟩
        case measure => simp [intOf]
      · have ix := parts_at (clsN c) (bN st) (stsN f l) 1 1 rfl (by decide) _ _ _ rfl wr
        go_wp2_with fail
        refine (put_any _ (1) 25 25 _ (by decide) (by decide) (by decide)).mono ?_; rintro e w2 ⟨rfl, hg⟩
        have H2 := Lib.hid (HG.out.trans (((Kp.refl _).alloc _ _).trans hg)); clear hg
        go_wp2_with fail
        go_roundw
        case rel => exact ⟨2, by omega, by go_num, rfl, H2.out⟩
        case measure => simp [intOf]
      · have ix := parts_at (clsN c) (bN st) (stsN f l) 2 2 rfl (by decide) _ _ _ rfl wr
        go_wp2_with fail
        refine (put_any _ (bN st) 6 6 _ (by decide) (by decide) HP.out.2.1).mono ?_; rintro e w2 ⟨rfl, hg⟩
        have H2 := Lib.hid (HG.out.trans (((Kp.refl _).alloc _ _).trans hg)); clear hg
        go_wp2_with fail
        go_roundw
        case rel => exact ⟨3, by omega, by go_num, rfl, H2.out⟩
        case measure => simp [intOf]
      · have ix := parts_at (clsN c) (bN st) (stsN f l) 3 3 rfl (by decide) _ _ _ rfl wr
        go_wp2_with fail
        refine (put_any _ (stsN f l) 5 0 _ (by decide) (by decide) HP.out.2.2).mono ?_; rintro e w2 ⟨rfl, hg⟩
        have H2 := Lib.hid (HG.out.trans (((Kp.refl _).alloc _ _).trans hg)); clear hg
        go_wp2_with fail
        go_roundw
        case rel => exact ⟨4, by omega, by go_num, rfl, H2.out⟩
        case measure => simp [intOf]

def encW (c : Int) (st : Bool) (f l va : Int) : Int := if SOk c st f l va then (esrN c.toNat st f l : Int) else 0
def encA (c : Int) (st : Bool) (f l va : Int) : Int := if SOk c st f l va then va else 0
theorem ok_cls {c : Int} {st : Bool} {f l va : Int} (h : SOk c st f l va) : 0 ≤ c ∧ c < 5 ∧ (FOk f l ∨ f = 0) := by
  rcases h with ⟨rfl, h⟩ | ⟨h, -, h2, -⟩
  · exact ⟨by decide, by decide, .inl h⟩
  · exact ⟨by omega, by omega, .inr h2⟩
theorem enc_yes {c : Int} {st : Bool} {f l va : Int} (h : SOk c st f l va) : encW c st f l va = (esrN c.toNat st f l : Int) ∧ encA c st f l va = va := ⟨if_pos h, if_pos h⟩
theorem enc_no {c : Int} {st : Bool} {f l va : Int} (h : ¬ SOk c st f l va) : encW c st f l va = 0 ∧ encA c st f l va = 0 := ⟨if_neg h, if_neg h⟩
def SynAt (w w' : World) (c : Int) (st : Bool) (f l va : Int) : Prop :=
  w'.cell? ⟨w.heap.size, 0, none⟩ = some (.int .i8 c) ∧ w'.cell? ⟨w.heap.size, 1, none⟩ = some (.bool st) ∧ w'.cell? ⟨w.heap.size, 2, none⟩ = some (.int .i8 f) ∧ w'.cell? ⟨w.heap.size, 3, none⟩ = some (.int .i8 l) ∧ w'.cell? ⟨w.heap.size, 4, none⟩ = some (.int .u64 va) ∧ TabsOk w' ∧ w.heap.size < w'.heap.size ∧ Kp w w'
theorem SynAt.kp {w w1 w2 : World} {c : Int} {st : Bool} {f l va : Int} (h : SynAt w w1 c st f l va) (g : Kp w1 w2) : SynAt w w2 c st f l va := by
  obtain ⟨h0, h1, h2, h3, h4, h5, h6, h7⟩ := h
  exact ⟨(g.cell h6).trans h0, (g.cell h6).trans h1, (g.cell h6).trans h2, (g.cell h6).trans h3, (g.cell h6).trans h4, h5.kp g, Nat.lt_of_lt_of_le h6 g.size, h7.trans g⟩
theorem SynAt.drew {w w1 : World} {c : Int} {st : Bool} {f l va : Int} (h : SynAt w w1 c st f l va) : SynAt w w1.drew c st f l va := h.kp (Kp.refl _).drew
theorem synAt_new (w : World) (c : Int) (st : Bool) (f l va : Int) (hT : TabsOk w) : SynAt w (w.alloc (.cells #[.int .i8 c, .bool st, .int .i8 f, .int .i8 l, .int .u64 va] 25)) c st f l va := by
  have b := Blk.new w #[.int .i8 c, .bool st, .int .i8 f, .int .i8 l, .int .u64 va] 25
  exact ⟨b.cell 0, b.cell 1, b.cell 2, b.cell 3, b.cell 4, hT.kp (kpA _ _ _), b.lt, kpA _ _ _⟩
theorem ret_enc {a b c a' b' c' : Int} (h : a = a') (h' : b = b') (h'' : c = c') : Ending.returned (.tuple #[.int .u64 a, .int .u64 b, .int .i64 c]) = .returned (.tuple #[.int .u64 a', .int .u64 b', .int .i64 c']) := by rw [h, h', h'']
theorem encode_any (c : Int) (st : Bool) (f l va : Int) (w : World) (hT : TabsOk w) (wc : (Lit.int .i8 c).wf = true) :
    Calls Tryd.prog 6 #[.agg #[.int .i8 c, .bool st, .int .i8 f, .int .i8 l, .int .u64 va]] w fun e w' => e = .returned (.tuple #[.int .u64 (encW c st f l va), .int .u64 (encA c st f l va), .int .i64 (chkE c st f l va)]) ∧ Kp w w' := by
  have HT := Lib.hid hT; clear hT
  have WC := Lib.hid wc; clear wc
  by_cases h : SOk c st f l va
  · have HE := Lib.hid (enc_yes h)
    have HO := Lib.hid (ok_cls h)
    have HC := Lib.hid (chk_yes h)
    obtain ⟨n, rfl⟩ := Int.eq_ofNat_of_zero_le HO.out.1
    clear h
    go_enter Tryd.func6, Tryd.ntmps6
    go_wp2_with fail
    refine (check_any _ st f l va _ WC.out).mono ?_; rintro e w1 ⟨rfl, hg⟩
    have H1 := Lib.hid hg; clear hg
    rw [HC.out]
    have hS : SynAt w w1 n st f l va := ((synAt_new w n st f l va HT.out).kp H1.out)
    have HS := Lib.hid hS
    obtain ⟨z0, z1, z2, z3, z4, -⟩ := hS
    have HN : Hid (n < 5) := Lib.hid (by have := HO.out.2.1; omega)
    go_wp2
    go_region_held3 (fun w' => w'.cell? ⟨w.heap.size, 0, none⟩ = some (.int .i8 n) ∧ w'.cell? ⟨w.heap.size, 1, none⟩ = some (.bool st) ∧ w'.cell? ⟨w.heap.size, 2, none⟩ = some (.int .i8 f) ∧ w'.cell? ⟨w.heap.size, 3, none⟩ = some (.int .i8 l) ∧ w'.cell? ⟨w.heap.size, 4, none⟩ = some (.int .u64 va) ∧ TabsOk w' ∧ w.heap.size < w'.heap.size ∧ Kp w w')
      (first | exact HS.out.drew | assumption | exact SynAt.drew (by assumption))
      (first | (go_at_call 15; rename_i hh _ _; refine (word_any _ _ _ _ _ _ hh.2.2.2.2.2.1 HN.out HO.out.2.2).mono ?_; rintro e w' ⟨rfl, hg⟩; have hh' := SynAt.kp hh hg; clear hh hg))
    rename_i hh
    have HH := Lib.hid hh; clear hh
    go_wp2
    go_ret3
    exact ⟨ret_enc HE.out.1.symm HE.out.2.symm HC.out.symm, HH.out.2.2.2.2.2.2.2⟩
  · have HE := Lib.hid (enc_no h)
    have HC := Lib.hid (chk_no h)
    clear h
    go_enter Tryd.func6, Tryd.ntmps6
    go_wp2_with fail
    refine (check_any _ st f l va _ WC.out).mono ?_; rintro e w2 ⟨rfl, hg⟩
    have H2 := Lib.hid hg; clear hg
    rw [HC.out]
    go_wp2_with fail
    go_ret3
    exact ⟨ret_enc HE.out.1.symm HE.out.2.symm HC.out.symm, (by (repeat (first | apply Kp.drew | apply Kp.alloc)); refine Kp.trans ?_ H2.out; (repeat (first | apply Kp.drew | apply Kp.alloc)); exact Kp.refl _)⟩
end Go.Proofs.YtjglobnjmahpaaaDoor
