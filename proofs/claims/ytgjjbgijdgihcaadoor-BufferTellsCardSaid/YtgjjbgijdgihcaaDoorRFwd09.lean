/-
  A buffer's Forward, as the document writes it (tenement/tenementref09). No condition.
-/
import Derived.Test.YtgjjbgijdgihcaaDoorRTake09
namespace Go.Proofs.YtgjjbgijdgihcaaDoor
open Go Go.RowKit

theorem fwR_step (e : Ent) (l : List Ent) (u : Nat) : (e.k = 0 → e.w = u → fwR (e :: l) u = (e.x, true, 0)) ∧ (e.k = 2 → e.fm = ((u / 512 : Nat) : Int) → fwR (e :: l) u = (0, true, 0)) ∧ (e.k = 3 → e.fm = ((u / 512 : Nat) : Int) → fwR (e :: l) u = (0, false, 21)) ∧
    (¬ (e.k = 0 ∧ e.w = u) → ¬ (e.k = 2 ∧ e.fm = ((u / 512 : Nat) : Int)) → ¬ (e.k = 3 ∧ e.fm = ((u / 512 : Nat) : Int)) → fwR (e :: l) u = fwR l u) := by
  refine ⟨fun a b => ?_, fun a b => ?_, fun a b => ?_, fun a b c => ?_⟩
  · unfold fwR; rw [if_pos ⟨a, b⟩]
  · unfold fwR; rw [if_neg (fun q => by omega), if_pos ⟨a, b⟩]
  · unfold fwR; rw [if_neg (fun q => by omega), if_neg (fun q => by omega), if_pos ⟨a, b⟩]
  · rw [fwR, if_neg a, if_neg b, if_neg c]
set_option maxHeartbeats 4000000 in
theorem rfwd_any (a0 : Option Addr) (cap N : Nat) (L : List Ent) (u : Nat) (w : World) (hN : N = L.length) (h : RowE w a0 cap L) (hw : ∀ e ∈ L, e.wf) (hu : u < 18446744073709551616) :
    Calls Tryd.prog 13 #[.slice a0 N cap, .int .u64 u] w fun r w' => r = .returned (.tuple #[.int .u64 ((fwdB L u).1 : Nat), .bool (fwdB L u).2.1, .int .i64 (fwdB L u).2.2]) ∧ Kp w w' := by
  have HC := Lib.hid (rcheck_any a0 cap N L w hN h)
  obtain ⟨X, hX⟩ : ∃ X, fwdB L u = X := ⟨_, rfl⟩
  rw [hX]
  have HV := Lib.hid hX
  clear hX
  have HE := Lib.hid hN
  have H := Lib.hid h
  have HW := Lib.hid hw
  have eu : IntKind.u64.wrap ((u : Int) / 512) = ((u / 512 : Nat) : Int) := by rw [show IntKind.u64.wrap ((u : Int) / 512) = ((u : Int) / 512) % 18446744073709551616 from IntKind.wrap_u64 _]; omega
  have eu2 : (u : Int) / 512 = ((u / 512 : Nat) : Int) := by omega
  have eu3 : IntKind.u64.wrap ((u / 512 : Nat) : Int) = ((u / 512 : Nat) : Int) := by rw [← eu2]; exact eu.trans eu2.symm
  obtain ⟨Q, hQ⟩ : ∃ Q, Q = u / 512 := ⟨_, rfl⟩
  rw [← hQ] at eu eu2 eu3
  have HQ := Lib.hid hQ
  clear hQ
  clear hN h hw
  cases hok : okB L with
  | false =>
    have e2 : X = (0, false, 2) := HV.out.symm.trans (by unfold fwdB; rw [hok]; rfl)
    subst e2
    rw [hok, if_neg (by decide)] at HC
    clear HV hu
    go_enter Tryd.func13, Tryd.ntmps13
    go_wp2_with (go_at_call 16; refine HC.out.mono ?_; rintro r w1 ⟨rfl, hg⟩; have K1 := Lib.hid hg; clear hg)
    go_ret3
    exact ⟨rfl, K1.out⟩
  | true =>
  rw [hok, if_pos rfl] at HC
  cases hd : decide ((1099511627776 : Int) ≤ (u : Int)) with
  | true =>
    have e2 : X = (0, false, 2) := HV.out.symm.trans (by
      have hlt : decide (u < 1099511627776) = false := decide_eq_false (by have := of_decide_eq_true hd; omega)
      unfold fwdB
      rw [hok, hlt]; rfl)
    subst e2
    clear HV hu
    go_enter Tryd.func13, Tryd.ntmps13
    go_wp2_with (go_at_call 16; refine HC.out.mono ?_; rintro r w1 ⟨rfl, hg⟩; have K1 := Lib.hid hg; clear hg)
    go_ret3
    exact ⟨rfl, K1.out⟩
  | false =>
  have HX : Hid (fwR L.reverse u = X) := Lib.hid (by
    have hlt : decide (u < 1099511627776) = true := decide_eq_true (by have := of_decide_eq_false hd; omega)
    have q := HV.out
    unfold fwdB at q
    rw [hok, hlt] at q
    exact q)
  have HM := Lib.hid (okB_parts hok).2.1
  have hN8 : (N : Int) ≤ 8 := by have := (okB_parts hok).1; have := HE.out; omega
  clear HV hok hu
  go_enter Tryd.func13, Tryd.ntmps13
  go_wp2_with (go_at_call 16; refine HC.out.mono ?_; rintro r w1 ⟨rfl, hg⟩; have K1 := Lib.hid hg; clear hg)
  clear hd
  go_loopw [7, 8] (fun i s8 wr => ∃ j : Nat, j ≤ N ∧ i = .int .i64 ((j : Int) - 1) ∧ fwR (L.take j).reverse u = X ∧ Kp w wr) (fun i _ _ => (intOf i + 1).toNat)
  case atStart => exact ⟨N, Nat.le_refl _, by go_num, by rw [HE.out, List.take_length]; exact HX.out, K1.out⟩
  case round =>
    obtain ⟨j, hjN, rfl, hf, hk⟩ := hrel
    obtain ⟨w3, rfl⟩ : ∃ w3, w3 = wr := ⟨_, rfl⟩
    have HF := Lib.hid hf
    have HKr := Lib.hid hk
    clear hf hk
    by_cases hj : j = 0
    · subst hj
      have e2 : X = (0, false, 0) := HF.out.symm
      subst e2
      have f0 : decide ((0 : Int) ≤ ((0 : Nat) : Int) - 1) = false := by decide
      clear hjN HX
      go_wp2
      go_ret3
      exact ⟨rfl, HKr.out⟩
    obtain ⟨i, rfl⟩ : ∃ i, j = i + 1 := ⟨j - 1, by omega⟩
    have ei : ((i + 1 : Nat) : Int) - 1 = (i : Int) := by omega
    rw [ei]
    have i0 : (0 : Int) ≤ (i : Int) := by omega
    have f0 : decide ((0 : Int) ≤ (i : Int)) = true := decide_eq_true i0
    have i1 : (i : Int) < (N : Int) := by omega
    have hx : L[i]? = some (L[i]'(by have := HE.out; omega)) := List.getElem?_eq_getElem _
    generalize L[i]'(by have := HE.out; omega) = e at hx
    have hts : (L.take (i + 1)).reverse = e :: (L.take i).reverse := by rw [List.take_add_one, hx]; simp
    have hst := fwR_step e (L.take i).reverse u
    rw [← hts, HF.out] at hst
    have HST := Lib.hid hst
    obtain ⟨b, off, rfl, hlt, hc⟩ := (H.out.kp HKr.out).at hx
    obtain ⟨c0, c1, c2, c3, c4⟩ := hc i e hx
    have hmay := HM.out e (List.mem_of_getElem? hx)
    have hwf := HW.out e (List.mem_of_getElem? hx)
    have HI : Hid (i < N ∧ (N : Int) ≤ 8) := Lib.hid (by omega)
    have HKA := Lib.hid (HKr.out.alloc (Ent.arr e) 26)
    clear hc hlt hx hts hst hjN hj HX HF ei
    unfold Ent.arr at HKA
    rcases kinds hmay with ⟨hk, hf1, hf2⟩ | hk | ⟨hk, hfm⟩ | ⟨hk, hfr, hfm⟩
    · clear hmay hwf
      have d0 : (e.k == 0) = true := by simp [hk]
      have d2 : (e.k == 2) = false := by simp [hk]
      have d3 : (e.k == 3) = false := by simp [hk]
      by_cases hc : e.w = u
      · have q : ((e.w : Int) == (u : Int)) = true := by simp; omega
        have q2 : (e.w == u) = true := by simp [hc]
        have e2 : X = (e.x, true, 0) := HST.out.1 hk hc
        subst e2
        clear HST hk
        (try clear hc)
        (try clear hfm)
        (try clear hfr)
        (try clear hf1)
        (try clear hf2)
        go_wp2_with (refine wpList_store_row rfl 26 (.tmp 8) (.tmp 26) rfl w3.heap.size (Ent.arr e) rfl rfl _ _ (heap_alloc_last _ _) (by kernel_rfl) rfl (by simp [Ent.arr, Value.oneCell']) ?_; rw [World.setRow_alloc_new]; unfold Ent.arr)
        go_ret3
        exact ⟨rfl, HKA.out⟩
      · have q : ((e.w : Int) == (u : Int)) = false := by simp; omega
        have hgo := HST.out.2.2.2 (fun q => hc q.2) (fun q => by omega) (fun q => by omega)
        have HGO := Lib.hid hgo
        clear HST hgo hk
        (try clear hc)
        (try clear hfm)
        (try clear hfr)
        (try clear hf1)
        (try clear hf2)
        go_wp2_with (refine wpList_store_row rfl 26 (.tmp 8) (.tmp 26) rfl w3.heap.size (Ent.arr e) rfl rfl _ _ (heap_alloc_last _ _) (by kernel_rfl) rfl (by simp [Ent.arr, Value.oneCell']) ?_; rw [World.setRow_alloc_new]; unfold Ent.arr)
        go_roundw
        case rel => exact ⟨i, by have := HI.out; omega, by have := HI.out; go_num, HGO.out.symm, HKA.out⟩
        case measure => have := HI.out; simp [intOf]
    · clear hmay hwf
      have d0 : (e.k == 0) = false := by simp [hk]
      have d2 : (e.k == 2) = false := by simp [hk]
      have d3 : (e.k == 3) = false := by simp [hk]
      have hgo := HST.out.2.2.2 (fun q => by omega) (fun q => by omega) (fun q => by omega)
      have HGO := Lib.hid hgo
      clear HST hgo hk
      (try clear hc)
      (try clear hfm)
      (try clear hfr)
      (try clear hf1)
      (try clear hf2)
      go_wp2_with (refine wpList_store_row rfl 26 (.tmp 8) (.tmp 26) rfl w3.heap.size (Ent.arr e) rfl rfl _ _ (heap_alloc_last _ _) (by kernel_rfl) rfl (by simp [Ent.arr, Value.oneCell']) ?_; rw [World.setRow_alloc_new]; unfold Ent.arr)
      go_roundw
      case rel => exact ⟨i, by have := HI.out; omega, by have := HI.out; go_num, HGO.out.symm, HKA.out⟩
      case measure => have := HI.out; simp [intOf]
    · have e1 : IntKind.u64.wrap e.fm = e.fm := by rw [show IntKind.u64.wrap e.fm = e.fm % 18446744073709551616 from IntKind.wrap_u64 _]; have := hwf.2.2.2.2; omega
      clear hmay hwf
      have d0 : (e.k == 0) = false := by simp [hk]
      have d2 : (e.k == 2) = true := by simp [hk]
      have d3 : (e.k == 3) = false := by simp [hk]
      by_cases hc : e.fm = (Q : Int)
      · have q : (e.fm == (Q : Int)) = true := by simp [hc]
        have e2 : X = (0, true, 0) := HST.out.2.1 hk (by rw [hc, HQ.out])
        subst e2
        clear HST hk
        (try clear hc)
        (try clear hfm)
        (try clear hfr)
        (try clear hf1)
        (try clear hf2)
        go_wp2_with (refine wpList_store_row rfl 26 (.tmp 8) (.tmp 26) rfl w3.heap.size (Ent.arr e) rfl rfl _ _ (heap_alloc_last _ _) (by kernel_rfl) rfl (by simp [Ent.arr, Value.oneCell']) ?_; rw [World.setRow_alloc_new]; unfold Ent.arr)
        go_ret3
        exact ⟨rfl, HKA.out⟩
      · have q : (e.fm == (Q : Int)) = false := by simpa using hc
        have hgo := HST.out.2.2.2 (fun q => by omega) (fun q => hc (by rw [HQ.out]; exact q.2)) (fun q => by omega)
        have HGO := Lib.hid hgo
        clear HST hgo hk
        (try clear hc)
        (try clear hfm)
        (try clear hfr)
        (try clear hf1)
        (try clear hf2)
        go_wp2_with (refine wpList_store_row rfl 26 (.tmp 8) (.tmp 26) rfl w3.heap.size (Ent.arr e) rfl rfl _ _ (heap_alloc_last _ _) (by kernel_rfl) rfl (by simp [Ent.arr, Value.oneCell']) ?_; rw [World.setRow_alloc_new]; unfold Ent.arr)
        go_roundw
        case rel => exact ⟨i, by have := HI.out; omega, by have := HI.out; go_num, HGO.out.symm, HKA.out⟩
        case measure => have := HI.out; simp [intOf]
    · have e1 : IntKind.u64.wrap e.fm = e.fm := by rw [show IntKind.u64.wrap e.fm = e.fm % 18446744073709551616 from IntKind.wrap_u64 _]; have := hwf.2.2.2.2; omega
      clear hmay hwf
      have d0 : (e.k == 0) = false := by simp [hk]
      have d2 : (e.k == 2) = false := by simp [hk]
      have d3 : (e.k == 3) = true := by simp [hk]
      by_cases hc : e.fm = (Q : Int)
      · have q : (e.fm == (Q : Int)) = true := by simp [hc]
        have e2 : X = (0, false, 21) := HST.out.2.2.1 hk (by rw [hc, HQ.out])
        subst e2
        clear HST hk
        (try clear hc)
        (try clear hfm)
        (try clear hfr)
        (try clear hf1)
        (try clear hf2)
        go_wp2_with (refine wpList_store_row rfl 26 (.tmp 8) (.tmp 26) rfl w3.heap.size (Ent.arr e) rfl rfl _ _ (heap_alloc_last _ _) (by kernel_rfl) rfl (by simp [Ent.arr, Value.oneCell']) ?_; rw [World.setRow_alloc_new]; unfold Ent.arr)
        go_ret3
        exact ⟨rfl, HKA.out⟩
      · have q : (e.fm == (Q : Int)) = false := by simpa using hc
        have hgo := HST.out.2.2.2 (fun q => by omega) (fun q => by omega) (fun q => hc (by rw [HQ.out]; exact q.2))
        have HGO := Lib.hid hgo
        clear HST hgo hk
        (try clear hc)
        (try clear hfm)
        (try clear hfr)
        (try clear hf1)
        (try clear hf2)
        go_wp2_with (refine wpList_store_row rfl 26 (.tmp 8) (.tmp 26) rfl w3.heap.size (Ent.arr e) rfl rfl _ _ (heap_alloc_last _ _) (by kernel_rfl) rfl (by simp [Ent.arr, Value.oneCell']) ?_; rw [World.setRow_alloc_new]; unfold Ent.arr)
        go_roundw
        case rel => exact ⟨i, by have := HI.out; omega, by have := HI.out; go_num, HGO.out.symm, HKA.out⟩
        case measure => have := HI.out; simp [intOf]
end Go.Proofs.YtgjjbgijdgihcaaDoor
