/-
  A buffer's functions on rows, as the document writes them (tenement/tenementref09). No condition.
-/
import Derived.Test.YtgjjbgijdgihcaaDoorRMay09
import Derived.Test.YtgjjbgijdgihcaaDoorApp09
namespace Go.Proofs.YtgjjbgijdgihcaaDoor
open Go Go.RowKit

theorem rcheck_any (a0 : Option Addr) (cap N : Nat) (L : List Ent) (w : World) (hN : N = L.length) (h : RowE w a0 cap L) :
    Calls Tryd.prog 16 #[.slice a0 N cap] w fun r w' => r = .returned (.int .i64 (if okB L = true then 0 else 2)) ∧ Kp w w' := by
  obtain ⟨E, hE⟩ : ∃ E : Int, (if okB L = true then (0 : Int) else 2) = E := ⟨_, rfl⟩
  rw [hE]
  have HV := Lib.hid hE
  clear hE
  by_cases h8 : 8 < N
  · have d8 : decide (8 < (N : Int)) = true := decide_eq_true (by omega)
    have d8' : decide (8 < N) = true := decide_eq_true h8
    have e2 : E = 2 := HV.out.symm.trans (if_neg (fun q => by have := (okB_parts q).1; omega))
    subst e2
    clear h HV
    go_enter Tryd.func16, Tryd.ntmps16
    go_wp2
    go_ret
    exact ⟨rfl, Kp.refl w⟩
  have d8 : decide (8 < (N : Int)) = false := decide_eq_false (by omega)
  have d8' : decide (8 < N) = false := decide_eq_false h8
  have hNI : (N : Int) ≤ 8 := by omega
  have HE := Lib.hid hN
  have H := Lib.hid h
  clear h hN h8
  go_enter Tryd.func16, Tryd.ntmps16
  go_wp2_with fail
  go_loopw [3] (fun i wr => ∃ k : Nat, k ≤ N ∧ i = .int .i64 k ∧ (∀ j e, j < k → L[j]? = some e → mayB e = true) ∧ Kp w wr) (fun i _ => N - (intOf i).toNat)
  case atStart => exact ⟨0, by omega, rfl, fun j e hj => by omega, Kp.refl w⟩
  case round =>
    obtain ⟨k, hkN, rfl, hm, hk⟩ := hrel
    obtain ⟨w3, rfl⟩ : ∃ w3, w3 = wr := ⟨_, rfl⟩
    have HM := Lib.hid hm
    have HK := Lib.hid hk
    clear hm hk
    by_cases hkl : k = N
    · subst hkl
      clear hkN
      have hall : ∀ e ∈ L, mayB e = true := fun e he => by
        obtain ⟨j, hj⟩ := List.mem_iff_getElem?.1 he
        exact HM.out j e (by have := (List.getElem?_eq_some_iff.1 hj).1; have := HE.out; omega) hj
      cases hL : L with
      | nil =>
        have hk0 : k = 0 := by have := HE.out; rw [hL] at this; simpa using this
        have e2 : E = 0 := HV.out.symm.trans (if_pos (by rw [hL]; rfl))
        subst e2
        clear HV
        subst hk0
        go_wp2
        go_ret
        exact ⟨rfl, HK.out⟩
      | cons e l =>
        have hk0 : 0 < k := by have := HE.out; rw [hL] at this; simp at this; omega
        have f1 : decide (0 < (k : Int)) = true := decide_eq_true (by omega)
        have f2 : decide (0 < k) = true := decide_eq_true hk0
        have i1 : (0 : Int) < (k : Int) := by omega
        obtain ⟨b, off, rfl, hlt, hc⟩ := (H.out.kp HK.out).at (k := 0) (e := e) (by rw [hL]; rfl)
        have c0 := (hc 0 e (by rw [hL]; rfl)).1
        rw [Nat.zero_mul, Nat.add_zero] at c0
        clear hc hlt
        by_cases hb : e.k = 1
        · have q : (e.k == 1) = true := by simp [hb]
          have e2 : E = 2 := HV.out.symm.trans (if_neg (fun q => by have := (okB_parts q).2.2; rw [hL] at this; simp [headBar] at this; exact this hb))
          subst e2
          clear HV
          go_wp2
          go_ret
          exact ⟨rfl, HK.out⟩
        · have q : (e.k == 1) = false := by simp [hb]
          have e2 : E = 0 := HV.out.symm.trans (if_pos (okB_of (by have := HE.out; omega) hall (by rw [hL]; simpa [headBar] using hb)))
          subst e2
          clear HV
          go_wp2
          go_ret
          exact ⟨rfl, HK.out⟩
    · have hkl' : k < N := by omega
      have i0 : (0 : Int) ≤ (k : Int) := by omega
      have i1 : (k : Int) < (N : Int) := by omega
      have hx : L[k]? = some (L[k]'(by have := HE.out; omega)) := List.getElem?_eq_getElem _
      generalize L[k]'(by have := HE.out; omega) = e at hx
      obtain ⟨b, off, rfl, hlt, hc⟩ := (H.out.kp HK.out).at hx
      obtain ⟨c0, c1, c2, c3, c4⟩ := hc k e hx
      have HX := Lib.hid hx
      have HL := Lib.hid hkl'
      have HY := Lib.hid (rmay_any e)
      clear hc hlt hx hkl' hkN hkl
      unfold Ent.arr at HY
      cases hme : mayB e with
      | true =>
        rw [hme] at HY
        go_wp2_with (go_at_call 25; refine (HY.out _).mono ?_; rintro r w4 ⟨rfl, hg⟩; have HK4 := Lib.hid (HK.out.trans hg); clear hg)
        go_roundw
        case rel => exact ⟨k + 1, HL.out, by go_num, fun j x hj hx => by
          by_cases c : j < k
          · exact HM.out j x c hx
          · obtain rfl : j = k := by omega
            have := HX.out
            rw [this] at hx
            cases hx
            exact hme, HK4.out⟩
        case measure => have := HL.out; simp [intOf]; omega
      | false =>
        rw [hme] at HY
        have e2 : E = 2 := HV.out.symm.trans (if_neg (fun q => by have := (okB_parts q).2.1 e (List.mem_of_getElem? HX.out); rw [hme] at this; cases this))
        subst e2
        clear HV
        go_wp2_with (go_at_call 25; refine (HY.out _).mono ?_; rintro r w4 ⟨rfl, hg⟩; have HK4 := Lib.hid (HK.out.trans hg); clear hg)
        go_ret
        exact ⟨rfl, HK4.out⟩
theorem rfirst_snoc (A : List Ent) (e : Ent) : firstL (A ++ [e]) = if firstL A = [] ∧ e.k = 1 then [] else firstL A ++ [e] := by
  unfold firstL
  rw [List.dropWhile_append]
  cases hA : A.dropWhile (fun e => e.k == 1) with
  | nil =>
    by_cases c : e.k = 1
    · simp [c]
    · simp [c]
  | cons a l => simp
theorem rfirst_any (a0 : Option Addr) (cap N : Nat) (L : List Ent) (w : World) (hN : N = L.length) (h : RowE w a0 cap L) (hn : L.length ≤ 100) :
    Calls Tryd.prog 26 #[.slice a0 N cap] w fun r w' => ∃ v, r = .returned v ∧ OwnsE w' w.heap.size v (firstL L) ∧ Kp w w' := by
  obtain ⟨i0, hi0, hz0, hz1, hz2⟩ := info_parts ent_info
  have hNI : (N : Int) ≤ 100 := by omega
  have HE := Lib.hid hN
  have H := Lib.hid h
  clear h hN hn
  go_enter Tryd.func26, Tryd.ntmps26
  go_wp2_with fail
  go_loopw [3, 4] (fun l i wr => ∃ k : Nat, k ≤ N ∧ i = .int .i64 k ∧ OwnsE wr w.heap.size l (firstL (L.take k)) ∧ Kp w wr) (fun _ i _ => N - (intOf i).toNat)
  case atStart => exact ⟨0, by omega, rfl, OwnsE.nil _ _, Kp.refl w⟩
  case round =>
    obtain ⟨k, hkN, rfl, ho, hk⟩ := hrel
    obtain ⟨w3, rfl⟩ : ∃ w3, w3 = wr := ⟨_, rfl⟩
    have HO := Lib.hid ho
    have HK := Lib.hid hk
    obtain ⟨a1, c1, rfl, -⟩ := ho.row
    clear hk ho
    by_cases hkl : k = N
    · subst hkl
      clear hkN
      go_wp2
      go_ret
      have ht : L.take k = L := by rw [HE.out]; exact List.take_length
      have h2 := HO.out
      rw [ht] at h2
      exact ⟨_, by rw [ht]; rfl, h2, HK.out⟩
    · have hkl' : k < N := by omega
      have j0 : (0 : Int) ≤ (k : Int) := by omega
      have j1 : (k : Int) < (N : Int) := by omega
      have hx : L[k]? = some (L[k]'(by have := HE.out; omega)) := List.getElem?_eq_getElem _
      generalize L[k]'(by have := HE.out; omega) = e at hx
      have hts : L.take (k + 1) = L.take k ++ [e] := by rw [List.take_add_one, hx]; rfl
      have hsn := rfirst_snoc (L.take k) e
      rw [← hts] at hsn
      have HSN := Lib.hid hsn
      have HFL : Hid ((firstL (L.take k)).length + 1 ≤ 1000) := Lib.hid (by have := firstL_len (L.take k); rw [List.length_take] at this; have := HE.out; omega)
      obtain ⟨b, off, rfl, hlt, hc⟩ := (H.out.kp HK.out).at hx
      obtain ⟨p0, p1, p2, p3, p4⟩ := hc k e hx
      have HL := Lib.hid hkl'
      have HM := Lib.hid (fitsE HFL.out)
      have HZ : Hid (w.heap.size ≤ (w3.alloc (.cells e.arr 26)).heap.size) := Lib.hid ((HK.out.alloc _ _).size)
      clear hc hlt hx hkl' hkN hkl hts hsn
      unfold Ent.arr at HZ
      cases hF : firstL (L.take k) with
      | nil =>
        rw [hF] at HO HSN
        have z0 : decide ((0 : Int) < (([] : List Ent).length : Int)) = false := rfl
        by_cases hb : e.k = 1
        · have q : (e.k != 1) = false := by simp [hb]
          rw [if_pos ⟨rfl, hb⟩] at HSN
          go_wp2_with fail
          go_roundw
          case rel => exact ⟨k + 1, HL.out, by go_num, by rw [HSN.out]; exact HO.out, HK.out⟩
          case measure => have := HL.out; simp [intOf]; omega
        · have q : (e.k != 1) = true := by simp [hb]
          rw [if_neg (fun h => hb h.2)] at HSN
          rw [hF] at HM
          go_wp2_with (at_builtin; refine wpList_append_own_at _ rfl (.tmp 22) (.tmp 27) _ rfl w.heap.size 26 i0 _ 5 40 Tryd.underlying22 hi0 hz0 hz1 hz2 rfl (by decide) _ _ _ rfl (World.ownsRow.alloc HO.out _) ⟨w3.heap.size, 0, none⟩ 1 1 (e.cells) rfl rfl (news_ent w3 e 26) (ent_one e) HM.out.1 HM.out.2 HZ.out ?_; intro v' w9 hown1 hg1 hn1 hat1; have HA := Lib.hid (OwnsE.next1 HO.out HK.out hown1 hg1); clear hown1 hg1 hn1 hat1)
          go_roundw
          case rel => exact ⟨k + 1, HL.out, by go_num, by rw [HSN.out]; exact HA.out.1, HA.out.2⟩
          case measure => have := HL.out; simp [intOf]; omega
      | cons a t =>
        rw [hF] at HO HSN HM
        rw [if_neg (fun h => by cases h.1)] at HSN
        have z0 : decide ((0 : Int) < ((a :: t).length : Int)) = true := decide_eq_true (by simp)
        have z1 : decide (0 < (a :: t).length) = true := decide_eq_true (by simp)
        generalize hA : (a :: t).length = M at *
        have z2 : 0 < M := by rw [← hA]; simp
        go_wp2_with (at_builtin; refine wpList_append_own_at _ rfl (.tmp 22) (.tmp 27) _ rfl w.heap.size 26 i0 _ 5 40 Tryd.underlying22 hi0 hz0 hz1 hz2 rfl (by decide) _ _ _ rfl (World.ownsRow.alloc (by have q := HO.out; unfold OwnsE at q; rw [hA] at q; exact q) _) ⟨w3.heap.size, 0, none⟩ 1 1 (e.cells) rfl rfl (news_ent w3 e 26) (ent_one e) HM.out.1 HM.out.2 HZ.out ?_; intro v' w9 hown1 hg1 hn1 hat1; have HA := Lib.hid (OwnsE.next1 HO.out HK.out (by rw [hA]; exact hown1) hg1); clear hown1 hg1 hn1 hat1)
        go_roundw
        case rel => exact ⟨k + 1, HL.out, by go_num, by rw [HSN.out]; exact HA.out.1, HA.out.2⟩
        case measure => have := HL.out; simp [intOf]; omega
set_option maxHeartbeats 4000000 in
theorem rpush_any (a0 : Option Addr) (cap N : Nat) (L : List Ent) (e : Ent) (w : World) (hN : N = L.length) (h : RowE w a0 cap L) :
    Calls Tryd.prog 9 #[.slice a0 N cap, .agg (Ent.arr e)] w fun r w' => ∃ v, r = .returned (.tuple #[v, .int .i64 (pushB L e).2]) ∧ OwnsE w' w.heap.size v (pushB L e).1 ∧ Kp w w' := by
  obtain ⟨i0, hi0, hz0, hz1, hz2⟩ := info_parts ent_info
  have HC := Lib.hid (fun w1 (g : Kp w w1) => rcheck_any a0 cap N L w1 hN (h.kp g))
  have HY := Lib.hid (rmay_any e)
  have HB := Lib.hid (Blk.new w (Ent.arr e) 26)
  have HK := Lib.hid ((Kp.refl w).alloc (Ent.arr e) 26)
  have H := Lib.hid h
  clear h
  have HE := Lib.hid hN
  clear hN
  unfold Ent.arr at HB HK HY ⊢
  cases hok : okB L with
  | false =>
    have e1 : (pushB L e).2 = 2 := by unfold pushB; rw [hok]; rfl
    have e2 : (pushB L e).1 = [] := by unfold pushB; rw [hok]; rfl
    rw [e1, e2]
    rw [hok, if_neg (by decide)] at HC
    go_enter Tryd.func9, Tryd.ntmps9
    go_wp2_with (go_at_call 16; refine (HC.out _ HK.out).mono ?_; rintro r w1 ⟨rfl, hg⟩; have K1 := Lib.hid hg; clear hg)
    go_ret2
    exact ⟨_, rfl, OwnsE.nil _ _, HK.out.trans K1.out⟩
  | true =>
    rw [hok, if_pos rfl] at HC
    cases hme : mayB e with
    | false =>
      have e1 : (pushB L e).2 = 2 := by unfold pushB; rw [hok, hme]; rfl
      have e2 : (pushB L e).1 = [] := by unfold pushB; rw [hok, hme]; rfl
      rw [e1, e2]
      rw [hme] at HY
      go_enter Tryd.func9, Tryd.ntmps9
      go_wp2_with (first
        | (go_at_call 16; refine (HC.out _ HK.out).mono ?_; rintro r w1 ⟨rfl, hg⟩; have K1 := Lib.hid hg; clear hg; have q0 := (HB.out.kp K1.out).cell 0; have q1 := (HB.out.kp K1.out).cell 1; have q2 := (HB.out.kp K1.out).cell 2; have q3 := (HB.out.kp K1.out).cell 3; have q4 := (HB.out.kp K1.out).cell 4)
        | (go_at_call 25; refine (HY.out _).mono ?_; rintro r w2 ⟨rfl, hg⟩; have K2 := Lib.hid hg; clear hg))
      go_ret2
      exact ⟨_, rfl, OwnsE.nil _ _, (HK.out.trans K1.out).trans K2.out⟩
    | true =>
      rw [hme] at HY
      by_cases h8 : N < 8
      · have f1 : decide (8 ≤ (N : Int)) = false := decide_eq_false (by omega)
        have f2 : decide (8 ≤ N) = false := decide_eq_false (by omega)
        have e1 : (pushB L e).2 = 0 := by unfold pushB; rw [hok, hme, Bool.and_self, if_pos rfl, if_pos (by have := HE.out; omega)]
        have e2 : (pushB L e).1 = firstL (L ++ [e]) := by unfold pushB; rw [hok, hme, Bool.and_self, if_pos rfl, if_pos (by have := HE.out; omega)]
        rw [e1, e2]
        have HM := Lib.hid (fitsE (n := 0) (m := L.length) (by have := HE.out; omega))
        have HM2 := Lib.hid (fitsE (n := L.length) (m := 1) (by have := HE.out; omega))
        have HL : Hid ((L ++ [e]).length ≤ 100) := Lib.hid (by rw [List.length_append]; have := HE.out; simp; omega)
        clear h8 e1 e2 hok
        go_enter Tryd.func9, Tryd.ntmps9
        go_wp2_with (first
          | (go_at_call 16; refine (HC.out _ HK.out).mono ?_; rintro r w1 ⟨rfl, hg⟩; have K1 := Lib.hid hg; clear hg; have q0 := (HB.out.kp K1.out).cell 0; have q1 := (HB.out.kp K1.out).cell 1; have q2 := (HB.out.kp K1.out).cell 2; have q3 := (HB.out.kp K1.out).cell 3; have q4 := (HB.out.kp K1.out).cell 4)
          | (go_at_call 25; refine (HY.out _).mono ?_; rintro r w2 ⟨rfl, hg⟩; have K2 := Lib.hid hg; clear hg q0 q1 q2 q3 q4; have KK := Lib.hid ((HK.out.trans K1.out).trans K2.out); have q0 := ((HB.out.kp K1.out).kp K2.out).cell 0; have q1 := ((HB.out.kp K1.out).kp K2.out).cell 1; have q2 := ((HB.out.kp K1.out).kp K2.out).cell 2; have q3 := ((HB.out.kp K1.out).kp K2.out).cell 3; have q4 := ((HB.out.kp K1.out).kp K2.out).cell 4)
          | (at_builtin; refine wpList_append_own_at _ rfl (.tmp 21) (.tmp 23) _ rfl w.heap.size 26 i0 _ 5 40 Tryd.underlying22 hi0 hz0 hz1 hz2 rfl (by decide) _ _ _ rfl (World.ownsRow.alloc HO3.out _) ⟨w3.heap.size, 0, none⟩ 1 1 (e.cells) rfl rfl (news_ent w3 e 26) (ent_one e) HM2.out.1 HM2.out.2 HZ.out ?_; intro v4 w4 hown1 hg1 hn1 hat1; have HA := Lib.hid (OwnsE.next1 HO3.out K3.out hown1 hg1); clear hown1 hg1 hn1 hat1; obtain ⟨a4, c4, rfl, h4⟩ := HA.out.1.row; have H4 := Lib.hid h4; clear h4)
          | (at_builtin; refine wpList_append_row rfl (.tmp 18) (.tmp 19) rfl w.heap.size _ [] L rfl (OwnsE.nil _ _) a0 N cap HE.out rfl (fun hn => by have q := H.out.kp KK.out; obtain ⟨b, off, q1, q2, _⟩ := q; exact ⟨b, off, (q1 hn).1, q2⟩) (by have := HL.out; rw [List.length_append] at this; simp; omega) KK.out.size ?_; intro v3 w3 hown3 hg3; have HO3 := Lib.hid (show OwnsE w3 w.heap.size v3 L from hown3); have K3 := Lib.hid (Kp.grown KK.out hg3 (fun k e => by cases e)); have HB3 := Lib.hid (Blk.grownOf ((HB.out.kp K1.out).kp K2.out) hg3 (fun e => by cases e)); clear hown3 hg3 q0 q1 q2 q3 q4; have HZ : Hid (w.heap.size ≤ (w3.alloc (.cells #[.int .i8 e.k, .int .u64 e.w, .int .u64 e.x, .int .i64 e.fr, .int .i64 e.fm] 26)).heap.size) := Lib.hid ((K3.out.alloc _ _).size); have q0 := HB3.out.cell 0; have q1 := HB3.out.cell 1; have q2 := HB3.out.cell 2; have q3 := HB3.out.cell 3; have q4 := HB3.out.cell 4)
          | (go_at_call 26; refine (rfirst_any a4 c4 _ (L ++ [e]) w4 (by simp) H4.out HL.out).mono ?_; rintro r w5 ⟨v5, rfl, ho5, hg5⟩; have HO5 := Lib.hid ho5; have K5 := Lib.hid hg5; clear ho5 hg5))
        go_ret2
        exact ⟨_, rfl, HO5.out.low HA.out.2.size, HA.out.2.trans K5.out⟩
      · have f1 : decide (8 ≤ (N : Int)) = true := decide_eq_true (by omega)
        have f2 : decide (8 ≤ N) = true := decide_eq_true (by omega)
        have e1 : (pushB L e).2 = 20 := by unfold pushB; rw [hok, hme, Bool.and_self, if_pos rfl, if_neg (by have := HE.out; omega)]
        have e2 : (pushB L e).1 = [] := by unfold pushB; rw [hok, hme, Bool.and_self, if_pos rfl, if_neg (by have := HE.out; omega)]
        rw [e1, e2]
        clear h8 e1 e2 hok
        go_enter Tryd.func9, Tryd.ntmps9
        go_wp2_with (first
          | (go_at_call 16; refine (HC.out _ HK.out).mono ?_; rintro r w1 ⟨rfl, hg⟩; have K1 := Lib.hid hg; clear hg; have q0 := (HB.out.kp K1.out).cell 0; have q1 := (HB.out.kp K1.out).cell 1; have q2 := (HB.out.kp K1.out).cell 2; have q3 := (HB.out.kp K1.out).cell 3; have q4 := (HB.out.kp K1.out).cell 4)
          | (go_at_call 25; refine (HY.out _).mono ?_; rintro r w2 ⟨rfl, hg⟩; have K2 := Lib.hid hg; clear hg))
        go_ret2
        exact ⟨_, rfl, OwnsE.nil _ _, (HK.out.trans K1.out).trans K2.out⟩
theorem ten_kp {w w' : World} {b o1 o2 : Nat} {a e : Ent} (h : w.cell? ⟨b, o1, none⟩ = some (.int .i8 a.k) ∧ w.cell? ⟨b, o1 + 1, none⟩ = some (.int .u64 a.w) ∧ w.cell? ⟨b, o1 + 2, none⟩ = some (.int .u64 a.x) ∧ w.cell? ⟨b, o1 + 3, none⟩ = some (.int .i64 a.fr) ∧ w.cell? ⟨b, o1 + 4, none⟩ = some (.int .i64 a.fm) ∧ w.cell? ⟨b, o2, none⟩ = some (.int .i8 e.k) ∧ w.cell? ⟨b, o2 + 1, none⟩ = some (.int .u64 e.w) ∧ w.cell? ⟨b, o2 + 2, none⟩ = some (.int .u64 e.x) ∧ w.cell? ⟨b, o2 + 3, none⟩ = some (.int .i64 e.fr) ∧ w.cell? ⟨b, o2 + 4, none⟩ = some (.int .i64 e.fm)) (g : Kp w w') : w'.cell? ⟨b, o1, none⟩ = some (.int .i8 a.k) ∧ w'.cell? ⟨b, o1 + 1, none⟩ = some (.int .u64 a.w) ∧ w'.cell? ⟨b, o1 + 2, none⟩ = some (.int .u64 a.x) ∧ w'.cell? ⟨b, o1 + 3, none⟩ = some (.int .i64 a.fr) ∧ w'.cell? ⟨b, o1 + 4, none⟩ = some (.int .i64 a.fm) ∧ w'.cell? ⟨b, o2, none⟩ = some (.int .i8 e.k) ∧ w'.cell? ⟨b, o2 + 1, none⟩ = some (.int .u64 e.w) ∧ w'.cell? ⟨b, o2 + 2, none⟩ = some (.int .u64 e.x) ∧ w'.cell? ⟨b, o2 + 3, none⟩ = some (.int .i64 e.fr) ∧ w'.cell? ⟨b, o2 + 4, none⟩ = some (.int .i64 e.fm) := by
  obtain ⟨a0, a1, a2, a3, a4, b0, b1, b2, b3, b4⟩ := h
  have f := fun (o : Nat) (v : Value) (q : w.cell? ⟨b, o, none⟩ = some v) => (g.cell (lt_of_cell' q)).trans q
  exact ⟨f _ _ a0, f _ _ a1, f _ _ a2, f _ _ a3, f _ _ a4, f _ _ b0, f _ _ b1, f _ _ b2, f _ _ b3, f _ _ b4⟩
set_option maxHeartbeats 4000000 in
theorem rmayat_any (a0 : Option Addr) (cap N : Nat) (L : List Ent) (k : Int) (w : World) (hN : N = L.length) (h : RowE w a0 cap L) (hw : ∀ e ∈ L, e.wf) :
    Calls Tryd.prog 18 #[.slice a0 N cap, .int .i64 k] w fun r w' => r = .returned (.bool (mayAt L k)) ∧ Kp w w' := by
  have HC := Lib.hid (rcheck_any a0 cap N L w hN h)
  obtain ⟨V, hV⟩ : ∃ V, mayAt L k = V := ⟨_, rfl⟩
  rw [hV]
  have HV := Lib.hid hV
  clear hV
  have HE := Lib.hid hN
  have H := Lib.hid h
  have HW := Lib.hid hw
  clear hN h hw
  cases hok : okB L with
  | false =>
    have e2 : V = false := HV.out.symm.trans (by unfold mayAt; rw [hok]; rfl)
    subst e2
    rw [hok, if_neg (by decide)] at HC
    clear HV
    go_enter Tryd.func18, Tryd.ntmps18
    go_wp2_with (go_at_call 16; refine HC.out.mono ?_; rintro r w1 ⟨rfl, hg⟩; have K1 := Lib.hid hg; clear hg)
    go_ret
    exact ⟨rfl, K1.out⟩
  | true =>
  rw [hok, if_pos rfl] at HC
  have HK := Lib.hid hok
  clear hok
  by_cases hk0 : k < 0
  · have e2 : V = false := HV.out.symm.trans (by
      cases hm : mayAt L k with
      | false => rfl
      | true => obtain ⟨_, n, _, rfl, _⟩ := mayAt_parts hm; omega)
    subst e2
    have f1 : decide (k < 0) = true := decide_eq_true hk0
    clear HV hk0
    go_enter Tryd.func18, Tryd.ntmps18
    go_wp2_with (go_at_call 16; refine HC.out.mono ?_; rintro r w1 ⟨rfl, hg⟩; have K1 := Lib.hid hg; clear hg)
    go_ret
    exact ⟨rfl, K1.out⟩
  have f1 : decide (k < 0) = false := decide_eq_false hk0
  by_cases hkN : (N : Int) ≤ k
  · have e2 : V = false := HV.out.symm.trans (by
      cases hm : mayAt L k with
      | false => rfl
      | true => obtain ⟨_, n, _, rfl, hn, _⟩ := mayAt_parts hm; have := HE.out; omega)
    subst e2
    have f2 : decide ((N : Int) ≤ k) = true := decide_eq_true hkN
    clear HV hk0 hkN
    go_enter Tryd.func18, Tryd.ntmps18
    go_wp2_with (go_at_call 16; refine HC.out.mono ?_; rintro r w1 ⟨rfl, hg⟩; have K1 := Lib.hid hg; clear hg)
    go_ret
    exact ⟨rfl, K1.out⟩
  have f2 : decide ((N : Int) ≤ k) = false := decide_eq_false hkN
  obtain ⟨n, rfl⟩ : ∃ n : Nat, k = n := ⟨k.toNat, by omega⟩
  have hnN : n < N := by omega
  have hx : L[n]? = some (L[n]'(by have := HE.out; omega)) := List.getElem?_eq_getElem _
  generalize L[n]'(by have := HE.out; omega) = e at hx
  have n0 : (0 : Int) ≤ (n : Int) := by omega
  have n1 : (n : Int) < (N : Int) := by omega
  have f3 : decide (N ≤ n) = false := decide_eq_false (by omega)
  have hN8 : (N : Int) ≤ 8 := by have := (okB_parts HK.out).1; have := HE.out; omega
  obtain ⟨b, off, rfl, hlt, hc⟩ := H.out.at hx
  have HCe := Lib.hid hc
  have HB := Lib.hid hlt
  have HX := Lib.hid hx
  have HNn := Lib.hid hnN
  clear hc hlt hx hnN hk0 hkN
  by_cases hb : e.k = 1
  · have e2 : V = false := HV.out.symm.trans (bar_stops HX.out hb (Nat.le_refl _))
    subst e2
    have q : (e.k == 1) = true := by simp [hb]
    clear HV
    go_enter Tryd.func18, Tryd.ntmps18
    go_wp2_with (go_at_call 16; refine HC.out.mono ?_; rintro r w1 ⟨rfl, hg⟩; have c0 := (hg.cell HB.out).trans (HCe.out n e HX.out).1; have K1 := Lib.hid hg; clear hg)
    go_ret
    exact ⟨rfl, K1.out⟩
  have q : (e.k == 1) = false := by simp [hb]
  have HBar := Lib.hid hb
  clear hb
  go_enter Tryd.func18, Tryd.ntmps18
  go_wp2_with (go_at_call 16; refine HC.out.mono ?_; rintro r w1 ⟨rfl, hg⟩; have c0 := (hg.cell HB.out).trans (HCe.out n e HX.out).1; have K1 := Lib.hid hg; clear hg)
  clear c0
  go_loopw [5] (fun i wr => ∃ i' : Nat, i' ≤ n ∧ i = .int .i64 i' ∧ (∀ j a, j < i' → L[j]? = some a → a.k ≠ 1 ∧ tchB a e = false) ∧ Kp w wr) (fun i _ => n - (intOf i).toNat)
  case atStart => exact ⟨0, by omega, rfl, fun j a hj => by omega, K1.out⟩
  case round =>
    obtain ⟨i, hin, rfl, hf, hk⟩ := hrel
    obtain ⟨w3, rfl⟩ : ∃ w3, w3 = wr := ⟨_, rfl⟩
    have HFr := Lib.hid hf
    have HKr := Lib.hid hk
    clear hf hk
    by_cases hi : i = n
    · subst hi
      have e2 : V = true := HV.out.symm.trans (mayAt_of HK.out HX.out HBar.out HFr.out)
      subst e2
      clear hin HV
      go_wp2
      go_ret
      exact ⟨rfl, HKr.out⟩
    have hil : i < n := by omega
    have i0 : (0 : Int) ≤ (i : Int) := by omega
    have i1 : (i : Int) < (n : Int) := by omega
    have i2 : (i : Int) < (N : Int) := by omega
    have hy : L[i]? = some (L[i]'(by have := HE.out; have := HNn.out; omega)) := List.getElem?_eq_getElem _
    generalize L[i]'(by have := HE.out; have := HNn.out; omega) = a at hy
    have HYi := Lib.hid hy
    have HIl := Lib.hid hil
    have HS : Hid (w3.drew.cell? ⟨b, off + i * 5, none⟩ = some (.int .i8 a.k) ∧ w3.drew.cell? ⟨b, off + i * 5 + 1, none⟩ = some (.int .u64 a.w) ∧ w3.drew.cell? ⟨b, off + i * 5 + 2, none⟩ = some (.int .u64 a.x) ∧ w3.drew.cell? ⟨b, off + i * 5 + 3, none⟩ = some (.int .i64 a.fr) ∧ w3.drew.cell? ⟨b, off + i * 5 + 4, none⟩ = some (.int .i64 a.fm) ∧ w3.drew.cell? ⟨b, off + n * 5, none⟩ = some (.int .i8 e.k) ∧ w3.drew.cell? ⟨b, off + n * 5 + 1, none⟩ = some (.int .u64 e.w) ∧ w3.drew.cell? ⟨b, off + n * 5 + 2, none⟩ = some (.int .u64 e.x) ∧ w3.drew.cell? ⟨b, off + n * 5 + 3, none⟩ = some (.int .i64 e.fr) ∧ w3.drew.cell? ⟨b, off + n * 5 + 4, none⟩ = some (.int .i64 e.fm)) := Lib.hid (by
      have k := HKr.out
      obtain ⟨u0, u1, u2, u3, u4⟩ := HCe.out i a hy
      obtain ⟨v0, v1, v2, v3, v4⟩ := HCe.out n e HX.out
      exact ⟨(k.drew.cell HB.out).trans u0, (k.drew.cell HB.out).trans u1, (k.drew.cell HB.out).trans u2, (k.drew.cell HB.out).trans u3, (k.drew.cell HB.out).trans u4, (k.drew.cell HB.out).trans v0, (k.drew.cell HB.out).trans v1, (k.drew.cell HB.out).trans v2, (k.drew.cell HB.out).trans v3, (k.drew.cell HB.out).trans v4⟩)
    have HT := Lib.hid (fun w1 => rtouch_any a e w1 (HW.out a (List.mem_of_getElem? hy)) (HW.out e (List.mem_of_getElem? HX.out)))
    have HKd := Lib.hid HKr.out.drew
    clear hin hi hil hy
    unfold Ent.arr at HT
    by_cases ha : a.k = 1
    · have qa : (a.k == 1) = true := by simp [ha]
      have e2 : V = false := HV.out.symm.trans (bar_stops HYi.out ha (by have := HIl.out; omega))
      subst e2
      clear HV HT
      go_wp2_with fail
      refine wp_region_held_drew (S := fun w' => w'.cell? ⟨b, off + i * 5, none⟩ = some (.int .i8 a.k) ∧ w'.cell? ⟨b, off + i * 5 + 1, none⟩ = some (.int .u64 a.w) ∧ w'.cell? ⟨b, off + i * 5 + 2, none⟩ = some (.int .u64 a.x) ∧ w'.cell? ⟨b, off + i * 5 + 3, none⟩ = some (.int .i64 a.fr) ∧ w'.cell? ⟨b, off + i * 5 + 4, none⟩ = some (.int .i64 a.fm) ∧ w'.cell? ⟨b, off + n * 5, none⟩ = some (.int .i8 e.k) ∧ w'.cell? ⟨b, off + n * 5 + 1, none⟩ = some (.int .u64 e.w) ∧ w'.cell? ⟨b, off + n * 5 + 2, none⟩ = some (.int .u64 e.x) ∧ w'.cell? ⟨b, off + n * 5 + 3, none⟩ = some (.int .i64 e.fr) ∧ w'.cell? ⟨b, off + n * 5 + 4, none⟩ = some (.int .i64 e.fm)) (by kernel_rfl) HS.out (fun hHeld => ?_)
      clear HS
      refine wpAnyH_take (i := 0) (oi := ?p0y1) (v := ?v0y1) ?o0y1 (by kernel_rfl) (by kernel_rfl) (by kernel_rfl) ?q0y1 ?y0y1 (by assumption) ?r0y1
      case o0y1 => (simp only [List.getElem?_toArray, List.getElem?_cons_zero]; rfl)
      case q0y1 => (exact fun _ _ _ h => h)
      case y0y1 => (refine Or.inl ⟨by rfl, ?_⟩; intro w hSw; (try dsimp only at hSw); go_simp; (try with_reducible rfl))
      simp only [Act.put, List.setIfInBounds_toArray, List.set_cons_zero, List.set_cons_succ]
      refine wpAnyH_take (i := 1) (oi := ?p1y2) (v := ?v1y2) ?o1y2 (by kernel_rfl) (by kernel_rfl) (by kernel_rfl) ?q1y2 ?y1y2 (by assumption) ?r1y2
      case o1y2 => (simp only [List.getElem?_toArray, List.getElem?_cons_succ, List.getElem?_cons_zero]; rfl)
      case q1y2 => (exact fun _ _ _ h => h)
      case y1y2 => (refine Or.inl ⟨by rfl, ?_⟩; intro w hSw; (try dsimp only at hSw); go_simp; (try with_reducible rfl))
      simp only [Act.put, List.setIfInBounds_toArray, List.set_cons_zero, List.set_cons_succ]
      refine wpAnyH_take (i := 2) (oi := ?p2y3) (v := ?v2y3) ?o2y3 (by kernel_rfl) (by kernel_rfl) (by kernel_rfl) ?q2y3 ?y2y3 (by assumption) ?r2y3
      case o2y3 => (simp only [List.getElem?_toArray, List.getElem?_cons_succ, List.getElem?_cons_zero]; rfl)
      case q2y3 => (exact fun _ _ _ h => h)
      case y2y3 => (refine Or.inl ⟨by rfl, ?_⟩; intro w hSw; (try dsimp only at hSw); go_simp; (try with_reducible rfl))
      simp only [Act.put, List.setIfInBounds_toArray, List.set_cons_zero, List.set_cons_succ]
      refine wpAnyH_take (i := 3) (oi := ?p3y4) (v := ?v3y4) ?o3y4 (by kernel_rfl) (by kernel_rfl) (by kernel_rfl) ?q3y4 ?y3y4 (by assumption) ?r3y4
      case o3y4 => (simp only [List.getElem?_toArray, List.getElem?_cons_succ, List.getElem?_cons_zero]; rfl)
      case q3y4 => (exact fun _ _ _ h => h)
      case y3y4 => (refine Or.inl ⟨by rfl, ?_⟩; intro w hSw; (try dsimp only at hSw); go_simp; (try with_reducible rfl))
      simp only [Act.put, List.setIfInBounds_toArray, List.set_cons_zero, List.set_cons_succ]
      refine wpAnyH_take (i := 4) (oi := ?p4y5) (v := ?v4y5) ?o4y5 (by kernel_rfl) (by kernel_rfl) (by kernel_rfl) ?q4y5 ?y4y5 (by assumption) ?r4y5
      case o4y5 => (simp only [List.getElem?_toArray, List.getElem?_cons_succ, List.getElem?_cons_zero]; rfl)
      case q4y5 => (exact fun _ _ _ h => h)
      case y4y5 => (refine Or.inl ⟨by rfl, ?_⟩; intro w hSw; (try dsimp only at hSw); go_simp; (try with_reducible rfl))
      simp only [Act.put, List.setIfInBounds_toArray, List.set_cons_zero, List.set_cons_succ]
      refine wpAnyH_take (i := 5) (oi := ?p5y6) (v := ?v5y6) ?o5y6 (by kernel_rfl) (by kernel_rfl) (by kernel_rfl) ?q5y6 ?y5y6 (by assumption) ?r5y6
      case o5y6 => (simp only [List.getElem?_toArray, List.getElem?_cons_succ, List.getElem?_cons_zero]; rfl)
      case q5y6 => (exact fun _ _ _ h => h)
      case y5y6 => (refine Or.inl ⟨by rfl, ?_⟩; intro w hSw; (try dsimp only at hSw); go_simp; (try with_reducible rfl))
      simp only [Act.put, List.setIfInBounds_toArray, List.set_cons_zero, List.set_cons_succ]
      refine wpAnyH_take (i := 6) (oi := ?p6y7) (v := ?v6y7) ?o6y7 (by kernel_rfl) (by kernel_rfl) (by kernel_rfl) ?q6y7 ?y6y7 (by assumption) ?r6y7
      case o6y7 => (simp only [List.getElem?_toArray, List.getElem?_cons_succ, List.getElem?_cons_zero]; rfl)
      case q6y7 => (exact fun _ _ _ h => h)
      case y6y7 => (refine Or.inl ⟨by rfl, ?_⟩; intro w hSw; (try dsimp only at hSw); go_simp; (try with_reducible rfl))
      simp only [Act.put, List.setIfInBounds_toArray, List.set_cons_zero, List.set_cons_succ]
      refine wpAnyH_take (i := 7) (oi := ?p7y8) (v := undef) ?o7y8 (by kernel_rfl) (by kernel_rfl) (by kernel_rfl) ?q7y8 ?y7y8 (by assumption) ?r7y8
      case o7y8 => (simp only [List.getElem?_toArray, List.getElem?_cons_succ, List.getElem?_cons_zero]; rfl)
      case q7y8 => (exact fun _ _ _ h => h)
      case y7y8 => (exact Or.inr ⟨by rfl, rfl⟩)
      simp only [Act.put, List.setIfInBounds_toArray, List.set_cons_zero, List.set_cons_succ]
      refine wpAnyH_take (i := 8) (oi := ?p8y9) (v := undef) ?o8y9 (by kernel_rfl) (by kernel_rfl) (by kernel_rfl) ?q8y9 ?y8y9 (by assumption) ?r8y9
      case o8y9 => (simp only [List.getElem?_toArray, List.getElem?_cons_succ, List.getElem?_cons_zero]; rfl)
      case q8y9 => (exact fun _ _ _ h => h)
      case y8y9 => (exact Or.inr ⟨by rfl, rfl⟩)
      simp only [Act.put, List.setIfInBounds_toArray, List.set_cons_zero, List.set_cons_succ]
      refine wpAnyH_take (i := 9) (oi := ?p9y10) (v := undef) ?o9y10 (by kernel_rfl) (by kernel_rfl) (by kernel_rfl) ?q9y10 ?y9y10 (by assumption) ?r9y10
      case o9y10 => (simp only [List.getElem?_toArray, List.getElem?_cons_succ, List.getElem?_cons_zero]; rfl)
      case q9y10 => (exact fun _ _ _ h => h)
      case y9y10 => (exact Or.inr ⟨by rfl, rfl⟩)
      simp only [Act.put, List.setIfInBounds_toArray, List.set_cons_zero, List.set_cons_succ]
      refine wpAnyH_take (i := 10) (oi := ?p10y11) (v := undef) ?o10y11 (by kernel_rfl) (by kernel_rfl) (by kernel_rfl) ?q10y11 ?y10y11 (by assumption) ?r10y11
      case o10y11 => (simp only [List.getElem?_toArray, List.getElem?_cons_succ, List.getElem?_cons_zero]; rfl)
      case q10y11 => (exact fun _ _ _ h => h)
      case y10y11 => (exact Or.inr ⟨by rfl, rfl⟩)
      simp only [Act.put, List.setIfInBounds_toArray, List.set_cons_zero, List.set_cons_succ]
      refine wpAnyH_take (i := 11) (oi := ?p11y12) (v := undef) ?o11y12 (by kernel_rfl) (by kernel_rfl) (by kernel_rfl) ?q11y12 ?y11y12 (by assumption) ?r11y12
      case o11y12 => (simp only [List.getElem?_toArray, List.getElem?_cons_succ, List.getElem?_cons_zero]; rfl)
      case q11y12 => (exact fun _ _ _ h => h)
      case y11y12 => (exact Or.inr ⟨by rfl, rfl⟩)
      simp only [Act.put, List.setIfInBounds_toArray, List.set_cons_zero, List.set_cons_succ]
      refine wpAnyH_take (i := 12) (oi := ?p12y13) (v := undef) ?o12y13 (by kernel_rfl) (by kernel_rfl) (by kernel_rfl) ?q12y13 ?y12y13 (by assumption) ?r12y13
      case o12y13 => (simp only [List.getElem?_toArray, List.getElem?_cons_succ, List.getElem?_cons_zero]; rfl)
      case q12y13 => (exact fun _ _ _ h => h)
      case y12y13 => (exact Or.inr ⟨by rfl, rfl⟩)
      simp only [Act.put, List.setIfInBounds_toArray, List.set_cons_zero, List.set_cons_succ]
      refine wpAnyH_take (i := 13) (oi := ?p13y14) (v := undef) ?o13y14 (by kernel_rfl) (by kernel_rfl) (by kernel_rfl) ?q13y14 ?y13y14 (by assumption) ?r13y14
      case o13y14 => (simp only [List.getElem?_toArray, List.getElem?_cons_succ, List.getElem?_cons_zero]; rfl)
      case q13y14 => (exact fun _ _ _ h => h)
      case y13y14 => (exact Or.inr ⟨by rfl, rfl⟩)
      simp only [Act.put, List.setIfInBounds_toArray, List.set_cons_zero, List.set_cons_succ]
      refine wpAnyH_take (i := 14) (oi := ?p14y15) (v := undef) ?o14y15 (by kernel_rfl) (by kernel_rfl) (by kernel_rfl) ?q14y15 ?y14y15 (by assumption) ?r14y15
      case o14y15 => (simp only [List.getElem?_toArray, List.getElem?_cons_succ, List.getElem?_cons_zero]; rfl)
      case q14y15 => (exact fun _ _ _ h => h)
      case y14y15 => (exact Or.inr ⟨by rfl, rfl⟩)
      simp only [Act.put, List.setIfInBounds_toArray, List.set_cons_zero, List.set_cons_succ]
      refine wpAnyH_take (i := 15) (oi := ?p15y16) (v := undef) ?o15y16 (by kernel_rfl) (by kernel_rfl) (by kernel_rfl) ?q15y16 ?y15y16 (by assumption) ?r15y16
      case o15y16 => (simp only [List.getElem?_toArray, List.getElem?_cons_succ, List.getElem?_cons_zero]; rfl)
      case q15y16 => (exact fun _ _ _ h => h)
      case y15y16 => (exact Or.inr ⟨by rfl, rfl⟩)
      simp only [Act.put, List.setIfInBounds_toArray, List.set_cons_zero, List.set_cons_succ]
      refine wpAnyH_take (i := 16) (oi := ?p16y17) (v := ?v16y17) ?o16y17 (by kernel_rfl) (by kernel_rfl) (by kernel_rfl) ?q16y17 ?y16y17 (by assumption) ?r16y17
      case o16y17 => (simp only [List.getElem?_toArray, List.getElem?_cons_succ, List.getElem?_cons_zero]; rfl)
      case q16y17 => (exact fun _ _ _ h => h)
      case y16y17 => (refine Or.inl ⟨by rfl, ?_⟩; intro w hSw; (try dsimp only at hSw); go_simp; (try with_reducible rfl))
      simp only [Act.put, List.setIfInBounds_toArray, List.set_cons_zero, List.set_cons_succ]
      refine wpAnyH_done (by kernel_rfl) ?_ _
      go_wp2_with fail
      go_ret
      exact ⟨rfl, HKd.out⟩
    · have qa : (a.k == 1) = false := by simp [ha]
      cases ht : tchB a e with
      | true =>
        have e2 : V = false := HV.out.symm.trans (by
          cases hm : mayAt L n with
          | false => rfl
          | true =>
            obtain ⟨_, n', e', hnn, _, he', _, hff⟩ := mayAt_parts hm
            obtain rfl : n = n' := by omega
            have := HX.out
            rw [this] at he'
            cases he'
            have := (hff i a HIl.out HYi.out).2
            rw [ht] at this
            cases this)
        subst e2
        clear HV
        rw [ht] at HT
        go_wp2_with fail
        refine wp_region_held_drew (S := fun w' => w'.cell? ⟨b, off + i * 5, none⟩ = some (.int .i8 a.k) ∧ w'.cell? ⟨b, off + i * 5 + 1, none⟩ = some (.int .u64 a.w) ∧ w'.cell? ⟨b, off + i * 5 + 2, none⟩ = some (.int .u64 a.x) ∧ w'.cell? ⟨b, off + i * 5 + 3, none⟩ = some (.int .i64 a.fr) ∧ w'.cell? ⟨b, off + i * 5 + 4, none⟩ = some (.int .i64 a.fm) ∧ w'.cell? ⟨b, off + n * 5, none⟩ = some (.int .i8 e.k) ∧ w'.cell? ⟨b, off + n * 5 + 1, none⟩ = some (.int .u64 e.w) ∧ w'.cell? ⟨b, off + n * 5 + 2, none⟩ = some (.int .u64 e.x) ∧ w'.cell? ⟨b, off + n * 5 + 3, none⟩ = some (.int .i64 e.fr) ∧ w'.cell? ⟨b, off + n * 5 + 4, none⟩ = some (.int .i64 e.fm)) (by kernel_rfl) HS.out (fun hHeld => ?_)
        clear HS
        refine wpAnyH_take (i := 0) (oi := ?p0y18) (v := ?v0y18) ?o0y18 (by kernel_rfl) (by kernel_rfl) (by kernel_rfl) ?q0y18 ?y0y18 (by assumption) ?r0y18
        case o0y18 => (simp only [List.getElem?_toArray, List.getElem?_cons_zero]; rfl)
        case q0y18 => (exact fun _ _ _ h => h)
        case y0y18 => (refine Or.inl ⟨by rfl, ?_⟩; intro w hSw; (try dsimp only at hSw); go_simp; (try with_reducible rfl))
        simp only [Act.put, List.setIfInBounds_toArray, List.set_cons_zero, List.set_cons_succ]
        refine wpAnyH_take (i := 1) (oi := ?p1y19) (v := ?v1y19) ?o1y19 (by kernel_rfl) (by kernel_rfl) (by kernel_rfl) ?q1y19 ?y1y19 (by assumption) ?r1y19
        case o1y19 => (simp only [List.getElem?_toArray, List.getElem?_cons_succ, List.getElem?_cons_zero]; rfl)
        case q1y19 => (exact fun _ _ _ h => h)
        case y1y19 => (refine Or.inl ⟨by rfl, ?_⟩; intro w hSw; (try dsimp only at hSw); go_simp; (try with_reducible rfl))
        simp only [Act.put, List.setIfInBounds_toArray, List.set_cons_zero, List.set_cons_succ]
        refine wpAnyH_take (i := 2) (oi := ?p2y20) (v := ?v2y20) ?o2y20 (by kernel_rfl) (by kernel_rfl) (by kernel_rfl) ?q2y20 ?y2y20 (by assumption) ?r2y20
        case o2y20 => (simp only [List.getElem?_toArray, List.getElem?_cons_succ, List.getElem?_cons_zero]; rfl)
        case q2y20 => (exact fun _ _ _ h => h)
        case y2y20 => (refine Or.inl ⟨by rfl, ?_⟩; intro w hSw; (try dsimp only at hSw); go_simp; (try with_reducible rfl))
        simp only [Act.put, List.setIfInBounds_toArray, List.set_cons_zero, List.set_cons_succ]
        refine wpAnyH_take (i := 3) (oi := ?p3y21) (v := ?v3y21) ?o3y21 (by kernel_rfl) (by kernel_rfl) (by kernel_rfl) ?q3y21 ?y3y21 (by assumption) ?r3y21
        case o3y21 => (simp only [List.getElem?_toArray, List.getElem?_cons_succ, List.getElem?_cons_zero]; rfl)
        case q3y21 => (exact fun _ _ _ h => h)
        case y3y21 => (refine Or.inl ⟨by rfl, ?_⟩; intro w hSw; (try dsimp only at hSw); go_simp; (try with_reducible rfl))
        simp only [Act.put, List.setIfInBounds_toArray, List.set_cons_zero, List.set_cons_succ]
        refine wpAnyH_take (i := 4) (oi := ?p4y22) (v := ?v4y22) ?o4y22 (by kernel_rfl) (by kernel_rfl) (by kernel_rfl) ?q4y22 ?y4y22 (by assumption) ?r4y22
        case o4y22 => (simp only [List.getElem?_toArray, List.getElem?_cons_succ, List.getElem?_cons_zero]; rfl)
        case q4y22 => (exact fun _ _ _ h => h)
        case y4y22 => (refine Or.inl ⟨by rfl, ?_⟩; intro w hSw; (try dsimp only at hSw); go_simp; (try with_reducible rfl))
        simp only [Act.put, List.setIfInBounds_toArray, List.set_cons_zero, List.set_cons_succ]
        refine wpAnyH_take (i := 5) (oi := ?p5y23) (v := ?v5y23) ?o5y23 (by kernel_rfl) (by kernel_rfl) (by kernel_rfl) ?q5y23 ?y5y23 (by assumption) ?r5y23
        case o5y23 => (simp only [List.getElem?_toArray, List.getElem?_cons_succ, List.getElem?_cons_zero]; rfl)
        case q5y23 => (exact fun _ _ _ h => h)
        case y5y23 => (refine Or.inl ⟨by rfl, ?_⟩; intro w hSw; (try dsimp only at hSw); go_simp; (try with_reducible rfl))
        simp only [Act.put, List.setIfInBounds_toArray, List.set_cons_zero, List.set_cons_succ]
        refine wpAnyH_take (i := 6) (oi := ?p6y24) (v := ?v6y24) ?o6y24 (by kernel_rfl) (by kernel_rfl) (by kernel_rfl) ?q6y24 ?y6y24 (by assumption) ?r6y24
        case o6y24 => (simp only [List.getElem?_toArray, List.getElem?_cons_succ, List.getElem?_cons_zero]; rfl)
        case q6y24 => (exact fun _ _ _ h => h)
        case y6y24 => (refine Or.inl ⟨by rfl, ?_⟩; intro w hSw; (try dsimp only at hSw); go_simp; (try with_reducible rfl))
        simp only [Act.put, List.setIfInBounds_toArray, List.set_cons_zero, List.set_cons_succ]
        refine wpAnyH_take (i := 7) (oi := ?p7y25) (v := ?v7y25) ?o7y25 (by kernel_rfl) (by kernel_rfl) (by kernel_rfl) ?q7y25 ?y7y25 (by assumption) ?r7y25
        case o7y25 => (simp only [List.getElem?_toArray, List.getElem?_cons_succ, List.getElem?_cons_zero]; rfl)
        case q7y25 => (exact fun _ _ _ h => h)
        case y7y25 => (refine Or.inl ⟨by rfl, ?_⟩; intro w hSw; (try dsimp only at hSw); go_simp; (try with_reducible rfl))
        simp only [Act.put, List.setIfInBounds_toArray, List.set_cons_zero, List.set_cons_succ]
        refine wpAnyH_take (i := 8) (oi := ?p8y26) (v := ?v8y26) ?o8y26 (by kernel_rfl) (by kernel_rfl) (by kernel_rfl) ?q8y26 ?y8y26 (by assumption) ?r8y26
        case o8y26 => (simp only [List.getElem?_toArray, List.getElem?_cons_succ, List.getElem?_cons_zero]; rfl)
        case q8y26 => (exact fun _ _ _ h => h)
        case y8y26 => (refine Or.inl ⟨by rfl, ?_⟩; intro w hSw; (try dsimp only at hSw); go_simp; (try with_reducible rfl))
        simp only [Act.put, List.setIfInBounds_toArray, List.set_cons_zero, List.set_cons_succ]
        refine wpAnyH_take (i := 9) (oi := ?p9y27) (v := ?v9y27) ?o9y27 (by kernel_rfl) (by kernel_rfl) (by kernel_rfl) ?q9y27 ?y9y27 (by assumption) ?r9y27
        case o9y27 => (simp only [List.getElem?_toArray, List.getElem?_cons_succ, List.getElem?_cons_zero]; rfl)
        case q9y27 => (exact fun _ _ _ h => h)
        case y9y27 => (refine Or.inl ⟨by rfl, ?_⟩; intro w hSw; (try dsimp only at hSw); go_simp; (try with_reducible rfl))
        simp only [Act.put, List.setIfInBounds_toArray, List.set_cons_zero, List.set_cons_succ]
        refine wpAnyH_take (i := 10) (oi := ?p10y28) (v := ?v10y28) ?o10y28 (by kernel_rfl) (by kernel_rfl) (by kernel_rfl) ?q10y28 ?y10y28 (by assumption) ?r10y28
        case o10y28 => (simp only [List.getElem?_toArray, List.getElem?_cons_succ, List.getElem?_cons_zero]; rfl)
        case q10y28 => (exact fun _ _ _ h => h)
        case y10y28 => (refine Or.inl ⟨by rfl, ?_⟩; intro w hSw; (try dsimp only at hSw); go_simp; (try with_reducible rfl))
        simp only [Act.put, List.setIfInBounds_toArray, List.set_cons_zero, List.set_cons_succ]
        refine wpAnyH_take (i := 11) (oi := ?p11y29) (v := ?v11y29) ?o11y29 (by kernel_rfl) (by kernel_rfl) (by kernel_rfl) ?q11y29 ?y11y29 (by assumption) ?r11y29
        case o11y29 => (simp only [List.getElem?_toArray, List.getElem?_cons_succ, List.getElem?_cons_zero]; rfl)
        case q11y29 => (exact fun _ _ _ h => h)
        case y11y29 => (refine Or.inl ⟨by rfl, ?_⟩; intro w hSw; (try dsimp only at hSw); go_simp; (try with_reducible rfl))
        simp only [Act.put, List.setIfInBounds_toArray, List.set_cons_zero, List.set_cons_succ]
        refine wpAnyH_take (i := 12) (oi := ?p12y30) (v := ?v12y30) ?o12y30 (by kernel_rfl) (by kernel_rfl) (by kernel_rfl) ?q12y30 ?y12y30 (by assumption) ?r12y30
        case o12y30 => (simp only [List.getElem?_toArray, List.getElem?_cons_succ, List.getElem?_cons_zero]; rfl)
        case q12y30 => (exact fun _ _ _ h => h)
        case y12y30 => (refine Or.inl ⟨by rfl, ?_⟩; intro w hSw; (try dsimp only at hSw); go_simp; (try with_reducible rfl))
        simp only [Act.put, List.setIfInBounds_toArray, List.set_cons_zero, List.set_cons_succ]
        refine wpAnyH_take (i := 13) (oi := ?p13y31) (v := ?v13y31) ?o13y31 (by kernel_rfl) (by kernel_rfl) (by kernel_rfl) ?q13y31 ?y13y31 (by assumption) ?r13y31
        case o13y31 => (simp only [List.getElem?_toArray, List.getElem?_cons_succ, List.getElem?_cons_zero]; rfl)
        case q13y31 => (exact fun _ _ _ h => h)
        case y13y31 => (refine Or.inl ⟨by rfl, ?_⟩; intro w hSw; (try dsimp only at hSw); go_simp; (try with_reducible rfl))
        simp only [Act.put, List.setIfInBounds_toArray, List.set_cons_zero, List.set_cons_succ]
        refine wpAnyH_take (i := 14) (oi := ?p14y32) (v := ?v14y32) ?o14y32 (by kernel_rfl) (by kernel_rfl) (by kernel_rfl) ?q14y32 ?y14y32 (by assumption) ?r14y32
        case o14y32 => (simp only [List.getElem?_toArray, List.getElem?_cons_succ, List.getElem?_cons_zero]; rfl)
        case q14y32 => (exact fun _ _ _ h => h)
        case y14y32 => (refine Or.inl ⟨by rfl, ?_⟩; intro w hSw; (try dsimp only at hSw); go_simp; (try with_reducible rfl))
        simp only [Act.put, List.setIfInBounds_toArray, List.set_cons_zero, List.set_cons_succ]
        refine wpAnyH_ready (rs := [15]) (by kernel_rfl) (by simp) ?_
        refine AllReadyH.cons (o := ?pc33) ?oc33 (fun K hK => ?wc33) AllReadyH.nil
        case oc33 => (simp only [List.getElem?_toArray, List.getElem?_cons_succ, List.getElem?_cons_zero]; rfl)
        rw [if_pos (by rfl)]
        go_simp
        refine (HT.out _).mono ?_; rintro r w4 ⟨rfl, hg⟩
        (try go_wp2_with fail)
        have hH4 := ten_kp hHeld hg
        have K4 := Lib.hid hg
        refine hK.out _ _ hH4 (fun hHeld4 => ?_)
        clear hK K hg hH4
        refine wpAnyH_take (i := 16) (oi := ?p16y34) (v := ?v16y34) ?o16y34 (by kernel_rfl) (by kernel_rfl) (by kernel_rfl) ?q16y34 ?y16y34 (by assumption) ?r16y34
        case o16y34 => (simp only [List.getElem?_toArray, List.getElem?_cons_succ, List.getElem?_cons_zero]; rfl)
        case q16y34 => (exact fun _ _ _ h => h)
        case y16y34 => (refine Or.inl ⟨by rfl, ?_⟩; intro w hSw; (try dsimp only at hSw); go_simp; (try with_reducible rfl))
        simp only [Act.put, List.setIfInBounds_toArray, List.set_cons_zero, List.set_cons_succ]
        refine wpAnyH_done (by kernel_rfl) ?_ _
        go_wp2_with fail
        go_ret
        exact ⟨rfl, HKd.out.trans K4.out⟩
      | false =>
        have hts := Lib.hid (And.intro ha ht)
        rw [ht] at HT
        go_wp2_with fail
        refine wp_region_held_drew (S := fun w' => w'.cell? ⟨b, off + i * 5, none⟩ = some (.int .i8 a.k) ∧ w'.cell? ⟨b, off + i * 5 + 1, none⟩ = some (.int .u64 a.w) ∧ w'.cell? ⟨b, off + i * 5 + 2, none⟩ = some (.int .u64 a.x) ∧ w'.cell? ⟨b, off + i * 5 + 3, none⟩ = some (.int .i64 a.fr) ∧ w'.cell? ⟨b, off + i * 5 + 4, none⟩ = some (.int .i64 a.fm) ∧ w'.cell? ⟨b, off + n * 5, none⟩ = some (.int .i8 e.k) ∧ w'.cell? ⟨b, off + n * 5 + 1, none⟩ = some (.int .u64 e.w) ∧ w'.cell? ⟨b, off + n * 5 + 2, none⟩ = some (.int .u64 e.x) ∧ w'.cell? ⟨b, off + n * 5 + 3, none⟩ = some (.int .i64 e.fr) ∧ w'.cell? ⟨b, off + n * 5 + 4, none⟩ = some (.int .i64 e.fm)) (by kernel_rfl) HS.out (fun hHeld => ?_)
        clear HS
        refine wpAnyH_take (i := 0) (oi := ?p0y35) (v := ?v0y35) ?o0y35 (by kernel_rfl) (by kernel_rfl) (by kernel_rfl) ?q0y35 ?y0y35 (by assumption) ?r0y35
        case o0y35 => (simp only [List.getElem?_toArray, List.getElem?_cons_zero]; rfl)
        case q0y35 => (exact fun _ _ _ h => h)
        case y0y35 => (refine Or.inl ⟨by rfl, ?_⟩; intro w hSw; (try dsimp only at hSw); go_simp; (try with_reducible rfl))
        simp only [Act.put, List.setIfInBounds_toArray, List.set_cons_zero, List.set_cons_succ]
        refine wpAnyH_take (i := 1) (oi := ?p1y36) (v := ?v1y36) ?o1y36 (by kernel_rfl) (by kernel_rfl) (by kernel_rfl) ?q1y36 ?y1y36 (by assumption) ?r1y36
        case o1y36 => (simp only [List.getElem?_toArray, List.getElem?_cons_succ, List.getElem?_cons_zero]; rfl)
        case q1y36 => (exact fun _ _ _ h => h)
        case y1y36 => (refine Or.inl ⟨by rfl, ?_⟩; intro w hSw; (try dsimp only at hSw); go_simp; (try with_reducible rfl))
        simp only [Act.put, List.setIfInBounds_toArray, List.set_cons_zero, List.set_cons_succ]
        refine wpAnyH_take (i := 2) (oi := ?p2y37) (v := ?v2y37) ?o2y37 (by kernel_rfl) (by kernel_rfl) (by kernel_rfl) ?q2y37 ?y2y37 (by assumption) ?r2y37
        case o2y37 => (simp only [List.getElem?_toArray, List.getElem?_cons_succ, List.getElem?_cons_zero]; rfl)
        case q2y37 => (exact fun _ _ _ h => h)
        case y2y37 => (refine Or.inl ⟨by rfl, ?_⟩; intro w hSw; (try dsimp only at hSw); go_simp; (try with_reducible rfl))
        simp only [Act.put, List.setIfInBounds_toArray, List.set_cons_zero, List.set_cons_succ]
        refine wpAnyH_take (i := 3) (oi := ?p3y38) (v := ?v3y38) ?o3y38 (by kernel_rfl) (by kernel_rfl) (by kernel_rfl) ?q3y38 ?y3y38 (by assumption) ?r3y38
        case o3y38 => (simp only [List.getElem?_toArray, List.getElem?_cons_succ, List.getElem?_cons_zero]; rfl)
        case q3y38 => (exact fun _ _ _ h => h)
        case y3y38 => (refine Or.inl ⟨by rfl, ?_⟩; intro w hSw; (try dsimp only at hSw); go_simp; (try with_reducible rfl))
        simp only [Act.put, List.setIfInBounds_toArray, List.set_cons_zero, List.set_cons_succ]
        refine wpAnyH_take (i := 4) (oi := ?p4y39) (v := ?v4y39) ?o4y39 (by kernel_rfl) (by kernel_rfl) (by kernel_rfl) ?q4y39 ?y4y39 (by assumption) ?r4y39
        case o4y39 => (simp only [List.getElem?_toArray, List.getElem?_cons_succ, List.getElem?_cons_zero]; rfl)
        case q4y39 => (exact fun _ _ _ h => h)
        case y4y39 => (refine Or.inl ⟨by rfl, ?_⟩; intro w hSw; (try dsimp only at hSw); go_simp; (try with_reducible rfl))
        simp only [Act.put, List.setIfInBounds_toArray, List.set_cons_zero, List.set_cons_succ]
        refine wpAnyH_take (i := 5) (oi := ?p5y40) (v := ?v5y40) ?o5y40 (by kernel_rfl) (by kernel_rfl) (by kernel_rfl) ?q5y40 ?y5y40 (by assumption) ?r5y40
        case o5y40 => (simp only [List.getElem?_toArray, List.getElem?_cons_succ, List.getElem?_cons_zero]; rfl)
        case q5y40 => (exact fun _ _ _ h => h)
        case y5y40 => (refine Or.inl ⟨by rfl, ?_⟩; intro w hSw; (try dsimp only at hSw); go_simp; (try with_reducible rfl))
        simp only [Act.put, List.setIfInBounds_toArray, List.set_cons_zero, List.set_cons_succ]
        refine wpAnyH_take (i := 6) (oi := ?p6y41) (v := ?v6y41) ?o6y41 (by kernel_rfl) (by kernel_rfl) (by kernel_rfl) ?q6y41 ?y6y41 (by assumption) ?r6y41
        case o6y41 => (simp only [List.getElem?_toArray, List.getElem?_cons_succ, List.getElem?_cons_zero]; rfl)
        case q6y41 => (exact fun _ _ _ h => h)
        case y6y41 => (refine Or.inl ⟨by rfl, ?_⟩; intro w hSw; (try dsimp only at hSw); go_simp; (try with_reducible rfl))
        simp only [Act.put, List.setIfInBounds_toArray, List.set_cons_zero, List.set_cons_succ]
        refine wpAnyH_take (i := 7) (oi := ?p7y42) (v := ?v7y42) ?o7y42 (by kernel_rfl) (by kernel_rfl) (by kernel_rfl) ?q7y42 ?y7y42 (by assumption) ?r7y42
        case o7y42 => (simp only [List.getElem?_toArray, List.getElem?_cons_succ, List.getElem?_cons_zero]; rfl)
        case q7y42 => (exact fun _ _ _ h => h)
        case y7y42 => (refine Or.inl ⟨by rfl, ?_⟩; intro w hSw; (try dsimp only at hSw); go_simp; (try with_reducible rfl))
        simp only [Act.put, List.setIfInBounds_toArray, List.set_cons_zero, List.set_cons_succ]
        refine wpAnyH_take (i := 8) (oi := ?p8y43) (v := ?v8y43) ?o8y43 (by kernel_rfl) (by kernel_rfl) (by kernel_rfl) ?q8y43 ?y8y43 (by assumption) ?r8y43
        case o8y43 => (simp only [List.getElem?_toArray, List.getElem?_cons_succ, List.getElem?_cons_zero]; rfl)
        case q8y43 => (exact fun _ _ _ h => h)
        case y8y43 => (refine Or.inl ⟨by rfl, ?_⟩; intro w hSw; (try dsimp only at hSw); go_simp; (try with_reducible rfl))
        simp only [Act.put, List.setIfInBounds_toArray, List.set_cons_zero, List.set_cons_succ]
        refine wpAnyH_take (i := 9) (oi := ?p9y44) (v := ?v9y44) ?o9y44 (by kernel_rfl) (by kernel_rfl) (by kernel_rfl) ?q9y44 ?y9y44 (by assumption) ?r9y44
        case o9y44 => (simp only [List.getElem?_toArray, List.getElem?_cons_succ, List.getElem?_cons_zero]; rfl)
        case q9y44 => (exact fun _ _ _ h => h)
        case y9y44 => (refine Or.inl ⟨by rfl, ?_⟩; intro w hSw; (try dsimp only at hSw); go_simp; (try with_reducible rfl))
        simp only [Act.put, List.setIfInBounds_toArray, List.set_cons_zero, List.set_cons_succ]
        refine wpAnyH_take (i := 10) (oi := ?p10y45) (v := ?v10y45) ?o10y45 (by kernel_rfl) (by kernel_rfl) (by kernel_rfl) ?q10y45 ?y10y45 (by assumption) ?r10y45
        case o10y45 => (simp only [List.getElem?_toArray, List.getElem?_cons_succ, List.getElem?_cons_zero]; rfl)
        case q10y45 => (exact fun _ _ _ h => h)
        case y10y45 => (refine Or.inl ⟨by rfl, ?_⟩; intro w hSw; (try dsimp only at hSw); go_simp; (try with_reducible rfl))
        simp only [Act.put, List.setIfInBounds_toArray, List.set_cons_zero, List.set_cons_succ]
        refine wpAnyH_take (i := 11) (oi := ?p11y46) (v := ?v11y46) ?o11y46 (by kernel_rfl) (by kernel_rfl) (by kernel_rfl) ?q11y46 ?y11y46 (by assumption) ?r11y46
        case o11y46 => (simp only [List.getElem?_toArray, List.getElem?_cons_succ, List.getElem?_cons_zero]; rfl)
        case q11y46 => (exact fun _ _ _ h => h)
        case y11y46 => (refine Or.inl ⟨by rfl, ?_⟩; intro w hSw; (try dsimp only at hSw); go_simp; (try with_reducible rfl))
        simp only [Act.put, List.setIfInBounds_toArray, List.set_cons_zero, List.set_cons_succ]
        refine wpAnyH_take (i := 12) (oi := ?p12y47) (v := ?v12y47) ?o12y47 (by kernel_rfl) (by kernel_rfl) (by kernel_rfl) ?q12y47 ?y12y47 (by assumption) ?r12y47
        case o12y47 => (simp only [List.getElem?_toArray, List.getElem?_cons_succ, List.getElem?_cons_zero]; rfl)
        case q12y47 => (exact fun _ _ _ h => h)
        case y12y47 => (refine Or.inl ⟨by rfl, ?_⟩; intro w hSw; (try dsimp only at hSw); go_simp; (try with_reducible rfl))
        simp only [Act.put, List.setIfInBounds_toArray, List.set_cons_zero, List.set_cons_succ]
        refine wpAnyH_take (i := 13) (oi := ?p13y48) (v := ?v13y48) ?o13y48 (by kernel_rfl) (by kernel_rfl) (by kernel_rfl) ?q13y48 ?y13y48 (by assumption) ?r13y48
        case o13y48 => (simp only [List.getElem?_toArray, List.getElem?_cons_succ, List.getElem?_cons_zero]; rfl)
        case q13y48 => (exact fun _ _ _ h => h)
        case y13y48 => (refine Or.inl ⟨by rfl, ?_⟩; intro w hSw; (try dsimp only at hSw); go_simp; (try with_reducible rfl))
        simp only [Act.put, List.setIfInBounds_toArray, List.set_cons_zero, List.set_cons_succ]
        refine wpAnyH_take (i := 14) (oi := ?p14y49) (v := ?v14y49) ?o14y49 (by kernel_rfl) (by kernel_rfl) (by kernel_rfl) ?q14y49 ?y14y49 (by assumption) ?r14y49
        case o14y49 => (simp only [List.getElem?_toArray, List.getElem?_cons_succ, List.getElem?_cons_zero]; rfl)
        case q14y49 => (exact fun _ _ _ h => h)
        case y14y49 => (refine Or.inl ⟨by rfl, ?_⟩; intro w hSw; (try dsimp only at hSw); go_simp; (try with_reducible rfl))
        simp only [Act.put, List.setIfInBounds_toArray, List.set_cons_zero, List.set_cons_succ]
        refine wpAnyH_ready (rs := [15]) (by kernel_rfl) (by simp) ?_
        refine AllReadyH.cons (o := ?pc50) ?oc50 (fun K hK => ?wc50) AllReadyH.nil
        case oc50 => (simp only [List.getElem?_toArray, List.getElem?_cons_succ, List.getElem?_cons_zero]; rfl)
        rw [if_pos (by rfl)]
        go_simp
        refine (HT.out _).mono ?_; rintro r w4 ⟨rfl, hg⟩
        (try go_wp2_with fail)
        have hH4 := ten_kp hHeld hg
        have K4 := Lib.hid hg
        refine hK.out _ _ hH4 (fun hHeld4 => ?_)
        clear hK K hg hH4
        refine wpAnyH_take (i := 16) (oi := ?p16y51) (v := ?v16y51) ?o16y51 (by kernel_rfl) (by kernel_rfl) (by kernel_rfl) ?q16y51 ?y16y51 (by assumption) ?r16y51
        case o16y51 => (simp only [List.getElem?_toArray, List.getElem?_cons_succ, List.getElem?_cons_zero]; rfl)
        case q16y51 => (exact fun _ _ _ h => h)
        case y16y51 => (refine Or.inl ⟨by rfl, ?_⟩; intro w hSw; (try dsimp only at hSw); go_simp; (try with_reducible rfl))
        simp only [Act.put, List.setIfInBounds_toArray, List.set_cons_zero, List.set_cons_succ]
        refine wpAnyH_done (by kernel_rfl) ?_ _
        go_wp2_with fail
        go_roundw
        case rel => exact ⟨i + 1, by have := HIl.out; omega, by go_num, fun j x hj hxx => by
          by_cases c : j < i
          · exact HFr.out j x c hxx
          · obtain rfl : j = i := by omega
            have := HYi.out
            rw [this] at hxx
            cases hxx
            exact hts.out, HKd.out.trans K4.out⟩
        case measure => have := HIl.out; simp [intOf]; omega
end Go.Proofs.YtgjjbgijdgihcaaDoor
