/-
  The library's decimal texts; the document's digits, names and shapes. No condition but the library's table.
-/
import Derived.Test.YtfbkppncaampdaaDoorShelf07
import Derived.Test.YtfbkppncaampdaaDoorGet07
import Derived.Laws.BytesArg
import Derived.Laws.IdiomStrings
namespace Go.Proofs.YtfbkppncaampdaaDoor
open Go Go.RowKit

theorem strB_size (l : List UInt8) : (strB l).size = l.length := by simp [strB, ByteArray.size]
theorem strB_append (a b : List UInt8) : strB a ++ strB b = strB (a ++ b) := by
  apply ByteArray.ext
  simp [strB, ByteArray.data_append]
theorem ret_str {a b : ByteArray} (h : a = b) : Ending.returned (.string a) = .returned (.string b) := by rw [h]
theorem add_any (a b : List UInt8) (h : a.length + b.length ≤ 1000) : ∃ s : ByteArray, s = strB (a ++ b) ∧ ∀ w, (Op.stringOp .add (strB a) (strB b)).run Tryd.prog w = .ok (.string s) w := by
  refine ⟨_, rfl, fun w => ?_⟩
  rw [run_string_add_sum w _ _ (by rw [strB_size, strB_size]; omega), strB_append]
def PowOk (w : World) : Prop := Lib.TabIs Tryd.prog w "internal/strconv.uint64pow10" .u64 Lib.pow10Tab
theorem pow_named : Tryd.prog.globalNamed "internal/strconv.uint64pow10" = some 2 := by kernel_rfl
theorem PowOk.kp {w w' : World} (h : PowOk w) (hk : Kp w w') : PowOk w' := by
  unfold PowOk Lib.TabIs World.var? at *
  rw [pow_named] at *
  simp only [Option.bind_some] at *
  have hlt : 2 < w.heap.size := by
    apply Nat.lt_of_not_le
    intro hn
    rw [Array.getElem?_eq_none hn] at h
    cases h
  rw [Below.block hk _ hlt]
  exact h
theorem kp_grow (w : World) (k : Nat) (os : Array Obj) : Kp w (Go.Sort.grow (w.drewN k) os) := by
  refine Kp.trans ((Kp.refl w).drewN k) ⟨rfl, rfl, rfl, by simp [Go.Sort.grow], fun i hi => ?_⟩
  unfold Go.Sort.grow
  exact Array.getElem?_append_left hi
theorem fmt_any (n : Int) (h0 : -9223372036854775808 ≤ n) (h1 : n ≤ 9223372036854775807) (w : World) (hP : PowOk w) :
    Calls Tryd.prog 27 #[.int .i64 n, .int .i64 10] w fun e w' => e = .returned (.string (strB (Lib.itoa n))) ∧ Kp w w' := by
  refine (Tryd.strconv_FormatInt_10 n h0 h1 w hP).mono ?_
  rintro e w' ⟨rfl, k, os, rfl⟩
  exact ⟨rfl, kp_grow w k os⟩
theorem ahead_x (k : Int) (w : World) (h : k < 3) :
    Calls Tryd.prog 26 #[.int .i64 k] w fun e w' => e = .returned (.string (strB [120])) ∧ w = w' := by
  go_enter Tryd.func26, Tryd.ntmps26
  go_wp2
  go_ret
  exact ⟨rfl, rfl⟩
theorem ahead_no (w : World) :
    Calls Tryd.prog 26 #[.int .i64 3] w fun e w' => e = .returned (.string (strB [])) ∧ w = w' := by
  go_enter Tryd.func26, Tryd.ntmps26
  go_wp2
  go_ret
  exact ⟨rfl, rfl⟩

/-! The document's digits. -/
theorem byte_text (d : Nat) (hd : d < 10) (b : Nat) (W : World) (Y : Int) (hY : Y = (d : Int)) (hB : Blk W b #[.int .u8 (48 + Y)] 5) :
    (convert 97 9 (.slice (some ⟨b, 0, none⟩) 1 1)).run Tryd.prog W = .ok (.string (strB [UInt8.ofNat (48 + d)])) W := by
  subst hY
  have := run_convert_bytes_arg (P := Tryd.prog) W 97 5 Tryd.underlying97 Tryd.underlying5 b 0 1 1 [48 + (d : Int)] rfl (fun i hi => by
    obtain rfl : i = 0 := by omega
    exact hB.cell 0) 9 Tryd.underlying9
  rw [this]
  obtain rfl | rfl | rfl | rfl | rfl | rfl | rfl | rfl | rfl | rfl : d = 0 ∨ d = 1 ∨ d = 2 ∨ d = 3 ∨ d = 4 ∨ d = 5 ∨ d = 6 ∨ d = 7 ∨ d = 8 ∨ d = 9 := by omega
  all_goals rfl
def PosOk (n : Nat) : Prop := ∀ w, Calls Tryd.prog 45 #[.int .u64 n] w fun e w' => e = .returned (.string (strB (Lib.decDigits n))) ∧ Kp w w'
set_option maxRecDepth 20000 in
theorem pos_low (n : Nat) (hn : n < 10) : PosOk n := by
  intro w
  have e : Lib.decDigits n = [UInt8.ofNat (48 + n)] := by unfold Lib.decDigits; rw [dif_pos hn]
  rw [e]
  obtain ⟨X, hX⟩ : ∃ X : Int, X = (n : Int) := ⟨_, rfl⟩
  have hb := byte_text n hn w.heap.size (w.alloc (.cells #[.int .u8 (48 + X)] 5)) X hX (Blk.new w _ _)
  rw [← hX]
  have i0 : 0 ≤ X := by omega
  have i1 : X < 10 := by omega
  obtain ⟨D, hD⟩ : ∃ D : List UInt8, D = [UInt8.ofNat (48 + n)] := ⟨_, rfl⟩
  rw [← hD] at hb ⊢
  have HB := Lib.hid hb
  clear hb hn e hX hD
  go_enter Tryd.func45, Tryd.ntmps45
  go_wp2_with fail
  rw [HB.out]
  go_wp2
  go_ret
  exact ⟨rfl, kpA _ _ _⟩
set_option maxRecDepth 20000 in
set_option maxHeartbeats 2000000 in
theorem pos_more (n : Nat) (hn : ¬ n < 10) (h64 : n < 1000000000000) (hl : (Lib.decDigits (n / 10)).length ≤ 900) (ih : PosOk (n / 10)) : PosOk n := by
  intro w
  have e : Lib.decDigits n = Lib.decDigits (n / 10) ++ [UInt8.ofNat (48 + n % 10)] := by rw [Lib.decDigits, dif_neg hn]
  rw [e]
  obtain ⟨X, hX⟩ : ∃ X : Int, X = (n : Int) := ⟨_, rfl⟩
  obtain ⟨Y, hY⟩ : ∃ Y : Int, Y = ((n % 10 : Nat) : Int) := ⟨_, rfl⟩
  have HBT := Lib.hid (fun b W hB => byte_text (n % 10) (by omega) b W Y hY hB)
  obtain ⟨D, hD⟩ : ∃ D : List UInt8, D = [UInt8.ofNat (48 + n % 10)] := ⟨_, rfl⟩
  obtain ⟨R, hR⟩ : ∃ R : List UInt8, R = Lib.decDigits (n / 10) := ⟨_, rfl⟩
  have IH := Lib.hid ih
  unfold PosOk at IH
  rw [← hR] at hl
  rw [← hD, ← hR]
  rw [← hD] at HBT
  rw [← hR] at IH
  obtain ⟨s1, hs1, a1⟩ := add_any R D (by rw [hD]; simp; omega)
  rw [← hX]
  have i0 : 10 ≤ X := by omega
  have i1 : X < 1000000000000 := by omega
  have j0 : 0 ≤ Y := by omega
  have j1 : Y < 10 := by omega
  have ed : X / 10 = ((n / 10 : Nat) : Int) := by omega
  have em : X % 10 = Y := by omega
  have HS := Lib.hid hs1
  have HW1 : Hid (IntKind.u64.wrap (X.tdiv 10) = X / 10) := Lib.hid (by rw [Int.tdiv_eq_ediv_of_nonneg (by omega), show ∀ z, IntKind.u64.wrap z = z % 18446744073709551616 from IntKind.wrap_u64]; omega)
  have HW2 : Hid (IntKind.u8.wrap (IntKind.u64.wrap (48 + X.tmod 10)) = 48 + Y) := Lib.hid (by rw [Int.tmod_eq_emod_of_nonneg (by omega), show ∀ z, IntKind.u64.wrap z = z % 18446744073709551616 from IntKind.wrap_u64]; simp [IntKind.wrap, IntKind.bits, IntKind.signed]; omega)
  have HCALL : Hid (∀ w, Calls Tryd.prog 45 #[.int .u64 (X / 10)] w fun e w' => e = .returned (.string (strB R)) ∧ Kp w w') := Lib.hid (by rw [ed]; exact IH.out)
  clear hn h64 hl ih e hX hY hs1 ed hD hR
  go_enter Tryd.func45, Tryd.ntmps45
  go_wp2_with fail
  refine wp_region_held_drew (S := fun w' => Kp w w') (by kernel_rfl) ((Kp.refl w).drew) (fun hHeld => ?_)
  generalize w.drew = w0 at hHeld ⊢
  refine wpAnyH_take (i := 0) (oi := ?p0z1) (v := ?v0z1) ?o0z1 (by kernel_rfl) (by kernel_rfl) (by kernel_rfl) ?q0z1 ?y0z1 (by assumption) ?r0z1
  case o0z1 => (simp only [List.getElem?_toArray, List.getElem?_cons_zero]; rfl)
  case q0z1 => (exact fun _ _ _ h => h)
  case y0z1 => (refine Or.inl ⟨by rfl, ?_⟩; intro w hSw; (try dsimp only at hSw); go_simp; (try with_reducible rfl))
  simp only [Act.put, List.setIfInBounds_toArray, List.set_cons_zero, List.set_cons_succ]
  refine wpAnyH_take (i := 1) (oi := ?p1z2) (v := ?v1z2) ?o1z2 (by kernel_rfl) (by kernel_rfl) (by kernel_rfl) ?q1z2 ?y1z2 (by assumption) ?r1z2
  case o1z2 => (simp only [List.getElem?_toArray, List.getElem?_cons_succ, List.getElem?_cons_zero]; rfl)
  case q1z2 => (exact fun _ _ _ h => h)
  case y1z2 => (refine Or.inl ⟨by rfl, ?_⟩; intro w hSw; (try dsimp only at hSw); go_simp; (try with_reducible rfl))
  simp only [Act.put, List.setIfInBounds_toArray, List.set_cons_zero, List.set_cons_succ]
  refine wpAnyH_take (i := 3) (oi := ?p3z3) (v := ?v3z3) ?o3z3 (by kernel_rfl) (by kernel_rfl) (by kernel_rfl) ?q3z3 ?y3z3 (by assumption) ?r3z3
  case o3z3 => (simp only [List.getElem?_toArray, List.getElem?_cons_succ, List.getElem?_cons_zero]; rfl)
  case q3z3 => (exact fun _ _ _ h => h)
  case y3z3 => (refine Or.inl ⟨by rfl, ?_⟩; intro w hSw; (try dsimp only at hSw); go_simp; (try with_reducible rfl))
  simp only [Act.put, List.setIfInBounds_toArray, List.set_cons_zero, List.set_cons_succ]
  refine wpAnyH_take (i := 4) (oi := ?p4z4) (v := ?v4z4) ?o4z4 (by kernel_rfl) (by kernel_rfl) (by kernel_rfl) ?q4z4 ?y4z4 (by assumption) ?r4z4
  case o4z4 => (simp only [List.getElem?_toArray, List.getElem?_cons_succ, List.getElem?_cons_zero]; rfl)
  case q4z4 => (exact fun _ _ _ h => h)
  case y4z4 => (refine Or.inl ⟨by rfl, ?_⟩; intro w hSw; (try dsimp only at hSw); go_simp; (try with_reducible rfl))
  simp only [Act.put, List.setIfInBounds_toArray, List.set_cons_zero, List.set_cons_succ]
  refine wpAnyH_take (i := 5) (oi := ?p5z5) (v := ?v5z5) ?o5z5 (by kernel_rfl) (by kernel_rfl) (by kernel_rfl) ?q5z5 ?y5z5 (by assumption) ?r5z5
  case o5z5 => (simp only [List.getElem?_toArray, List.getElem?_cons_succ, List.getElem?_cons_zero]; rfl)
  case q5z5 => (exact fun _ _ _ h => h)
  case y5z5 => (refine Or.inl ⟨by rfl, ?_⟩; intro w hSw; (try dsimp only at hSw); go_simp; (try with_reducible rfl))
  simp only [Act.put, List.setIfInBounds_toArray, List.set_cons_zero, List.set_cons_succ]
  refine wpAnyH_take (i := 6) (oi := ?p6z6) (v := ?v6z6) ?o6z6 (by kernel_rfl) (by kernel_rfl) (by kernel_rfl) ?q6z6 ?y6z6 (by assumption) ?r6z6
  case o6z6 => (simp only [List.getElem?_toArray, List.getElem?_cons_succ, List.getElem?_cons_zero]; rfl)
  case q6z6 => (exact fun _ _ _ h => h)
  case y6z6 => (refine Or.inl ⟨by rfl, ?_⟩; intro w hSw; (try dsimp only at hSw); go_simp; (try with_reducible rfl))
  simp only [Act.put, List.setIfInBounds_toArray, List.set_cons_zero, List.set_cons_succ]
  rw [HW1.out, HW2.out]
  refine wpAnyH_ready (rs := [2, 7]) (by kernel_rfl) (by simp) ?_
  refine (AllReadyH.cons (o := ?pz7) ?oz7 (fun K hK => ?wz7) (AllReadyH.cons (o := ?pz8) ?oz8 (fun K hK => ?wz8) AllReadyH.nil))
  case oz7 => (simp only [List.getElem?_toArray, List.getElem?_cons_succ, List.getElem?_cons_zero]; rfl)
  case oz8 => (simp only [List.getElem?_toArray, List.getElem?_cons_succ, List.getElem?_cons_zero]; rfl)
  case wz7 =>
    rw [if_pos (by rfl)]
    go_simp
    refine (HCALL.out _).mono ?_; rintro e wz9 ⟨rfl, hgz9⟩
    (try go_wp2_with fail)
    refine hK.out _ _ (Kp.trans hHeld hgz9) (fun hz9 => ?_)
    clear hK K hgz9
    refine wpAnyH_ready (rs := [7]) (by kernel_rfl) (by simp) ?_
    refine (AllReadyH.cons (o := ?pz10) ?oz10 (fun K hK => ?wz10) AllReadyH.nil)
    case oz10 => (simp only [List.getElem?_toArray, List.getElem?_cons_succ, List.getElem?_cons_zero]; rfl)
    case wz10 =>
      rw [if_pos (by rfl)]
      go_simp
      have hgz11 := kpA wz9 #[.int .u8 (48 + Y)] 5
      have hBz11 := Blk.new wz9 #[.int .u8 (48 + Y)] 5
      refine hK.out _ _ (Kp.trans hz9 hgz11) (fun hz11 => ?_)
      clear hK K hgz11
      generalize wz9.alloc (.cells #[.int .u8 (48 + Y)] 5) = wz11 at hz11 hBz11 ⊢
      refine wpAnyH_ready (rs := [8]) (by kernel_rfl) (by simp) ?_
      refine (AllReadyH.cons (o := ?pz12) ?oz12 (fun K hK => ?wz12) AllReadyH.nil)
      case oz12 => (simp only [List.getElem?_toArray, List.getElem?_cons_succ, List.getElem?_cons_zero]; rfl)
      case wz12 =>
        rw [if_pos (by rfl)]
        go_simp
        rw [HBT.out _ _ hBz11]
        go_simp
        refine hK.out _ _ hz11 (fun hz13 => ?_)
        clear hK K
        refine wpAnyH_take (i := 9) (oi := ?p9z14) (v := ?v9z14) ?o9z14 (by kernel_rfl) (by kernel_rfl) (by kernel_rfl) ?q9z14 ?y9z14 (by assumption) ?r9z14
        case o9z14 => (simp only [List.getElem?_toArray, List.getElem?_cons_succ, List.getElem?_cons_zero]; rfl)
        case q9z14 => (exact fun _ _ _ h => h)
        case y9z14 => (refine Or.inl ⟨by rfl, ?_⟩; intro w hSw; (try dsimp only at hSw); go_simp; (try with_reducible rfl))
        simp only [Act.put, List.setIfInBounds_toArray, List.set_cons_zero, List.set_cons_succ]
        refine wpAnyH_take (i := 10) (oi := ?p10z15) (v := ?v10z15) ?o10z15 (by kernel_rfl) (by kernel_rfl) (by kernel_rfl) ?q10z15 ?y10z15 (by assumption) ?r10z15
        case o10z15 => (simp only [List.getElem?_toArray, List.getElem?_cons_succ, List.getElem?_cons_zero]; rfl)
        case q10z15 => (exact fun _ _ _ h => h)
        case y10z15 => (refine Or.inl ⟨by rfl, ?_⟩; intro w hSw; (try dsimp only at hSw); go_simp; (try with_reducible rfl))
        simp only [Act.put, List.setIfInBounds_toArray, List.set_cons_zero, List.set_cons_succ]
        refine wpAnyH_done (by kernel_rfl) ?_ _
        go_wp2
        go_ret
        exact ⟨ret_str HS.out, hz13⟩
  case wz8 =>
    rw [if_pos (by rfl)]
    go_simp
    have hgz16 := kpA w0 #[.int .u8 (48 + Y)] 5
    have hBz16 := Blk.new w0 #[.int .u8 (48 + Y)] 5
    refine hK.out _ _ (Kp.trans hHeld hgz16) (fun hz16 => ?_)
    clear hK K hgz16
    generalize w0.alloc (.cells #[.int .u8 (48 + Y)] 5) = wz16 at hz16 hBz16 ⊢
    refine wpAnyH_ready (rs := [2, 8]) (by kernel_rfl) (by simp) ?_
    refine (AllReadyH.cons (o := ?pz17) ?oz17 (fun K hK => ?wz17) (AllReadyH.cons (o := ?pz18) ?oz18 (fun K hK => ?wz18) AllReadyH.nil))
    case oz17 => (simp only [List.getElem?_toArray, List.getElem?_cons_succ, List.getElem?_cons_zero]; rfl)
    case oz18 => (simp only [List.getElem?_toArray, List.getElem?_cons_succ, List.getElem?_cons_zero]; rfl)
    case wz17 =>
      rw [if_pos (by rfl)]
      go_simp
      refine (HCALL.out _).mono ?_; rintro e wz19 ⟨rfl, hgz19⟩
      (try go_wp2_with fail)
      have fz20 := hBz16.kp hgz19
      refine hK.out _ _ (Kp.trans hz16 hgz19) (fun hz19 => ?_)
      clear hK K hgz19
      refine wpAnyH_ready (rs := [8]) (by kernel_rfl) (by simp) ?_
      refine (AllReadyH.cons (o := ?pz21) ?oz21 (fun K hK => ?wz21) AllReadyH.nil)
      case oz21 => (simp only [List.getElem?_toArray, List.getElem?_cons_succ, List.getElem?_cons_zero]; rfl)
      case wz21 =>
        rw [if_pos (by rfl)]
        go_simp
        rw [HBT.out _ _ fz20]
        go_simp
        refine hK.out _ _ hz19 (fun hz22 => ?_)
        clear hK K
        refine wpAnyH_take (i := 9) (oi := ?p9z23) (v := ?v9z23) ?o9z23 (by kernel_rfl) (by kernel_rfl) (by kernel_rfl) ?q9z23 ?y9z23 (by assumption) ?r9z23
        case o9z23 => (simp only [List.getElem?_toArray, List.getElem?_cons_succ, List.getElem?_cons_zero]; rfl)
        case q9z23 => (exact fun _ _ _ h => h)
        case y9z23 => (refine Or.inl ⟨by rfl, ?_⟩; intro w hSw; (try dsimp only at hSw); go_simp; (try with_reducible rfl))
        simp only [Act.put, List.setIfInBounds_toArray, List.set_cons_zero, List.set_cons_succ]
        refine wpAnyH_take (i := 10) (oi := ?p10z24) (v := ?v10z24) ?o10z24 (by kernel_rfl) (by kernel_rfl) (by kernel_rfl) ?q10z24 ?y10z24 (by assumption) ?r10z24
        case o10z24 => (simp only [List.getElem?_toArray, List.getElem?_cons_succ, List.getElem?_cons_zero]; rfl)
        case q10z24 => (exact fun _ _ _ h => h)
        case y10z24 => (refine Or.inl ⟨by rfl, ?_⟩; intro w hSw; (try dsimp only at hSw); go_simp; (try with_reducible rfl))
        simp only [Act.put, List.setIfInBounds_toArray, List.set_cons_zero, List.set_cons_succ]
        refine wpAnyH_done (by kernel_rfl) ?_ _
        go_wp2
        go_ret
        exact ⟨ret_str HS.out, hz22⟩
    case wz18 =>
      rw [if_pos (by rfl)]
      go_simp
      rw [HBT.out _ _ hBz16]
      go_simp
      refine hK.out _ _ hz16 (fun hz25 => ?_)
      clear hK K
      refine wpAnyH_ready (rs := [2]) (by kernel_rfl) (by simp) ?_
      refine (AllReadyH.cons (o := ?pz26) ?oz26 (fun K hK => ?wz26) AllReadyH.nil)
      case oz26 => (simp only [List.getElem?_toArray, List.getElem?_cons_succ, List.getElem?_cons_zero]; rfl)
      case wz26 =>
        rw [if_pos (by rfl)]
        go_simp
        refine (HCALL.out _).mono ?_; rintro e wz27 ⟨rfl, hgz27⟩
        (try go_wp2_with fail)
        have fz28 := hBz16.kp hgz27
        refine hK.out _ _ (Kp.trans hz25 hgz27) (fun hz27 => ?_)
        clear hK K hgz27
        refine wpAnyH_take (i := 9) (oi := ?p9z29) (v := ?v9z29) ?o9z29 (by kernel_rfl) (by kernel_rfl) (by kernel_rfl) ?q9z29 ?y9z29 (by assumption) ?r9z29
        case o9z29 => (simp only [List.getElem?_toArray, List.getElem?_cons_succ, List.getElem?_cons_zero]; rfl)
        case q9z29 => (exact fun _ _ _ h => h)
        case y9z29 => (refine Or.inl ⟨by rfl, ?_⟩; intro w hSw; (try dsimp only at hSw); go_simp; (try with_reducible rfl))
        simp only [Act.put, List.setIfInBounds_toArray, List.set_cons_zero, List.set_cons_succ]
        refine wpAnyH_take (i := 10) (oi := ?p10z30) (v := ?v10z30) ?o10z30 (by kernel_rfl) (by kernel_rfl) (by kernel_rfl) ?q10z30 ?y10z30 (by assumption) ?r10z30
        case o10z30 => (simp only [List.getElem?_toArray, List.getElem?_cons_succ, List.getElem?_cons_zero]; rfl)
        case q10z30 => (exact fun _ _ _ h => h)
        case y10z30 => (refine Or.inl ⟨by rfl, ?_⟩; intro w hSw; (try dsimp only at hSw); go_simp; (try with_reducible rfl))
        simp only [Act.put, List.setIfInBounds_toArray, List.set_cons_zero, List.set_cons_succ]
        refine wpAnyH_done (by kernel_rfl) ?_ _
        go_wp2
        go_ret
        exact ⟨ret_str HS.out, hz27⟩
theorem dec_len : ∀ (k n : Nat), n < 10 ^ (k + 1) → (Lib.decDigits n).length ≤ k + 1
  | 0, n, h => by rw [Lib.decDigits, dif_pos (by simpa using h)]; simp
  | k + 1, n, h => by
    by_cases c : n < 10
    · rw [Lib.decDigits, dif_pos c]; simp
    · rw [Lib.decDigits, dif_neg c, List.length_append]
      have := dec_len k (n / 10) (by rw [Nat.div_lt_iff_lt_mul (by decide)]; rwa [Nat.pow_succ] at h)
      simp; omega
theorem dec_12 (n : Nat) (h : n < 1000000000000) : (Lib.decDigits n).length ≤ 12 := dec_len 11 n h
theorem pos_any : ∀ (k n : Nat), n ≤ k → n < 1000000000000 → PosOk n
  | 0, n, h, _ => pos_low n (by omega)
  | k + 1, n, h, h64 => by
    by_cases c : n < 10
    · exact pos_low n c
    · exact pos_more n c h64 (by have := dec_12 (n / 10) (by omega); omega) (pos_any k (n / 10) (by omega) (by omega))
theorem itoa_len (n : Int) (h0 : -100000 ≤ n) (h1 : n ≤ 100000) : (Lib.itoa n).length ≤ 13 := by
  unfold Lib.itoa
  split
  · have := dec_12 n.natAbs (by omega)
    simp; omega
  · have := dec_12 n.toNat (by omega)
    omega
set_option maxRecDepth 20000 in
theorem digits_any (n : Int) (w : World) (h0 : -100000 ≤ n) (h1 : n ≤ 100000) :
    Calls Tryd.prog 31 #[.int .i64 n] w fun e w' => e = .returned (.string (strB (Lib.itoa n))) ∧ Kp w w' := by
  by_cases hn : n < 0
  · have e : Lib.itoa n = [45] ++ Lib.decDigits n.natAbs := if_pos hn
    obtain ⟨s1, hs1, a1⟩ := add_any [45] (Lib.decDigits n.natAbs) (by have := dec_12 n.natAbs (by omega); simp; omega)
    rw [e]
    have HP := Lib.hid (pos_any _ n.natAbs (Nat.le_refl _) (by omega))
    have e1 : wrap64 (-n) = (n.natAbs : Int) := by unfold wrap64; omega
    have e2 : IntKind.u64.wrap (n.natAbs : Int) = (n.natAbs : Int) := by rw [show ∀ z, IntKind.u64.wrap z = z % 18446744073709551616 from IntKind.wrap_u64]; omega
    have HE1 := Lib.hid e1
    have HE2 := Lib.hid e2
    clear e1 e2
    obtain ⟨N, hN⟩ : ∃ N : Nat, N = n.natAbs := ⟨_, rfl⟩
    rw [← hN] at HE1 HE2 HP hs1 a1 ⊢
    obtain ⟨R, hR⟩ : ∃ R : List UInt8, R = Lib.decDigits N := ⟨_, rfl⟩
    unfold PosOk at HP
    rw [← hR] at HP hs1 a1 ⊢
    have HS := Lib.hid hs1
    have a1 : ∀ w, (Op.stringOp .add ⟨#[45]⟩ (strB R)).run Tryd.prog w = .ok (.string s1) w := a1
    have e1 := HE1.out
    have e2 := HE2.out
    clear e h0 h1 hN hR hs1
    go_enter Tryd.func31, Tryd.ntmps31
    go_wp2_with fail
    refine (HP.out _).mono ?_; rintro e w1 ⟨rfl, hg⟩
    have H1 := Lib.hid hg; clear hg
    go_wp2
    go_ret
    exact ⟨ret_str HS.out, (by (repeat (first | apply Kp.drew | apply Kp.alloc)); refine Kp.trans ?_ H1.out; (repeat (first | apply Kp.drew | apply Kp.alloc)); exact Kp.refl _)⟩
  · have e : Lib.itoa n = Lib.decDigits n.toNat := if_neg hn
    rw [e]
    have HP := Lib.hid (pos_any _ n.toNat (Nat.le_refl _) (by omega))
    have e2 : IntKind.u64.wrap n = (n.toNat : Int) := by rw [show ∀ z, IntKind.u64.wrap z = z % 18446744073709551616 from IntKind.wrap_u64]; omega
    obtain ⟨N, hN⟩ : ∃ N : Nat, N = n.toNat := ⟨_, rfl⟩
    rw [← hN] at HP e2 ⊢
    clear e h0 h1 hN
    go_enter Tryd.func31, Tryd.ntmps31
    go_wp2_with fail
    refine (HP.out _).mono ?_; rintro e w2 ⟨rfl, hg⟩
    have H2 := Lib.hid hg; clear hg
    go_wp2
    go_ret
    exact ⟨rfl, (by (repeat (first | apply Kp.drew | apply Kp.alloc)); refine Kp.trans ?_ H2.out; (repeat (first | apply Kp.drew | apply Kp.alloc)); exact Kp.refl _)⟩
theorem name_any (o : Nat) (w : World) (ho : o < 19) :
    Calls Tryd.prog 29 #[.int .i8 o] w fun e w' => e = .returned (.string (fName o)) ∧ w = w' := by
  obtain rfl | rfl | rfl | rfl | rfl | rfl | rfl | rfl | rfl | rfl | rfl | rfl | rfl | rfl | rfl | rfl | rfl | rfl | rfl : o = 0 ∨ o = 1 ∨ o = 2 ∨ o = 3 ∨ o = 4 ∨ o = 5 ∨ o = 6 ∨ o = 7 ∨ o = 8 ∨ o = 9 ∨ o = 10 ∨ o = 11 ∨ o = 12 ∨ o = 13 ∨ o = 14 ∨ o = 15 ∨ o = 16 ∨ o = 17 ∨ o = 18 := by omega
  all_goals
    clear ho
    go_enter Tryd.func29, Tryd.ntmps29
    go_wp2
    go_ret
    exact ⟨rfl, rfl⟩
def shpS (o : Nat) : List UInt8 := (if fD o then [68] else []) ++ (if fN o then [78] else []) ++ (if fM o then [77] else []) ++ (if fWd o = 0 then [] else [73])
theorem shape_any (o : Nat) (w : World) (ho : o < 19) :
    Calls Tryd.prog 30 #[.int .i8 o] w fun e w' => e = .returned (.string (strB (shpS o))) ∧ w = w' := by
  obtain rfl | rfl | rfl | rfl | rfl | rfl | rfl | rfl | rfl | rfl | rfl | rfl | rfl | rfl | rfl | rfl | rfl | rfl | rfl : o = 0 ∨ o = 1 ∨ o = 2 ∨ o = 3 ∨ o = 4 ∨ o = 5 ∨ o = 6 ∨ o = 7 ∨ o = 8 ∨ o = 9 ∨ o = 10 ∨ o = 11 ∨ o = 12 ∨ o = 13 ∨ o = 14 ∨ o = 15 ∨ o = 16 ∨ o = 17 ∨ o = 18 := by omega
  all_goals
    clear ho
    go_enter Tryd.func30, Tryd.ntmps30
    go_wp2
    go_ret
    exact ⟨rfl, rfl⟩
end Go.Proofs.YtfbkppncaampdaaDoor
