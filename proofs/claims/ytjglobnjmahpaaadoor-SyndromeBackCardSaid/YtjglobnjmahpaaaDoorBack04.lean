/-
  SyndromeBack returns true. No condition but the tables.
-/
import Derived.Test.YtjglobnjmahpaaaDoorBackM04
import Derived.Test.YtjglobnjmahpaaaDoorReads04
import Derived.Test.YtjglobnjmahpaaaDoorStill
import Derived.Deep.RegionHeld3
namespace Go.Proofs.YtjglobnjmahpaaaDoor
open Go Go.RowKit

def S2 (w w' : World) (c f l n c' f' l' n' : Int) (st st' : Bool) : Prop :=
  w'.cell? ⟨w.heap.size, 0, none⟩ = some (.int .i8 c) ∧ w'.cell? ⟨w.heap.size, 1, none⟩ = some (.bool st) ∧ w'.cell? ⟨w.heap.size, 2, none⟩ = some (.int .i8 f) ∧ w'.cell? ⟨w.heap.size, 3, none⟩ = some (.int .i8 l) ∧ w'.cell? ⟨w.heap.size, 4, none⟩ = some (.int .u64 n) ∧
  w'.cell? ⟨w.heap.size + 1, 0, none⟩ = some (.int .i8 c') ∧ w'.cell? ⟨w.heap.size + 1, 1, none⟩ = some (.bool st') ∧ w'.cell? ⟨w.heap.size + 1, 2, none⟩ = some (.int .i8 f') ∧ w'.cell? ⟨w.heap.size + 1, 3, none⟩ = some (.int .i8 l') ∧ w'.cell? ⟨w.heap.size + 1, 4, none⟩ = some (.int .u64 n') ∧
  TabsOk w' ∧ w.heap.size + 1 < w'.heap.size ∧ Kp w w'
section
variable {w w1 w2 : World} {c f l n c' f' l' n' : Int} {st st' : Bool}
theorem S2.kp (h : S2 w w1 c f l n c' f' l' n' st st') (g : Kp w1 w2) : S2 w w2 c f l n c' f' l' n' st st' := by
  obtain ⟨h0, h1, h2, h3, h4, k0, k1, k2, k3, k4, ht, hs, hk⟩ := h
  have hs' : w.heap.size < w1.heap.size := by omega
  exact ⟨(g.cell hs').trans h0, (g.cell hs').trans h1, (g.cell hs').trans h2, (g.cell hs').trans h3, (g.cell hs').trans h4, (g.cell hs).trans k0, (g.cell hs).trans k1, (g.cell hs).trans k2, (g.cell hs).trans k3, (g.cell hs).trans k4, ht.kp g, Nat.lt_of_lt_of_le hs g.size, hk.trans g⟩
theorem S2.drew (h : S2 w w1 c f l n c' f' l' n' st st') : S2 w w1.drew c f l n c' f' l' n' st st' := h.kp (Kp.refl _).drew
theorem s2_new (w : World) (c f l n c' f' l' n' : Int) (st st' : Bool) (hT : TabsOk w) :
    S2 w ((w.alloc (.cells #[.int .i8 c, .bool st, .int .i8 f, .int .i8 l, .int .u64 n] 25)).alloc (.cells #[.int .i8 c', .bool st', .int .i8 f', .int .i8 l', .int .u64 n'] 25)) c f l n c' f' l' n' st st' := by
  have a := (Blk.new w #[.int .i8 c, .bool st, .int .i8 f, .int .i8 l, .int .u64 n] 25).alloc (.cells #[.int .i8 c', .bool st', .int .i8 f', .int .i8 l', .int .u64 n'] 25)
  have b := Blk.new2 w (.cells #[.int .i8 c, .bool st, .int .i8 f, .int .i8 l, .int .u64 n] 25) #[.int .i8 c', .bool st', .int .i8 f', .int .i8 l', .int .u64 n'] 25
  exact ⟨a.cell 0, a.cell 1, a.cell 2, a.cell 3, a.cell 4, b.cell 0, b.cell 1, b.cell 2, b.cell 3, b.cell 4, hT.kp ((kpA _ _ _).alloc _ _), b.lt, (kpA _ _ _).alloc _ _⟩
end
theorem ok_wf {c f l a : Int} {st : Bool} (h : SOk c st f l a) : (Lit.int .i8 c).wf = true := by
  have := ok_cls h
  obtain rfl | rfl | rfl | rfl | rfl : c = 0 ∨ c = 1 ∨ c = 2 ∨ c = 3 ∨ c = 4 := by omega
  all_goals rfl
set_option maxRecDepth 100000 in
set_option maxHeartbeats 2000000 in
theorem back_a0 (x far : Nat) (c f l c' f' l' : Int) (n n' : Nat) (st st' : Bool) (w : World) (hT : TabsOk w) (hB : Bru w) (hx : x < 18446744073709551616) (hn : n < 18446744073709551616) (hn' : n' < 18446744073709551616)
    (wc : (Lit.int .i8 c).wf = true) (wc' : (Lit.int .i8 c').wf = true) (hd : dE x far = 0) (hs : ¬ SOk c st f l n) :
    Calls Tryd.prog 5 #[.int .u64 x, .int .u64 far, .agg #[.int .i8 c, .bool st, .int .i8 f, .int .i8 l, .int .u64 n], .agg #[.int .i8 c', .bool st', .int .i8 f', .int .i8 l', .int .u64 n']] w fun e w' => e = .returned (.bool true) ∧ Kp w w' := by
  have S0 := Lib.hid (s2_new w c f l n c' f' l' n' st st' hT)
  have HB := Lib.hid hB
  have HX := Lib.hid hx
  have HN := Lib.hid hn
  have HN' := Lib.hid hn'
  have WC := Lib.hid wc
  have WC' := Lib.hid wc'
  have HE := Lib.hid hd
  have HD := Lib.hid (dec_enc hd)
  have CS := Lib.hid (chk_no hs)
  have TS := Lib.hid (txt_no hs)
  have TQ : Hid (((strB [63]).toList == [63]) = true) := Lib.hid (by rw [strB_toList]; decide)
  clear hT hB hx hn hn' wc wc' hd hs
  go_enter Tryd.func5, Tryd.ntmps5
  go_wp2_with fail
  refine (decode_any x far _ HX.out S0.out.2.2.2.2.2.2.2.2.2.2.1).mono ?_; rintro e w1 ⟨rfl, hg⟩
  have S1 := Lib.hid (S0.out.kp (hg.alloc #[.int .i8 (dC x far), .bool (dS x far), .int .i8 (dF x far), .int .i8 (dL x far), .int .u64 (dA x far)] 25))
  clear hg
  rw [HE.out]
  go_wp2_with fail
  refine (encode_any (dC x far) (dS x far) (dF x far) (dL x far) (dA x far) _ S1.out.2.2.2.2.2.2.2.2.2.2.1 (ok_wf HD.out.1)).mono ?_; rintro e w2 ⟨rfl, hg⟩
  have S2' := Lib.hid (S1.out.kp hg)
  clear hg
  rw [HD.out.2.1, HD.out.2.2, chk_yes HD.out.1]
  obtain ⟨z0, z1, z2, z3, z4, y0, y1, y2, y3, y4, -⟩ := S2'.out
  go_wp2_with fail
  refine (encode_any c st f l n _ S2'.out.2.2.2.2.2.2.2.2.2.2.1 WC.out).mono ?_; rintro e w3 ⟨rfl, hg⟩
  have S3 := Lib.hid (S2'.out.kp hg)
  clear hg z0 z1 z2 z3 z4 y0 y1 y2 y3 y4
  rw [CS.out]
  obtain ⟨z0, z1, z2, z3, z4, y0, y1, y2, y3, y4, -⟩ := S3.out
  go_wp2_with fail
  refine (encode_any c' st' f' l' n' _ S3.out.2.2.2.2.2.2.2.2.2.2.1 WC'.out).mono ?_; rintro e w4 ⟨rfl, hg⟩
  have S4 := Lib.hid (S3.out.kp hg)
  clear hg z0 z1 z2 z3 z4 y0 y1 y2 y3 y4
  obtain ⟨z0, z1, z2, z3, z4, y0, y1, y2, y3, y4, -⟩ := S4.out
  go_wp2_with fail
  refine wp_region_still_tail 27 (by kernel_rfl) (by kernel_rfl) ?_
  simp only [List.take_succ_cons, List.take_zero, List.drop_succ_cons, List.drop_zero]
  have S6 := Lib.hid (S4.out.drew)
  obtain ⟨q0, q1, q2, q3, q4, r0, r1, r2, r3, r4, -⟩ := S6.out
  refine still_of_quiet (w4).drew _ _ ?_
  generalize (w4).drew = W at q0 q1 q2 q3 q4 r0 r1 r2 r3 r4 ⊢
  clear z0 z1 z2 z3 z4 y0 y1 y2 y3 y4
  repeat (go_big_quiet_step (fail))
  refine wpQuiet_nil ?_
  clear q0 q1 q2 q3 q4 r0 r1 r2 r3 r4
  obtain ⟨z0, z1, z2, z3, z4, y0, y1, y2, y3, y4, -⟩ := S6.out
  go_wp2_with fail
  refine (text_any c st f l n _ S6.out.2.2.2.2.2.2.2.2.2.2.1 (HB.out.kp S6.out.2.2.2.2.2.2.2.2.2.2.2.2) HN.out WC.out).mono ?_; rintro e w7 ⟨rfl, hg⟩
  have S7 := Lib.hid (S6.out.kp hg)
  clear hg z0 z1 z2 z3 z4 y0 y1 y2 y3 y4
  rw [TS.out]
  have tq := TQ.out
  go_wp2_with fail
  refine (wakes_any _ S7.out.2.2.2.2.2.2.2.2.2.2.1 (HB.out.kp S7.out.2.2.2.2.2.2.2.2.2.2.2.2)).mono ?_; rintro e w8 ⟨rfl, hg⟩
  have HK := Lib.hid (S7.out.2.2.2.2.2.2.2.2.2.2.2.2.trans hg)
  clear hg
  go_wp2_with fail
  go_ret
  exact ⟨rfl, HK.out⟩
set_option maxRecDepth 100000 in
set_option maxHeartbeats 2000000 in
theorem back_b0 (x far : Nat) (c f l c' f' l' : Int) (n n' : Nat) (st st' : Bool) (w : World) (hT : TabsOk w) (hB : Bru w) (hx : x < 18446744073709551616) (hn : n < 18446744073709551616) (hn' : n' < 18446744073709551616)
    (wc : (Lit.int .i8 c).wf = true) (wc' : (Lit.int .i8 c').wf = true) (hd : dE x far = 0) (hs : SOk c st f l n) (ht : ¬ SOk c' st' f' l' n') :
    Calls Tryd.prog 5 #[.int .u64 x, .int .u64 far, .agg #[.int .i8 c, .bool st, .int .i8 f, .int .i8 l, .int .u64 n], .agg #[.int .i8 c', .bool st', .int .i8 f', .int .i8 l', .int .u64 n']] w fun e w' => e = .returned (.bool true) ∧ Kp w w' := by
  have S0 := Lib.hid (s2_new w c f l n c' f' l' n' st st' hT)
  have HB := Lib.hid hB
  have HX := Lib.hid hx
  have HN := Lib.hid hn
  have HN' := Lib.hid hn'
  have WC := Lib.hid wc
  have WC' := Lib.hid wc'
  have HE := Lib.hid hd
  have HD := Lib.hid (dec_enc hd)
  have CS := Lib.hid (chk_yes hs)
  have HS := Lib.hid hs
  have TQ : Hid (((strB (txtL c st f l n)).toList == [63]) = false) := Lib.hid (by rw [strB_toList]; simpa using text_ok hs)
  obtain ⟨X, eX, bX, eN, d0, d1, d2, d3, d4, d5⟩ := enc_dec hs
  have EX := Lib.hid eX
  have BX := Lib.hid bX
  have EN := Lib.hid eN
  have D := Lib.hid (⟨d0, d1, d2, d3, d4, d5⟩ : dC X n = c ∧ dS X n = st ∧ dF X n = f ∧ dL X n = l ∧ dA X n = n ∧ dE X n = 0)
  clear eX bX eN d0 d1 d2 d3 d4 d5
  have CT := Lib.hid (chk_no ht)
  clear hT hB hx hn hn' wc wc' hd hs ht
  go_enter Tryd.func5, Tryd.ntmps5
  go_wp2_with fail
  refine (decode_any x far _ HX.out S0.out.2.2.2.2.2.2.2.2.2.2.1).mono ?_; rintro e w1 ⟨rfl, hg⟩
  have S1 := Lib.hid (S0.out.kp (hg.alloc #[.int .i8 (dC x far), .bool (dS x far), .int .i8 (dF x far), .int .i8 (dL x far), .int .u64 (dA x far)] 25))
  clear hg
  rw [HE.out]
  go_wp2_with fail
  refine (encode_any (dC x far) (dS x far) (dF x far) (dL x far) (dA x far) _ S1.out.2.2.2.2.2.2.2.2.2.2.1 (ok_wf HD.out.1)).mono ?_; rintro e w2 ⟨rfl, hg⟩
  have S2' := Lib.hid (S1.out.kp hg)
  clear hg
  rw [HD.out.2.1, HD.out.2.2, chk_yes HD.out.1]
  obtain ⟨z0, z1, z2, z3, z4, y0, y1, y2, y3, y4, -⟩ := S2'.out
  go_wp2_with fail
  refine (encode_any c st f l n _ S2'.out.2.2.2.2.2.2.2.2.2.2.1 WC.out).mono ?_; rintro e w3 ⟨rfl, hg⟩
  have S3 := Lib.hid (S2'.out.kp hg)
  clear hg z0 z1 z2 z3 z4 y0 y1 y2 y3 y4
  rw [CS.out]
  rw [EX.out, EN.out]
  obtain ⟨z0, z1, z2, z3, z4, y0, y1, y2, y3, y4, -⟩ := S3.out
  go_wp2_with fail
  refine (encode_any c' st' f' l' n' _ S3.out.2.2.2.2.2.2.2.2.2.2.1 WC'.out).mono ?_; rintro e w4 ⟨rfl, hg⟩
  have S4 := Lib.hid (S3.out.kp hg)
  clear hg z0 z1 z2 z3 z4 y0 y1 y2 y3 y4
  rw [CT.out]
  obtain ⟨z0, z1, z2, z3, z4, y0, y1, y2, y3, y4, -⟩ := S4.out
  go_wp2_with fail
  refine (decode_any X n _ BX.out S4.out.2.2.2.2.2.2.2.2.2.2.1).mono ?_; rintro e w5 ⟨rfl, hg⟩
  rw [D.out.1, D.out.2.1, D.out.2.2.1, D.out.2.2.2.1, D.out.2.2.2.2.1, D.out.2.2.2.2.2]
  have S5 := Lib.hid (S4.out.kp (hg.alloc #[.int .i8 c, .bool st, .int .i8 f, .int .i8 l, .int .u64 n] 25))
  have S5' := Lib.hid (S4.out.kp hg)
  clear hg z0 z1 z2 z3 z4 y0 y1 y2 y3 y4
  obtain ⟨z0, z1, z2, z3, z4, y0, y1, y2, y3, y4, -, hlt, -⟩ := S5'.out
  have hlt' : w.heap.size < w5.heap.size := by omega
  have S5 : Hid (S2 w (w5.alloc (.cells #[.int .i8 c, .bool st, .int .i8 f, .int .i8 l, .int .u64 n] 25)) c f l n c' f' l' n' st st') := S5
  go_wp2_with fail
  clear z0 z1 z2 z3 z4 y0 y1 y2 y3 y4 hlt hlt'
  generalize w5.alloc (.cells #[.int .i8 c, .bool st, .int .i8 f, .int .i8 l, .int .u64 n] 25) = W5 at S5 ⊢
  refine wp_region_still_tail 27 (by kernel_rfl) (by kernel_rfl) ?_
  simp only [List.take_succ_cons, List.take_zero, List.drop_succ_cons, List.drop_zero]
  have S6 := Lib.hid (S5.out.drew)
  obtain ⟨q0, q1, q2, q3, q4, r0, r1, r2, r3, r4, -⟩ := S6.out
  refine still_of_quiet (W5).drew _ _ ?_
  generalize (W5).drew = W at q0 q1 q2 q3 q4 r0 r1 r2 r3 r4 ⊢
  repeat (go_big_quiet_step (fail))
  refine wpQuiet_nil ?_
  clear q0 q1 q2 q3 q4 r0 r1 r2 r3 r4
  obtain ⟨z0, z1, z2, z3, z4, y0, y1, y2, y3, y4, -⟩ := S6.out
  go_wp2_with fail
  refine (text_any c st f l n _ S6.out.2.2.2.2.2.2.2.2.2.2.1 (HB.out.kp S6.out.2.2.2.2.2.2.2.2.2.2.2.2) HN.out WC.out).mono ?_; rintro e w7 ⟨rfl, hg⟩
  have S7 := Lib.hid (S6.out.kp hg)
  clear hg z0 z1 z2 z3 z4 y0 y1 y2 y3 y4
  have tq := TQ.out
  go_wp2_with fail
  refine (wakes_any _ S7.out.2.2.2.2.2.2.2.2.2.2.1 (HB.out.kp S7.out.2.2.2.2.2.2.2.2.2.2.2.2)).mono ?_; rintro e w8 ⟨rfl, hg⟩
  have HK := Lib.hid (S7.out.2.2.2.2.2.2.2.2.2.2.2.2.trans hg)
  clear hg
  go_wp2_with fail
  go_ret
  exact ⟨rfl, HK.out⟩
set_option maxRecDepth 100000 in
set_option maxHeartbeats 2000000 in
theorem back_c0 (x far : Nat) (c f l : Int) (n : Nat) (st : Bool) (w : World) (hT : TabsOk w) (hB : Bru w) (hx : x < 18446744073709551616) (hn : n < 18446744073709551616) (hn' : n < 18446744073709551616)
    (wc : (Lit.int .i8 c).wf = true) (wc' : (Lit.int .i8 c).wf = true) (hd : dE x far = 0) (hs : SOk c st f l n) :
    Calls Tryd.prog 5 #[.int .u64 x, .int .u64 far, .agg #[.int .i8 c, .bool st, .int .i8 f, .int .i8 l, .int .u64 n], .agg #[.int .i8 c, .bool st, .int .i8 f, .int .i8 l, .int .u64 n]] w fun e w' => e = .returned (.bool true) ∧ Kp w w' := by
  have S0 := Lib.hid (s2_new w c f l n c f l n st st hT)
  have HB := Lib.hid hB
  have HX := Lib.hid hx
  have HN := Lib.hid hn
  have HN' := Lib.hid hn'
  have WC := Lib.hid wc
  have WC' := Lib.hid wc'
  have HE := Lib.hid hd
  have HD := Lib.hid (dec_enc hd)
  have CS := Lib.hid (chk_yes hs)
  have HS := Lib.hid hs
  have TQ : Hid (((strB (txtL c st f l n)).toList == [63]) = false) := Lib.hid (by rw [strB_toList]; simpa using text_ok hs)
  obtain ⟨X, eX, bX, eN, d0, d1, d2, d3, d4, d5⟩ := enc_dec hs
  have EX := Lib.hid eX
  have BX := Lib.hid bX
  have EN := Lib.hid eN
  have D := Lib.hid (⟨d0, d1, d2, d3, d4, d5⟩ : dC X n = c ∧ dS X n = st ∧ dF X n = f ∧ dL X n = l ∧ dA X n = n ∧ dE X n = 0)
  clear eX bX eN d0 d1 d2 d3 d4 d5
  clear hT hB hx hn hn' wc wc' hd hs
  go_enter Tryd.func5, Tryd.ntmps5
  go_wp2_with fail
  refine (decode_any x far _ HX.out S0.out.2.2.2.2.2.2.2.2.2.2.1).mono ?_; rintro e w1 ⟨rfl, hg⟩
  have S1 := Lib.hid (S0.out.kp (hg.alloc #[.int .i8 (dC x far), .bool (dS x far), .int .i8 (dF x far), .int .i8 (dL x far), .int .u64 (dA x far)] 25))
  clear hg
  rw [HE.out]
  go_wp2_with fail
  refine (encode_any (dC x far) (dS x far) (dF x far) (dL x far) (dA x far) _ S1.out.2.2.2.2.2.2.2.2.2.2.1 (ok_wf HD.out.1)).mono ?_; rintro e w2 ⟨rfl, hg⟩
  have S2' := Lib.hid (S1.out.kp hg)
  clear hg
  rw [HD.out.2.1, HD.out.2.2, chk_yes HD.out.1]
  obtain ⟨z0, z1, z2, z3, z4, y0, y1, y2, y3, y4, -⟩ := S2'.out
  go_wp2_with fail
  refine (encode_any c st f l n _ S2'.out.2.2.2.2.2.2.2.2.2.2.1 WC.out).mono ?_; rintro e w3 ⟨rfl, hg⟩
  have S3 := Lib.hid (S2'.out.kp hg)
  clear hg z0 z1 z2 z3 z4 y0 y1 y2 y3 y4
  rw [CS.out]
  rw [EX.out, EN.out]
  obtain ⟨z0, z1, z2, z3, z4, y0, y1, y2, y3, y4, -⟩ := S3.out
  go_wp2_with fail
  refine (encode_any c st f l n _ S3.out.2.2.2.2.2.2.2.2.2.2.1 WC'.out).mono ?_; rintro e w4 ⟨rfl, hg⟩
  have S4 := Lib.hid (S3.out.kp hg)
  clear hg z0 z1 z2 z3 z4 y0 y1 y2 y3 y4
  rw [EX.out, EN.out, CS.out]
  obtain ⟨z0, z1, z2, z3, z4, y0, y1, y2, y3, y4, -⟩ := S4.out
  go_wp2_with fail
  refine (decode_any X n _ BX.out S4.out.2.2.2.2.2.2.2.2.2.2.1).mono ?_; rintro e w5 ⟨rfl, hg⟩
  rw [D.out.1, D.out.2.1, D.out.2.2.1, D.out.2.2.2.1, D.out.2.2.2.2.1, D.out.2.2.2.2.2]
  have S5 := Lib.hid (S4.out.kp (hg.alloc #[.int .i8 c, .bool st, .int .i8 f, .int .i8 l, .int .u64 n] 25))
  have S5' := Lib.hid (S4.out.kp hg)
  clear hg z0 z1 z2 z3 z4 y0 y1 y2 y3 y4
  obtain ⟨z0, z1, z2, z3, z4, y0, y1, y2, y3, y4, -, hlt, -⟩ := S5'.out
  have hlt' : w.heap.size < w5.heap.size := by omega
  have S5 : Hid (S2 w (w5.alloc (.cells #[.int .i8 c, .bool st, .int .i8 f, .int .i8 l, .int .u64 n] 25)) c f l n c f l n st st) := S5
  go_wp2_with fail
  clear z0 z1 z2 z3 z4 y0 y1 y2 y3 y4 hlt hlt'
  generalize w5.alloc (.cells #[.int .i8 c, .bool st, .int .i8 f, .int .i8 l, .int .u64 n] 25) = W5 at S5 ⊢
  refine wp_region_still_tail 27 (by kernel_rfl) (by kernel_rfl) ?_
  simp only [List.take_succ_cons, List.take_zero, List.drop_succ_cons, List.drop_zero]
  have S6 := Lib.hid (S5.out.drew)
  obtain ⟨q0, q1, q2, q3, q4, r0, r1, r2, r3, r4, -⟩ := S6.out
  refine still_of_quiet (W5).drew _ _ ?_
  generalize (W5).drew = W at q0 q1 q2 q3 q4 r0 r1 r2 r3 r4 ⊢
  repeat (go_big_quiet_step (fail))
  refine wpQuiet_nil ?_
  clear q0 q1 q2 q3 q4 r0 r1 r2 r3 r4
  obtain ⟨z0, z1, z2, z3, z4, y0, y1, y2, y3, y4, -⟩ := S6.out
  go_wp2_with fail
  refine (text_any c st f l n _ S6.out.2.2.2.2.2.2.2.2.2.2.1 (HB.out.kp S6.out.2.2.2.2.2.2.2.2.2.2.2.2) HN.out WC.out).mono ?_; rintro e w7 ⟨rfl, hg⟩
  have S7 := Lib.hid (S6.out.kp hg)
  clear hg z0 z1 z2 z3 z4 y0 y1 y2 y3 y4
  have tq := TQ.out
  go_wp2_with fail
  refine (wakes_any _ S7.out.2.2.2.2.2.2.2.2.2.2.1 (HB.out.kp S7.out.2.2.2.2.2.2.2.2.2.2.2.2)).mono ?_; rintro e w8 ⟨rfl, hg⟩
  have HK := Lib.hid (S7.out.2.2.2.2.2.2.2.2.2.2.2.2.trans hg)
  clear hg
  go_wp2_with fail
  go_ret
  exact ⟨rfl, HK.out⟩
set_option maxRecDepth 100000 in
set_option maxHeartbeats 2000000 in
theorem back_d0 (x far : Nat) (c f l c' f' l' : Int) (n n' : Nat) (st st' : Bool) (w : World) (hT : TabsOk w) (hB : Bru w) (hx : x < 18446744073709551616) (hn : n < 18446744073709551616) (hn' : n' < 18446744073709551616)
    (wc : (Lit.int .i8 c).wf = true) (wc' : (Lit.int .i8 c').wf = true) (hd : dE x far = 0) (hs : SOk c st f l n) (ht : SOk c' st' f' l' n') (hne : ¬ (c = c' ∧ st = st' ∧ f = f' ∧ l = l' ∧ (n : Int) = (n' : Int))) (hw : ¬ encW c st f l n = encW c' st' f' l' n') :
    Calls Tryd.prog 5 #[.int .u64 x, .int .u64 far, .agg #[.int .i8 c, .bool st, .int .i8 f, .int .i8 l, .int .u64 n], .agg #[.int .i8 c', .bool st', .int .i8 f', .int .i8 l', .int .u64 n']] w fun e w' => e = .returned (.bool true) ∧ Kp w w' := by
  have S0 := Lib.hid (s2_new w c f l n c' f' l' n' st st' hT)
  have HB := Lib.hid hB
  have HX := Lib.hid hx
  have HN := Lib.hid hn
  have HN' := Lib.hid hn'
  have WC := Lib.hid wc
  have WC' := Lib.hid wc'
  have HE := Lib.hid hd
  have HD := Lib.hid (dec_enc hd)
  have CS := Lib.hid (chk_yes hs)
  have HS := Lib.hid hs
  have TQ : Hid (((strB (txtL c st f l n)).toList == [63]) = false) := Lib.hid (by rw [strB_toList]; simpa using text_ok hs)
  obtain ⟨X, eX, bX, eN, d0, d1, d2, d3, d4, d5⟩ := enc_dec hs
  have EX := Lib.hid eX
  have BX := Lib.hid bX
  have EN := Lib.hid eN
  have D := Lib.hid (⟨d0, d1, d2, d3, d4, d5⟩ : dC X n = c ∧ dS X n = st ∧ dF X n = f ∧ dL X n = l ∧ dA X n = n ∧ dE X n = 0)
  clear eX bX eN d0 d1 d2 d3 d4 d5
  have CT := Lib.hid (chk_yes ht)
  have ET := Lib.hid (enc_yes ht).2
  have QT : Hid (((strB (txtL c st f l n)).toList == (strB (txtL c' st' f' l' n')).toList) = false) := Lib.hid (by rw [strB_toList, strB_toList]; simpa using fun g => hne (text_one (by omega) (by omega) hs ht g))
  have QN := Lib.hid (fun W => (equal_syn c f l n c' f' l' n' st st' W).trans (by rw [decide_eq_false hne]))
  have QW := Lib.hid hw
  clear hT hB hx hn hn' wc wc' hd hs ht hne hw
  go_enter Tryd.func5, Tryd.ntmps5
  go_wp2_with fail
  refine (decode_any x far _ HX.out S0.out.2.2.2.2.2.2.2.2.2.2.1).mono ?_; rintro e w1 ⟨rfl, hg⟩
  have S1 := Lib.hid (S0.out.kp (hg.alloc #[.int .i8 (dC x far), .bool (dS x far), .int .i8 (dF x far), .int .i8 (dL x far), .int .u64 (dA x far)] 25))
  clear hg
  rw [HE.out]
  go_wp2_with fail
  refine (encode_any (dC x far) (dS x far) (dF x far) (dL x far) (dA x far) _ S1.out.2.2.2.2.2.2.2.2.2.2.1 (ok_wf HD.out.1)).mono ?_; rintro e w2 ⟨rfl, hg⟩
  have S2' := Lib.hid (S1.out.kp hg)
  clear hg
  rw [HD.out.2.1, HD.out.2.2, chk_yes HD.out.1]
  obtain ⟨z0, z1, z2, z3, z4, y0, y1, y2, y3, y4, -⟩ := S2'.out
  go_wp2_with fail
  refine (encode_any c st f l n _ S2'.out.2.2.2.2.2.2.2.2.2.2.1 WC.out).mono ?_; rintro e w3 ⟨rfl, hg⟩
  have S3 := Lib.hid (S2'.out.kp hg)
  clear hg z0 z1 z2 z3 z4 y0 y1 y2 y3 y4
  rw [CS.out]
  rw [EX.out, EN.out]
  obtain ⟨z0, z1, z2, z3, z4, y0, y1, y2, y3, y4, -⟩ := S3.out
  go_wp2_with fail
  refine (encode_any c' st' f' l' n' _ S3.out.2.2.2.2.2.2.2.2.2.2.1 WC'.out).mono ?_; rintro e w4 ⟨rfl, hg⟩
  have S4 := Lib.hid (S3.out.kp hg)
  clear hg z0 z1 z2 z3 z4 y0 y1 y2 y3 y4
  rw [CT.out, ET.out]
  have qw : ((X : Int) == encW c' st' f' l' n') = false := by have := QW.out; rw [EX.out] at this; simpa using this
  obtain ⟨z0, z1, z2, z3, z4, y0, y1, y2, y3, y4, -⟩ := S4.out
  go_wp2_with fail
  refine (decode_any X n _ BX.out S4.out.2.2.2.2.2.2.2.2.2.2.1).mono ?_; rintro e w5 ⟨rfl, hg⟩
  rw [D.out.1, D.out.2.1, D.out.2.2.1, D.out.2.2.2.1, D.out.2.2.2.2.1, D.out.2.2.2.2.2]
  have S5 := Lib.hid (S4.out.kp (hg.alloc #[.int .i8 c, .bool st, .int .i8 f, .int .i8 l, .int .u64 n] 25))
  have S5' := Lib.hid (S4.out.kp hg)
  clear hg z0 z1 z2 z3 z4 y0 y1 y2 y3 y4
  obtain ⟨z0, z1, z2, z3, z4, y0, y1, y2, y3, y4, -, hlt, -⟩ := S5'.out
  have hlt' : w.heap.size < w5.heap.size := by omega
  have qn := QN.out
  have qt := QT.out
  go_wp2_with fail
  refine wp_region_held_drew (S := fun w' => w'.cell? ⟨w.heap.size, 0, none⟩ = some (.int .i8 c) ∧ w'.cell? ⟨w.heap.size, 1, none⟩ = some (.bool st) ∧ w'.cell? ⟨w.heap.size, 2, none⟩ = some (.int .i8 f) ∧ w'.cell? ⟨w.heap.size, 3, none⟩ = some (.int .i8 l) ∧ w'.cell? ⟨w.heap.size, 4, none⟩ = some (.int .u64 n) ∧ w'.cell? ⟨w.heap.size + 1, 0, none⟩ = some (.int .i8 c') ∧ w'.cell? ⟨w.heap.size + 1, 1, none⟩ = some (.bool st') ∧ w'.cell? ⟨w.heap.size + 1, 2, none⟩ = some (.int .i8 f') ∧ w'.cell? ⟨w.heap.size + 1, 3, none⟩ = some (.int .i8 l') ∧ w'.cell? ⟨w.heap.size + 1, 4, none⟩ = some (.int .u64 n') ∧ TabsOk w' ∧ w.heap.size + 1 < w'.heap.size ∧ Kp w w') (by kernel_rfl) S5.out.drew (fun hHeld => ?_)
  refine wpAnyH_take (i := 0) (oi := ?p0) (v := ?v0) ?o0 (by kernel_rfl) (by kernel_rfl) (by kernel_rfl) ?q0 ?y0 (by assumption) ?r0
  case o0 => (simp only [List.getElem?_toArray, List.getElem?_cons_zero]; rfl)
  case q0 => (exact fun _ _ _ h => h)
  case y0 => (refine Or.inl ⟨by rfl, ?_⟩; intro w hSw; (try dsimp only at hSw); go_simp; (try with_reducible rfl))
  simp only [Act.put, List.setIfInBounds_toArray, List.set_cons_zero, List.set_cons_succ]
  refine wpAnyH_take (i := 1) (oi := ?p1) (v := ?v1) ?o1 (by kernel_rfl) (by kernel_rfl) (by kernel_rfl) ?q1 ?y1 (by assumption) ?r1
  case o1 => (simp only [List.getElem?_toArray, List.getElem?_cons_succ, List.getElem?_cons_zero]; rfl)
  case q1 => (exact fun _ _ _ h => h)
  case y1 => (refine Or.inl ⟨by rfl, ?_⟩; intro w hSw; (try dsimp only at hSw); go_simp; (try with_reducible rfl))
  simp only [Act.put, List.setIfInBounds_toArray, List.set_cons_zero, List.set_cons_succ]
  refine wpAnyH_take (i := 2) (oi := ?p2) (v := ?v2) ?o2 (by kernel_rfl) (by kernel_rfl) (by kernel_rfl) ?q2 ?y2 (by assumption) ?r2
  case o2 => (simp only [List.getElem?_toArray, List.getElem?_cons_succ, List.getElem?_cons_zero]; rfl)
  case q2 => (exact fun _ _ _ h => h)
  case y2 => (refine Or.inl ⟨by rfl, ?_⟩; intro w hSw; (try dsimp only at hSw); go_simp; (try with_reducible rfl))
  simp only [Act.put, List.setIfInBounds_toArray, List.set_cons_zero, List.set_cons_succ]
  refine wpAnyH_take (i := 3) (oi := ?p3) (v := ?v3) ?o3 (by kernel_rfl) (by kernel_rfl) (by kernel_rfl) ?q3 ?y3 (by assumption) ?r3
  case o3 => (simp only [List.getElem?_toArray, List.getElem?_cons_succ, List.getElem?_cons_zero]; rfl)
  case q3 => (exact fun _ _ _ h => h)
  case y3 => (refine Or.inl ⟨by rfl, ?_⟩; intro w hSw; (try dsimp only at hSw); go_simp; (try with_reducible rfl))
  simp only [Act.put, List.setIfInBounds_toArray, List.set_cons_zero, List.set_cons_succ]
  refine wpAnyH_take (i := 4) (oi := ?p4) (v := ?v4) ?o4 (by kernel_rfl) (by kernel_rfl) (by kernel_rfl) ?q4 ?y4 (by assumption) ?r4
  case o4 => (simp only [List.getElem?_toArray, List.getElem?_cons_succ, List.getElem?_cons_zero]; rfl)
  case q4 => (exact fun _ _ _ h => h)
  case y4 => (refine Or.inl ⟨by rfl, ?_⟩; intro w hSw; (try dsimp only at hSw); go_simp; (try with_reducible rfl))
  simp only [Act.put, List.setIfInBounds_toArray, List.set_cons_zero, List.set_cons_succ]
  refine wpAnyH_take (i := 5) (oi := ?p5) (v := ?v5) ?o5 (by kernel_rfl) (by kernel_rfl) (by kernel_rfl) ?q5 ?y5 (by assumption) ?r5
  case o5 => (simp only [List.getElem?_toArray, List.getElem?_cons_succ, List.getElem?_cons_zero]; rfl)
  case q5 => (exact fun _ _ _ h => h)
  case y5 => (refine Or.inl ⟨by rfl, ?_⟩; intro w hSw; (try dsimp only at hSw); go_simp; (try with_reducible rfl))
  simp only [Act.put, List.setIfInBounds_toArray, List.set_cons_zero, List.set_cons_succ]
  refine wpAnyH_take (i := 6) (oi := ?p6) (v := ?v6) ?o6 (by kernel_rfl) (by kernel_rfl) (by kernel_rfl) ?q6 ?y6 (by assumption) ?r6
  case o6 => (simp only [List.getElem?_toArray, List.getElem?_cons_succ, List.getElem?_cons_zero]; rfl)
  case q6 => (exact fun _ _ _ h => h)
  case y6 => (refine Or.inl ⟨by rfl, ?_⟩; intro w hSw; (try dsimp only at hSw); go_simp; (try with_reducible rfl))
  simp only [Act.put, List.setIfInBounds_toArray, List.set_cons_zero, List.set_cons_succ]
  refine wpAnyH_take (i := 7) (oi := ?p7) (v := ?v7) ?o7 (by kernel_rfl) (by kernel_rfl) (by kernel_rfl) ?q7 ?y7 (by assumption) ?r7
  case o7 => (simp only [List.getElem?_toArray, List.getElem?_cons_succ, List.getElem?_cons_zero]; rfl)
  case q7 => (exact fun _ _ _ h => h)
  case y7 => (refine Or.inl ⟨by rfl, ?_⟩; intro w hSw; (try dsimp only at hSw); go_simp; (try with_reducible rfl))
  simp only [Act.put, List.setIfInBounds_toArray, List.set_cons_zero, List.set_cons_succ]
  refine wpAnyH_take (i := 8) (oi := ?p8) (v := ?v8) ?o8 (by kernel_rfl) (by kernel_rfl) (by kernel_rfl) ?q8 ?y8 (by assumption) ?r8
  case o8 => (simp only [List.getElem?_toArray, List.getElem?_cons_succ, List.getElem?_cons_zero]; rfl)
  case q8 => (exact fun _ _ _ h => h)
  case y8 => (refine Or.inl ⟨by rfl, ?_⟩; intro w hSw; (try dsimp only at hSw); go_simp; (try with_reducible rfl))
  simp only [Act.put, List.setIfInBounds_toArray, List.set_cons_zero, List.set_cons_succ]
  refine wpAnyH_take (i := 9) (oi := ?p9) (v := ?v9) ?o9 (by kernel_rfl) (by kernel_rfl) (by kernel_rfl) ?q9 ?y9 (by assumption) ?r9
  case o9 => (simp only [List.getElem?_toArray, List.getElem?_cons_succ, List.getElem?_cons_zero]; rfl)
  case q9 => (exact fun _ _ _ h => h)
  case y9 => (refine Or.inl ⟨by rfl, ?_⟩; intro w hSw; (try dsimp only at hSw); go_simp; (try with_reducible rfl))
  simp only [Act.put, List.setIfInBounds_toArray, List.set_cons_zero, List.set_cons_succ]
  refine wpAnyH_take (i := 10) (oi := ?p10) (v := ?v10) ?o10 (by kernel_rfl) (by kernel_rfl) (by kernel_rfl) ?q10 ?y10 (by assumption) ?r10
  case o10 => (simp only [List.getElem?_toArray, List.getElem?_cons_succ, List.getElem?_cons_zero]; rfl)
  case q10 => (exact fun _ _ _ h => h)
  case y10 => (refine Or.inl ⟨by rfl, ?_⟩; intro w hSw; (try dsimp only at hSw); go_simp; (try with_reducible rfl))
  simp only [Act.put, List.setIfInBounds_toArray, List.set_cons_zero, List.set_cons_succ]
  refine wpAnyH_take (i := 11) (oi := ?p11) (v := ?v11) ?o11 (by kernel_rfl) (by kernel_rfl) (by kernel_rfl) ?q11 ?y11 (by assumption) ?r11
  case o11 => (simp only [List.getElem?_toArray, List.getElem?_cons_succ, List.getElem?_cons_zero]; rfl)
  case q11 => (exact fun _ _ _ h => h)
  case y11 => (refine Or.inl ⟨by rfl, ?_⟩; intro w hSw; (try dsimp only at hSw); go_simp; (try with_reducible rfl))
  simp only [Act.put, List.setIfInBounds_toArray, List.set_cons_zero, List.set_cons_succ]
  refine wpAnyH_take (i := 12) (oi := ?p12) (v := ?v12) ?o12 (by kernel_rfl) (by kernel_rfl) (by kernel_rfl) ?q12 ?y12 (by assumption) ?r12
  case o12 => (simp only [List.getElem?_toArray, List.getElem?_cons_succ, List.getElem?_cons_zero]; rfl)
  case q12 => (exact fun _ _ _ h => h)
  case y12 => (refine Or.inl ⟨by rfl, ?_⟩; intro w hSw; (try dsimp only at hSw); go_simp; (try with_reducible rfl))
  simp only [Act.put, List.setIfInBounds_toArray, List.set_cons_zero, List.set_cons_succ]
  refine wpAnyH_take (i := 13) (oi := ?p13) (v := ?v13) ?o13 (by kernel_rfl) (by kernel_rfl) (by kernel_rfl) ?q13 ?y13 (by assumption) ?r13
  case o13 => (simp only [List.getElem?_toArray, List.getElem?_cons_succ, List.getElem?_cons_zero]; rfl)
  case q13 => (exact fun _ _ _ h => h)
  case y13 => (refine Or.inl ⟨by rfl, ?_⟩; intro w hSw; (try dsimp only at hSw); go_simp; (try with_reducible rfl))
  simp only [Act.put, List.setIfInBounds_toArray, List.set_cons_zero, List.set_cons_succ]
  refine wpAnyH_take (i := 14) (oi := ?p14) (v := ?v14) ?o14 (by kernel_rfl) (by kernel_rfl) (by kernel_rfl) ?q14 ?y14 (by assumption) ?r14
  case o14 => (simp only [List.getElem?_toArray, List.getElem?_cons_succ, List.getElem?_cons_zero]; rfl)
  case q14 => (exact fun _ _ _ h => h)
  case y14 => (refine Or.inl ⟨by rfl, ?_⟩; intro w hSw; (try dsimp only at hSw); go_simp; (try with_reducible rfl))
  simp only [Act.put, List.setIfInBounds_toArray, List.set_cons_zero, List.set_cons_succ]
  refine wpAnyH_take (i := 15) (oi := ?p15) (v := ?v15) ?o15 (by kernel_rfl) (by kernel_rfl) (by kernel_rfl) ?q15 ?y15 (by assumption) ?r15
  case o15 => (simp only [List.getElem?_toArray, List.getElem?_cons_succ, List.getElem?_cons_zero]; rfl)
  case q15 => (exact fun _ _ _ h => h)
  case y15 => (refine Or.inl ⟨by rfl, ?_⟩; intro w hSw; (try dsimp only at hSw); go_simp; (try with_reducible rfl))
  simp only [Act.put, List.setIfInBounds_toArray, List.set_cons_zero, List.set_cons_succ]
  refine wpAnyH_take (i := 16) (oi := ?p16) (v := undef) ?o16 (by kernel_rfl) (by kernel_rfl) (by kernel_rfl) ?q16 ?y16 (by assumption) ?r16
  case o16 => (simp only [List.getElem?_toArray, List.getElem?_cons_succ, List.getElem?_cons_zero]; rfl)
  case q16 => (exact fun _ _ _ h => h)
  case y16 => (exact Or.inr ⟨by rfl, rfl⟩)
  simp only [Act.put, List.setIfInBounds_toArray, List.set_cons_zero, List.set_cons_succ]
  refine wpAnyH_take (i := 17) (oi := ?p17) (v := undef) ?o17 (by kernel_rfl) (by kernel_rfl) (by kernel_rfl) ?q17 ?y17 (by assumption) ?r17
  case o17 => (simp only [List.getElem?_toArray, List.getElem?_cons_succ, List.getElem?_cons_zero]; rfl)
  case q17 => (exact fun _ _ _ h => h)
  case y17 => (exact Or.inr ⟨by rfl, rfl⟩)
  simp only [Act.put, List.setIfInBounds_toArray, List.set_cons_zero, List.set_cons_succ]
  refine wpAnyH_take (i := 18) (oi := ?p18) (v := undef) ?o18 (by kernel_rfl) (by kernel_rfl) (by kernel_rfl) ?q18 ?y18 (by assumption) ?r18
  case o18 => (simp only [List.getElem?_toArray, List.getElem?_cons_succ, List.getElem?_cons_zero]; rfl)
  case q18 => (exact fun _ _ _ h => h)
  case y18 => (exact Or.inr ⟨by rfl, rfl⟩)
  simp only [Act.put, List.setIfInBounds_toArray, List.set_cons_zero, List.set_cons_succ]
  refine wpAnyH_take (i := 19) (oi := ?p19) (v := ?v19) ?o19 (by kernel_rfl) (by kernel_rfl) (by kernel_rfl) ?q19 ?y19 (by assumption) ?r19
  case o19 => (simp only [List.getElem?_toArray, List.getElem?_cons_succ, List.getElem?_cons_zero]; rfl)
  case q19 => (exact fun _ _ _ h => h)
  case y19 => (refine Or.inl ⟨by rfl, ?_⟩; intro w hSw; (try dsimp only at hSw); go_simp; (try with_reducible rfl))
  simp only [Act.put, List.setIfInBounds_toArray, List.set_cons_zero, List.set_cons_succ]
  refine wpAnyH_take (i := 20) (oi := ?p20) (v := ?v20) ?o20 (by kernel_rfl) (by kernel_rfl) (by kernel_rfl) ?q20 ?y20 (by assumption) ?r20
  case o20 => (simp only [List.getElem?_toArray, List.getElem?_cons_succ, List.getElem?_cons_zero]; rfl)
  case q20 => (exact fun _ _ _ h => h)
  case y20 => (refine Or.inl ⟨by rfl, ?_⟩; intro w hSw; (try dsimp only at hSw); go_simp; (try with_reducible rfl))
  simp only [Act.put, List.setIfInBounds_toArray, List.set_cons_zero, List.set_cons_succ]
  refine wpAnyH_take (i := 21) (oi := ?p21) (v := ?v21) ?o21 (by kernel_rfl) (by kernel_rfl) (by kernel_rfl) ?q21 ?y21 (by assumption) ?r21
  case o21 => (simp only [List.getElem?_toArray, List.getElem?_cons_succ, List.getElem?_cons_zero]; rfl)
  case q21 => (exact fun _ _ _ h => h)
  case y21 => (refine Or.inl ⟨by rfl, ?_⟩; intro w hSw; (try dsimp only at hSw); go_simp; (try with_reducible rfl))
  simp only [Act.put, List.setIfInBounds_toArray, List.set_cons_zero, List.set_cons_succ]
  refine wpAnyH_take (i := 23) (oi := ?p23) (v := ?v23) ?o23 (by kernel_rfl) (by kernel_rfl) (by kernel_rfl) ?q23 ?y23 (by assumption) ?r23
  case o23 => (simp only [List.getElem?_toArray, List.getElem?_cons_succ, List.getElem?_cons_zero]; rfl)
  case q23 => (exact fun _ _ _ h => h)
  case y23 => (refine Or.inl ⟨by rfl, ?_⟩; intro w hSw; (try dsimp only at hSw); go_simp; (try with_reducible rfl))
  simp only [Act.put, List.setIfInBounds_toArray, List.set_cons_zero, List.set_cons_succ]
  refine wpAnyH_ready (rs := [22]) (by kernel_rfl) (by simp) ?_
  refine AllReadyH.cons (o := ?p22) ?o22 (fun K hK => ?w22) AllReadyH.nil
  case o22 => (simp only [List.getElem?_toArray, List.getElem?_cons_succ, List.getElem?_cons_zero]; rfl)
  rw [if_pos (by rfl)]
  go_simp
  refine (text_any c st f l n _ hHeld.2.2.2.2.2.2.2.2.2.2.1 (HB.out.kp hHeld.2.2.2.2.2.2.2.2.2.2.2.2) HN.out WC.out).mono ?_; rintro e w' ⟨rfl, hg⟩
  (try go_wp2_with fail)
  refine hK.out _ _ (S2.kp hHeld hg) (fun hHeld2 => ?_)
  clear hK hg K
  refine wpAnyH_ready (rs := [24]) (by kernel_rfl) (by simp) ?_
  refine AllReadyH.cons (o := ?p24) ?o24 (fun K hK => ?w24) AllReadyH.nil
  case o24 => (simp only [List.getElem?_toArray, List.getElem?_cons_succ, List.getElem?_cons_zero]; rfl)
  rw [if_pos (by rfl)]
  go_simp
  refine (text_any c' st' f' l' n' _ hHeld2.2.2.2.2.2.2.2.2.2.2.1 (HB.out.kp hHeld2.2.2.2.2.2.2.2.2.2.2.2.2) HN'.out WC'.out).mono ?_; rintro e w' ⟨rfl, hg⟩
  (try go_wp2_with fail)
  refine hK.out _ _ (S2.kp hHeld2 hg) (fun hHeld3 => ?_)
  clear hK hg K
  refine wpAnyH_take (i := 25) (oi := ?p25) (v := ?v25) ?o25 (by kernel_rfl) (by kernel_rfl) (by kernel_rfl) ?q25 ?y25 (by assumption) ?r25
  case o25 => (simp only [List.getElem?_toArray, List.getElem?_cons_succ, List.getElem?_cons_zero]; rfl)
  case q25 => (exact fun _ _ _ h => h)
  case y25 => (refine Or.inl ⟨by rfl, ?_⟩; intro w hSw; (try dsimp only at hSw); go_simp; (try with_reducible rfl))
  simp only [Act.put, List.setIfInBounds_toArray, List.set_cons_zero, List.set_cons_succ]
  refine wpAnyH_take (i := 26) (oi := ?p26) (v := ?v26) ?o26 (by kernel_rfl) (by kernel_rfl) (by kernel_rfl) ?q26 ?y26 (by assumption) ?r26
  case o26 => (simp only [List.getElem?_toArray, List.getElem?_cons_succ, List.getElem?_cons_zero]; rfl)
  case q26 => (exact fun _ _ _ h => h)
  case y26 => (refine Or.inl ⟨by rfl, ?_⟩; intro w hSw; (try dsimp only at hSw); go_simp; (try with_reducible rfl))
  simp only [Act.put, List.setIfInBounds_toArray, List.set_cons_zero, List.set_cons_succ]
  refine wpAnyH_take (i := 27) (oi := ?p27) (v := ?v27) ?o27 (by kernel_rfl) (by kernel_rfl) (by kernel_rfl) ?q27 ?y27 (by assumption) ?r27
  case o27 => (simp only [List.getElem?_toArray, List.getElem?_cons_succ, List.getElem?_cons_zero]; rfl)
  case q27 => (exact fun _ _ _ h => h)
  case y27 => (refine Or.inl ⟨by rfl, ?_⟩; intro w hSw; (try dsimp only at hSw); go_simp; (try with_reducible rfl))
  simp only [Act.put, List.setIfInBounds_toArray, List.set_cons_zero, List.set_cons_succ]
  refine wpAnyH_done (by kernel_rfl) ?_ _
  have S6 : Hid (S2 w _ c f l n c' f' l' n' st st') := Lib.hid hHeld3; clear hHeld hHeld2 hHeld3
  clear z0 z1 z2 z3 z4 y0 y1 y2 y3 y4
  clear hlt hlt'
  obtain ⟨z0, z1, z2, z3, z4, y0, y1, y2, y3, y4, -⟩ := S6.out
  go_wp2_with fail
  refine (text_any c st f l n _ S6.out.2.2.2.2.2.2.2.2.2.2.1 (HB.out.kp S6.out.2.2.2.2.2.2.2.2.2.2.2.2) HN.out WC.out).mono ?_; rintro e w7 ⟨rfl, hg⟩
  have S7 := Lib.hid (S6.out.kp hg)
  clear hg z0 z1 z2 z3 z4 y0 y1 y2 y3 y4
  have tq := TQ.out
  go_wp2_with fail
  refine (wakes_any _ S7.out.2.2.2.2.2.2.2.2.2.2.1 (HB.out.kp S7.out.2.2.2.2.2.2.2.2.2.2.2.2)).mono ?_; rintro e w8 ⟨rfl, hg⟩
  have HK := Lib.hid (S7.out.2.2.2.2.2.2.2.2.2.2.2.2.trans hg)
  clear hg
  go_wp2_with fail
  go_ret
  exact ⟨rfl, HK.out⟩
set_option maxRecDepth 100000 in
set_option maxHeartbeats 2000000 in
theorem back_e0 (x far : Nat) (c f l c' f' l' : Int) (n n' : Nat) (st st' : Bool) (w : World) (hT : TabsOk w) (hB : Bru w) (hx : x < 18446744073709551616) (hn : n < 18446744073709551616) (hn' : n' < 18446744073709551616)
    (wc : (Lit.int .i8 c).wf = true) (wc' : (Lit.int .i8 c').wf = true) (hd : dE x far = 0) (hs : SOk c st f l n) (ht : SOk c' st' f' l' n') (hne : ¬ (c = c' ∧ st = st' ∧ f = f' ∧ l = l' ∧ (n : Int) = (n' : Int))) (hw : encW c st f l n = encW c' st' f' l' n') (hv : ¬ (n : Int) = (n' : Int)) :
    Calls Tryd.prog 5 #[.int .u64 x, .int .u64 far, .agg #[.int .i8 c, .bool st, .int .i8 f, .int .i8 l, .int .u64 n], .agg #[.int .i8 c', .bool st', .int .i8 f', .int .i8 l', .int .u64 n']] w fun e w' => e = .returned (.bool true) ∧ Kp w w' := by
  have S0 := Lib.hid (s2_new w c f l n c' f' l' n' st st' hT)
  have HB := Lib.hid hB
  have HX := Lib.hid hx
  have HN := Lib.hid hn
  have HN' := Lib.hid hn'
  have WC := Lib.hid wc
  have WC' := Lib.hid wc'
  have HE := Lib.hid hd
  have HD := Lib.hid (dec_enc hd)
  have CS := Lib.hid (chk_yes hs)
  have HS := Lib.hid hs
  have TQ : Hid (((strB (txtL c st f l n)).toList == [63]) = false) := Lib.hid (by rw [strB_toList]; simpa using text_ok hs)
  obtain ⟨X, eX, bX, eN, d0, d1, d2, d3, d4, d5⟩ := enc_dec hs
  have EX := Lib.hid eX
  have BX := Lib.hid bX
  have EN := Lib.hid eN
  have D := Lib.hid (⟨d0, d1, d2, d3, d4, d5⟩ : dC X n = c ∧ dS X n = st ∧ dF X n = f ∧ dL X n = l ∧ dA X n = n ∧ dE X n = 0)
  clear eX bX eN d0 d1 d2 d3 d4 d5
  have CT := Lib.hid (chk_yes ht)
  have ET := Lib.hid (enc_yes ht).2
  have QT : Hid (((strB (txtL c st f l n)).toList == (strB (txtL c' st' f' l' n')).toList) = false) := Lib.hid (by rw [strB_toList, strB_toList]; simpa using fun g => hne (text_one (by omega) (by omega) hs ht g))
  have QN := Lib.hid (fun W => (equal_syn c f l n c' f' l' n' st st' W).trans (by rw [decide_eq_false hne]))
  have QW := Lib.hid hw
  have QV : Hid (((n : Int) == (n' : Int)) = false) := Lib.hid (by simpa using hv)
  clear hT hB hx hn hn' wc wc' hd hs ht hne hw hv
  go_enter Tryd.func5, Tryd.ntmps5
  go_wp2_with fail
  refine (decode_any x far _ HX.out S0.out.2.2.2.2.2.2.2.2.2.2.1).mono ?_; rintro e w1 ⟨rfl, hg⟩
  have S1 := Lib.hid (S0.out.kp (hg.alloc #[.int .i8 (dC x far), .bool (dS x far), .int .i8 (dF x far), .int .i8 (dL x far), .int .u64 (dA x far)] 25))
  clear hg
  rw [HE.out]
  go_wp2_with fail
  refine (encode_any (dC x far) (dS x far) (dF x far) (dL x far) (dA x far) _ S1.out.2.2.2.2.2.2.2.2.2.2.1 (ok_wf HD.out.1)).mono ?_; rintro e w2 ⟨rfl, hg⟩
  have S2' := Lib.hid (S1.out.kp hg)
  clear hg
  rw [HD.out.2.1, HD.out.2.2, chk_yes HD.out.1]
  obtain ⟨z0, z1, z2, z3, z4, y0, y1, y2, y3, y4, -⟩ := S2'.out
  go_wp2_with fail
  refine (encode_any c st f l n _ S2'.out.2.2.2.2.2.2.2.2.2.2.1 WC.out).mono ?_; rintro e w3 ⟨rfl, hg⟩
  have S3 := Lib.hid (S2'.out.kp hg)
  clear hg z0 z1 z2 z3 z4 y0 y1 y2 y3 y4
  rw [CS.out]
  rw [EX.out, EN.out]
  obtain ⟨z0, z1, z2, z3, z4, y0, y1, y2, y3, y4, -⟩ := S3.out
  go_wp2_with fail
  refine (encode_any c' st' f' l' n' _ S3.out.2.2.2.2.2.2.2.2.2.2.1 WC'.out).mono ?_; rintro e w4 ⟨rfl, hg⟩
  have S4 := Lib.hid (S3.out.kp hg)
  clear hg z0 z1 z2 z3 z4 y0 y1 y2 y3 y4
  rw [CT.out, ET.out]
  rw [← QW.out, EX.out]
  obtain ⟨z0, z1, z2, z3, z4, y0, y1, y2, y3, y4, -⟩ := S4.out
  go_wp2_with fail
  refine (decode_any X n _ BX.out S4.out.2.2.2.2.2.2.2.2.2.2.1).mono ?_; rintro e w5 ⟨rfl, hg⟩
  rw [D.out.1, D.out.2.1, D.out.2.2.1, D.out.2.2.2.1, D.out.2.2.2.2.1, D.out.2.2.2.2.2]
  have S5 := Lib.hid (S4.out.kp (hg.alloc #[.int .i8 c, .bool st, .int .i8 f, .int .i8 l, .int .u64 n] 25))
  have S5' := Lib.hid (S4.out.kp hg)
  clear hg z0 z1 z2 z3 z4 y0 y1 y2 y3 y4
  obtain ⟨z0, z1, z2, z3, z4, y0, y1, y2, y3, y4, -, hlt, -⟩ := S5'.out
  have hlt' : w.heap.size < w5.heap.size := by omega
  have qn := QN.out
  have qt := QT.out
  have qv := QV.out
  go_wp2_with fail
  first | (go_region_held3 (fun w' => w'.cell? ⟨w.heap.size, 0, none⟩ = some (.int .i8 c) ∧ w'.cell? ⟨w.heap.size, 1, none⟩ = some (.bool st) ∧ w'.cell? ⟨w.heap.size, 2, none⟩ = some (.int .i8 f) ∧ w'.cell? ⟨w.heap.size, 3, none⟩ = some (.int .i8 l) ∧ w'.cell? ⟨w.heap.size, 4, none⟩ = some (.int .u64 n) ∧ w'.cell? ⟨w.heap.size + 1, 0, none⟩ = some (.int .i8 c') ∧ w'.cell? ⟨w.heap.size + 1, 1, none⟩ = some (.bool st') ∧ w'.cell? ⟨w.heap.size + 1, 2, none⟩ = some (.int .i8 f') ∧ w'.cell? ⟨w.heap.size + 1, 3, none⟩ = some (.int .i8 l') ∧ w'.cell? ⟨w.heap.size + 1, 4, none⟩ = some (.int .u64 n') ∧ TabsOk w' ∧ w.heap.size + 1 < w'.heap.size ∧ Kp w w') (first | exact S5.out.drew | assumption | exact S2.drew (by assumption)) (first | (go_at_call 10; rename_i hh _ _; refine (text_any _ _ _ _ _ _ hh.2.2.2.2.2.2.2.2.2.2.1 (HB.out.kp hh.2.2.2.2.2.2.2.2.2.2.2.2) (by first | exact HN.out | exact HN'.out) (by first | exact WC.out | exact WC'.out)).mono ?_; rintro e w' ⟨rfl, hg⟩; have hh' := S2.kp hh hg; clear hh hg))) | fail
  all_goals
    rename_i hh
    have S6 : Hid (S2 w _ c f l n c' f' l' n' st st') := Lib.hid hh; clear hh
    clear z0 z1 z2 z3 z4 y0 y1 y2 y3 y4
    clear hlt hlt'
    obtain ⟨z0, z1, z2, z3, z4, y0, y1, y2, y3, y4, -⟩ := S6.out
    go_wp2_with fail
    refine (text_any c st f l n _ S6.out.2.2.2.2.2.2.2.2.2.2.1 (HB.out.kp S6.out.2.2.2.2.2.2.2.2.2.2.2.2) HN.out WC.out).mono ?_; rintro e w7 ⟨rfl, hg⟩
    have S7 := Lib.hid (S6.out.kp hg)
    clear hg z0 z1 z2 z3 z4 y0 y1 y2 y3 y4
    have tq := TQ.out
    go_wp2_with fail
    refine (wakes_any _ S7.out.2.2.2.2.2.2.2.2.2.2.1 (HB.out.kp S7.out.2.2.2.2.2.2.2.2.2.2.2.2)).mono ?_; rintro e w8 ⟨rfl, hg⟩
    have HK := Lib.hid (S7.out.2.2.2.2.2.2.2.2.2.2.2.2.trans hg)
    clear hg
    go_wp2_with fail
    go_ret
    exact ⟨rfl, HK.out⟩
set_option maxRecDepth 100000 in
set_option maxHeartbeats 2000000 in
theorem back_a2 (x far : Nat) (c f l c' f' l' : Int) (n n' : Nat) (st st' : Bool) (w : World) (hT : TabsOk w) (hB : Bru w) (hx : x < 18446744073709551616) (hn : n < 18446744073709551616) (hn' : n' < 18446744073709551616)
    (wc : (Lit.int .i8 c).wf = true) (wc' : (Lit.int .i8 c').wf = true) (hd : dE x far = 2) (hs : ¬ SOk c st f l n) :
    Calls Tryd.prog 5 #[.int .u64 x, .int .u64 far, .agg #[.int .i8 c, .bool st, .int .i8 f, .int .i8 l, .int .u64 n], .agg #[.int .i8 c', .bool st', .int .i8 f', .int .i8 l', .int .u64 n']] w fun e w' => e = .returned (.bool true) ∧ Kp w w' := by
  have S0 := Lib.hid (s2_new w c f l n c' f' l' n' st st' hT)
  have HB := Lib.hid hB
  have HX := Lib.hid hx
  have HN := Lib.hid hn
  have HN' := Lib.hid hn'
  have WC := Lib.hid wc
  have WC' := Lib.hid wc'
  have HE := Lib.hid hd
  have CS := Lib.hid (chk_no hs)
  have TS := Lib.hid (txt_no hs)
  have TQ : Hid (((strB [63]).toList == [63]) = true) := Lib.hid (by rw [strB_toList]; decide)
  clear hT hB hx hn hn' wc wc' hd hs
  go_enter Tryd.func5, Tryd.ntmps5
  go_wp2_with fail
  refine (decode_any x far _ HX.out S0.out.2.2.2.2.2.2.2.2.2.2.1).mono ?_; rintro e w1 ⟨rfl, hg⟩
  have S1 := Lib.hid (S0.out.kp (hg.alloc #[.int .i8 (dC x far), .bool (dS x far), .int .i8 (dF x far), .int .i8 (dL x far), .int .u64 (dA x far)] 25))
  clear hg
  rw [HE.out]
  have S2' := S1
  obtain ⟨z0, z1, z2, z3, z4, y0, y1, y2, y3, y4, -⟩ := S2'.out
  go_wp2_with fail
  refine (encode_any c st f l n _ S2'.out.2.2.2.2.2.2.2.2.2.2.1 WC.out).mono ?_; rintro e w3 ⟨rfl, hg⟩
  have S3 := Lib.hid (S2'.out.kp hg)
  clear hg z0 z1 z2 z3 z4 y0 y1 y2 y3 y4
  rw [CS.out]
  obtain ⟨z0, z1, z2, z3, z4, y0, y1, y2, y3, y4, -⟩ := S3.out
  go_wp2_with fail
  refine (encode_any c' st' f' l' n' _ S3.out.2.2.2.2.2.2.2.2.2.2.1 WC'.out).mono ?_; rintro e w4 ⟨rfl, hg⟩
  have S4 := Lib.hid (S3.out.kp hg)
  clear hg z0 z1 z2 z3 z4 y0 y1 y2 y3 y4
  obtain ⟨z0, z1, z2, z3, z4, y0, y1, y2, y3, y4, -⟩ := S4.out
  go_wp2_with fail
  refine wp_region_still_tail 27 (by kernel_rfl) (by kernel_rfl) ?_
  simp only [List.take_succ_cons, List.take_zero, List.drop_succ_cons, List.drop_zero]
  have S6 := Lib.hid (S4.out.drew)
  obtain ⟨q0, q1, q2, q3, q4, r0, r1, r2, r3, r4, -⟩ := S6.out
  refine still_of_quiet (w4).drew _ _ ?_
  generalize (w4).drew = W at q0 q1 q2 q3 q4 r0 r1 r2 r3 r4 ⊢
  clear z0 z1 z2 z3 z4 y0 y1 y2 y3 y4
  repeat (go_big_quiet_step (fail))
  refine wpQuiet_nil ?_
  clear q0 q1 q2 q3 q4 r0 r1 r2 r3 r4
  obtain ⟨z0, z1, z2, z3, z4, y0, y1, y2, y3, y4, -⟩ := S6.out
  go_wp2_with fail
  refine (text_any c st f l n _ S6.out.2.2.2.2.2.2.2.2.2.2.1 (HB.out.kp S6.out.2.2.2.2.2.2.2.2.2.2.2.2) HN.out WC.out).mono ?_; rintro e w7 ⟨rfl, hg⟩
  have S7 := Lib.hid (S6.out.kp hg)
  clear hg z0 z1 z2 z3 z4 y0 y1 y2 y3 y4
  rw [TS.out]
  have tq := TQ.out
  go_wp2_with fail
  refine (wakes_any _ S7.out.2.2.2.2.2.2.2.2.2.2.1 (HB.out.kp S7.out.2.2.2.2.2.2.2.2.2.2.2.2)).mono ?_; rintro e w8 ⟨rfl, hg⟩
  have HK := Lib.hid (S7.out.2.2.2.2.2.2.2.2.2.2.2.2.trans hg)
  clear hg
  go_wp2_with fail
  go_ret
  exact ⟨rfl, HK.out⟩
set_option maxRecDepth 100000 in
set_option maxHeartbeats 2000000 in
theorem back_b2 (x far : Nat) (c f l c' f' l' : Int) (n n' : Nat) (st st' : Bool) (w : World) (hT : TabsOk w) (hB : Bru w) (hx : x < 18446744073709551616) (hn : n < 18446744073709551616) (hn' : n' < 18446744073709551616)
    (wc : (Lit.int .i8 c).wf = true) (wc' : (Lit.int .i8 c').wf = true) (hd : dE x far = 2) (hs : SOk c st f l n) (ht : ¬ SOk c' st' f' l' n') :
    Calls Tryd.prog 5 #[.int .u64 x, .int .u64 far, .agg #[.int .i8 c, .bool st, .int .i8 f, .int .i8 l, .int .u64 n], .agg #[.int .i8 c', .bool st', .int .i8 f', .int .i8 l', .int .u64 n']] w fun e w' => e = .returned (.bool true) ∧ Kp w w' := by
  have S0 := Lib.hid (s2_new w c f l n c' f' l' n' st st' hT)
  have HB := Lib.hid hB
  have HX := Lib.hid hx
  have HN := Lib.hid hn
  have HN' := Lib.hid hn'
  have WC := Lib.hid wc
  have WC' := Lib.hid wc'
  have HE := Lib.hid hd
  have CS := Lib.hid (chk_yes hs)
  have HS := Lib.hid hs
  have TQ : Hid (((strB (txtL c st f l n)).toList == [63]) = false) := Lib.hid (by rw [strB_toList]; simpa using text_ok hs)
  obtain ⟨X, eX, bX, eN, d0, d1, d2, d3, d4, d5⟩ := enc_dec hs
  have EX := Lib.hid eX
  have BX := Lib.hid bX
  have EN := Lib.hid eN
  have D := Lib.hid (⟨d0, d1, d2, d3, d4, d5⟩ : dC X n = c ∧ dS X n = st ∧ dF X n = f ∧ dL X n = l ∧ dA X n = n ∧ dE X n = 0)
  clear eX bX eN d0 d1 d2 d3 d4 d5
  have CT := Lib.hid (chk_no ht)
  clear hT hB hx hn hn' wc wc' hd hs ht
  go_enter Tryd.func5, Tryd.ntmps5
  go_wp2_with fail
  refine (decode_any x far _ HX.out S0.out.2.2.2.2.2.2.2.2.2.2.1).mono ?_; rintro e w1 ⟨rfl, hg⟩
  have S1 := Lib.hid (S0.out.kp (hg.alloc #[.int .i8 (dC x far), .bool (dS x far), .int .i8 (dF x far), .int .i8 (dL x far), .int .u64 (dA x far)] 25))
  clear hg
  rw [HE.out]
  have S2' := S1
  obtain ⟨z0, z1, z2, z3, z4, y0, y1, y2, y3, y4, -⟩ := S2'.out
  go_wp2_with fail
  refine (encode_any c st f l n _ S2'.out.2.2.2.2.2.2.2.2.2.2.1 WC.out).mono ?_; rintro e w3 ⟨rfl, hg⟩
  have S3 := Lib.hid (S2'.out.kp hg)
  clear hg z0 z1 z2 z3 z4 y0 y1 y2 y3 y4
  rw [CS.out]
  rw [EX.out, EN.out]
  obtain ⟨z0, z1, z2, z3, z4, y0, y1, y2, y3, y4, -⟩ := S3.out
  go_wp2_with fail
  refine (encode_any c' st' f' l' n' _ S3.out.2.2.2.2.2.2.2.2.2.2.1 WC'.out).mono ?_; rintro e w4 ⟨rfl, hg⟩
  have S4 := Lib.hid (S3.out.kp hg)
  clear hg z0 z1 z2 z3 z4 y0 y1 y2 y3 y4
  rw [CT.out]
  obtain ⟨z0, z1, z2, z3, z4, y0, y1, y2, y3, y4, -⟩ := S4.out
  go_wp2_with fail
  refine (decode_any X n _ BX.out S4.out.2.2.2.2.2.2.2.2.2.2.1).mono ?_; rintro e w5 ⟨rfl, hg⟩
  rw [D.out.1, D.out.2.1, D.out.2.2.1, D.out.2.2.2.1, D.out.2.2.2.2.1, D.out.2.2.2.2.2]
  have S5 := Lib.hid (S4.out.kp (hg.alloc #[.int .i8 c, .bool st, .int .i8 f, .int .i8 l, .int .u64 n] 25))
  have S5' := Lib.hid (S4.out.kp hg)
  clear hg z0 z1 z2 z3 z4 y0 y1 y2 y3 y4
  obtain ⟨z0, z1, z2, z3, z4, y0, y1, y2, y3, y4, -, hlt, -⟩ := S5'.out
  have hlt' : w.heap.size < w5.heap.size := by omega
  have S5 : Hid (S2 w (w5.alloc (.cells #[.int .i8 c, .bool st, .int .i8 f, .int .i8 l, .int .u64 n] 25)) c f l n c' f' l' n' st st') := S5
  go_wp2_with fail
  clear z0 z1 z2 z3 z4 y0 y1 y2 y3 y4 hlt hlt'
  generalize w5.alloc (.cells #[.int .i8 c, .bool st, .int .i8 f, .int .i8 l, .int .u64 n] 25) = W5 at S5 ⊢
  refine wp_region_still_tail 27 (by kernel_rfl) (by kernel_rfl) ?_
  simp only [List.take_succ_cons, List.take_zero, List.drop_succ_cons, List.drop_zero]
  have S6 := Lib.hid (S5.out.drew)
  obtain ⟨q0, q1, q2, q3, q4, r0, r1, r2, r3, r4, -⟩ := S6.out
  refine still_of_quiet (W5).drew _ _ ?_
  generalize (W5).drew = W at q0 q1 q2 q3 q4 r0 r1 r2 r3 r4 ⊢
  repeat (go_big_quiet_step (fail))
  refine wpQuiet_nil ?_
  clear q0 q1 q2 q3 q4 r0 r1 r2 r3 r4
  obtain ⟨z0, z1, z2, z3, z4, y0, y1, y2, y3, y4, -⟩ := S6.out
  go_wp2_with fail
  refine (text_any c st f l n _ S6.out.2.2.2.2.2.2.2.2.2.2.1 (HB.out.kp S6.out.2.2.2.2.2.2.2.2.2.2.2.2) HN.out WC.out).mono ?_; rintro e w7 ⟨rfl, hg⟩
  have S7 := Lib.hid (S6.out.kp hg)
  clear hg z0 z1 z2 z3 z4 y0 y1 y2 y3 y4
  have tq := TQ.out
  go_wp2_with fail
  refine (wakes_any _ S7.out.2.2.2.2.2.2.2.2.2.2.1 (HB.out.kp S7.out.2.2.2.2.2.2.2.2.2.2.2.2)).mono ?_; rintro e w8 ⟨rfl, hg⟩
  have HK := Lib.hid (S7.out.2.2.2.2.2.2.2.2.2.2.2.2.trans hg)
  clear hg
  go_wp2_with fail
  go_ret
  exact ⟨rfl, HK.out⟩
set_option maxRecDepth 100000 in
set_option maxHeartbeats 2000000 in
theorem back_c2 (x far : Nat) (c f l : Int) (n : Nat) (st : Bool) (w : World) (hT : TabsOk w) (hB : Bru w) (hx : x < 18446744073709551616) (hn : n < 18446744073709551616) (hn' : n < 18446744073709551616)
    (wc : (Lit.int .i8 c).wf = true) (wc' : (Lit.int .i8 c).wf = true) (hd : dE x far = 2) (hs : SOk c st f l n) :
    Calls Tryd.prog 5 #[.int .u64 x, .int .u64 far, .agg #[.int .i8 c, .bool st, .int .i8 f, .int .i8 l, .int .u64 n], .agg #[.int .i8 c, .bool st, .int .i8 f, .int .i8 l, .int .u64 n]] w fun e w' => e = .returned (.bool true) ∧ Kp w w' := by
  have S0 := Lib.hid (s2_new w c f l n c f l n st st hT)
  have HB := Lib.hid hB
  have HX := Lib.hid hx
  have HN := Lib.hid hn
  have HN' := Lib.hid hn'
  have WC := Lib.hid wc
  have WC' := Lib.hid wc'
  have HE := Lib.hid hd
  have CS := Lib.hid (chk_yes hs)
  have HS := Lib.hid hs
  have TQ : Hid (((strB (txtL c st f l n)).toList == [63]) = false) := Lib.hid (by rw [strB_toList]; simpa using text_ok hs)
  obtain ⟨X, eX, bX, eN, d0, d1, d2, d3, d4, d5⟩ := enc_dec hs
  have EX := Lib.hid eX
  have BX := Lib.hid bX
  have EN := Lib.hid eN
  have D := Lib.hid (⟨d0, d1, d2, d3, d4, d5⟩ : dC X n = c ∧ dS X n = st ∧ dF X n = f ∧ dL X n = l ∧ dA X n = n ∧ dE X n = 0)
  clear eX bX eN d0 d1 d2 d3 d4 d5
  clear hT hB hx hn hn' wc wc' hd hs
  go_enter Tryd.func5, Tryd.ntmps5
  go_wp2_with fail
  refine (decode_any x far _ HX.out S0.out.2.2.2.2.2.2.2.2.2.2.1).mono ?_; rintro e w1 ⟨rfl, hg⟩
  have S1 := Lib.hid (S0.out.kp (hg.alloc #[.int .i8 (dC x far), .bool (dS x far), .int .i8 (dF x far), .int .i8 (dL x far), .int .u64 (dA x far)] 25))
  clear hg
  rw [HE.out]
  have S2' := S1
  obtain ⟨z0, z1, z2, z3, z4, y0, y1, y2, y3, y4, -⟩ := S2'.out
  go_wp2_with fail
  refine (encode_any c st f l n _ S2'.out.2.2.2.2.2.2.2.2.2.2.1 WC.out).mono ?_; rintro e w3 ⟨rfl, hg⟩
  have S3 := Lib.hid (S2'.out.kp hg)
  clear hg z0 z1 z2 z3 z4 y0 y1 y2 y3 y4
  rw [CS.out]
  rw [EX.out, EN.out]
  obtain ⟨z0, z1, z2, z3, z4, y0, y1, y2, y3, y4, -⟩ := S3.out
  go_wp2_with fail
  refine (encode_any c st f l n _ S3.out.2.2.2.2.2.2.2.2.2.2.1 WC'.out).mono ?_; rintro e w4 ⟨rfl, hg⟩
  have S4 := Lib.hid (S3.out.kp hg)
  clear hg z0 z1 z2 z3 z4 y0 y1 y2 y3 y4
  rw [EX.out, EN.out, CS.out]
  obtain ⟨z0, z1, z2, z3, z4, y0, y1, y2, y3, y4, -⟩ := S4.out
  go_wp2_with fail
  refine (decode_any X n _ BX.out S4.out.2.2.2.2.2.2.2.2.2.2.1).mono ?_; rintro e w5 ⟨rfl, hg⟩
  rw [D.out.1, D.out.2.1, D.out.2.2.1, D.out.2.2.2.1, D.out.2.2.2.2.1, D.out.2.2.2.2.2]
  have S5 := Lib.hid (S4.out.kp (hg.alloc #[.int .i8 c, .bool st, .int .i8 f, .int .i8 l, .int .u64 n] 25))
  have S5' := Lib.hid (S4.out.kp hg)
  clear hg z0 z1 z2 z3 z4 y0 y1 y2 y3 y4
  obtain ⟨z0, z1, z2, z3, z4, y0, y1, y2, y3, y4, -, hlt, -⟩ := S5'.out
  have hlt' : w.heap.size < w5.heap.size := by omega
  have S5 : Hid (S2 w (w5.alloc (.cells #[.int .i8 c, .bool st, .int .i8 f, .int .i8 l, .int .u64 n] 25)) c f l n c f l n st st) := S5
  go_wp2_with fail
  clear z0 z1 z2 z3 z4 y0 y1 y2 y3 y4 hlt hlt'
  generalize w5.alloc (.cells #[.int .i8 c, .bool st, .int .i8 f, .int .i8 l, .int .u64 n] 25) = W5 at S5 ⊢
  refine wp_region_still_tail 27 (by kernel_rfl) (by kernel_rfl) ?_
  simp only [List.take_succ_cons, List.take_zero, List.drop_succ_cons, List.drop_zero]
  have S6 := Lib.hid (S5.out.drew)
  obtain ⟨q0, q1, q2, q3, q4, r0, r1, r2, r3, r4, -⟩ := S6.out
  refine still_of_quiet (W5).drew _ _ ?_
  generalize (W5).drew = W at q0 q1 q2 q3 q4 r0 r1 r2 r3 r4 ⊢
  repeat (go_big_quiet_step (fail))
  refine wpQuiet_nil ?_
  clear q0 q1 q2 q3 q4 r0 r1 r2 r3 r4
  obtain ⟨z0, z1, z2, z3, z4, y0, y1, y2, y3, y4, -⟩ := S6.out
  go_wp2_with fail
  refine (text_any c st f l n _ S6.out.2.2.2.2.2.2.2.2.2.2.1 (HB.out.kp S6.out.2.2.2.2.2.2.2.2.2.2.2.2) HN.out WC.out).mono ?_; rintro e w7 ⟨rfl, hg⟩
  have S7 := Lib.hid (S6.out.kp hg)
  clear hg z0 z1 z2 z3 z4 y0 y1 y2 y3 y4
  have tq := TQ.out
  go_wp2_with fail
  refine (wakes_any _ S7.out.2.2.2.2.2.2.2.2.2.2.1 (HB.out.kp S7.out.2.2.2.2.2.2.2.2.2.2.2.2)).mono ?_; rintro e w8 ⟨rfl, hg⟩
  have HK := Lib.hid (S7.out.2.2.2.2.2.2.2.2.2.2.2.2.trans hg)
  clear hg
  go_wp2_with fail
  go_ret
  exact ⟨rfl, HK.out⟩
set_option maxRecDepth 100000 in
set_option maxHeartbeats 2000000 in
theorem back_d2 (x far : Nat) (c f l c' f' l' : Int) (n n' : Nat) (st st' : Bool) (w : World) (hT : TabsOk w) (hB : Bru w) (hx : x < 18446744073709551616) (hn : n < 18446744073709551616) (hn' : n' < 18446744073709551616)
    (wc : (Lit.int .i8 c).wf = true) (wc' : (Lit.int .i8 c').wf = true) (hd : dE x far = 2) (hs : SOk c st f l n) (ht : SOk c' st' f' l' n') (hne : ¬ (c = c' ∧ st = st' ∧ f = f' ∧ l = l' ∧ (n : Int) = (n' : Int))) (hw : ¬ encW c st f l n = encW c' st' f' l' n') :
    Calls Tryd.prog 5 #[.int .u64 x, .int .u64 far, .agg #[.int .i8 c, .bool st, .int .i8 f, .int .i8 l, .int .u64 n], .agg #[.int .i8 c', .bool st', .int .i8 f', .int .i8 l', .int .u64 n']] w fun e w' => e = .returned (.bool true) ∧ Kp w w' := by
  have S0 := Lib.hid (s2_new w c f l n c' f' l' n' st st' hT)
  have HB := Lib.hid hB
  have HX := Lib.hid hx
  have HN := Lib.hid hn
  have HN' := Lib.hid hn'
  have WC := Lib.hid wc
  have WC' := Lib.hid wc'
  have HE := Lib.hid hd
  have CS := Lib.hid (chk_yes hs)
  have HS := Lib.hid hs
  have TQ : Hid (((strB (txtL c st f l n)).toList == [63]) = false) := Lib.hid (by rw [strB_toList]; simpa using text_ok hs)
  obtain ⟨X, eX, bX, eN, d0, d1, d2, d3, d4, d5⟩ := enc_dec hs
  have EX := Lib.hid eX
  have BX := Lib.hid bX
  have EN := Lib.hid eN
  have D := Lib.hid (⟨d0, d1, d2, d3, d4, d5⟩ : dC X n = c ∧ dS X n = st ∧ dF X n = f ∧ dL X n = l ∧ dA X n = n ∧ dE X n = 0)
  clear eX bX eN d0 d1 d2 d3 d4 d5
  have CT := Lib.hid (chk_yes ht)
  have ET := Lib.hid (enc_yes ht).2
  have QT : Hid (((strB (txtL c st f l n)).toList == (strB (txtL c' st' f' l' n')).toList) = false) := Lib.hid (by rw [strB_toList, strB_toList]; simpa using fun g => hne (text_one (by omega) (by omega) hs ht g))
  have QN := Lib.hid (fun W => (equal_syn c f l n c' f' l' n' st st' W).trans (by rw [decide_eq_false hne]))
  have QW := Lib.hid hw
  clear hT hB hx hn hn' wc wc' hd hs ht hne hw
  go_enter Tryd.func5, Tryd.ntmps5
  go_wp2_with fail
  refine (decode_any x far _ HX.out S0.out.2.2.2.2.2.2.2.2.2.2.1).mono ?_; rintro e w1 ⟨rfl, hg⟩
  have S1 := Lib.hid (S0.out.kp (hg.alloc #[.int .i8 (dC x far), .bool (dS x far), .int .i8 (dF x far), .int .i8 (dL x far), .int .u64 (dA x far)] 25))
  clear hg
  rw [HE.out]
  have S2' := S1
  obtain ⟨z0, z1, z2, z3, z4, y0, y1, y2, y3, y4, -⟩ := S2'.out
  go_wp2_with fail
  refine (encode_any c st f l n _ S2'.out.2.2.2.2.2.2.2.2.2.2.1 WC.out).mono ?_; rintro e w3 ⟨rfl, hg⟩
  have S3 := Lib.hid (S2'.out.kp hg)
  clear hg z0 z1 z2 z3 z4 y0 y1 y2 y3 y4
  rw [CS.out]
  rw [EX.out, EN.out]
  obtain ⟨z0, z1, z2, z3, z4, y0, y1, y2, y3, y4, -⟩ := S3.out
  go_wp2_with fail
  refine (encode_any c' st' f' l' n' _ S3.out.2.2.2.2.2.2.2.2.2.2.1 WC'.out).mono ?_; rintro e w4 ⟨rfl, hg⟩
  have S4 := Lib.hid (S3.out.kp hg)
  clear hg z0 z1 z2 z3 z4 y0 y1 y2 y3 y4
  rw [CT.out, ET.out]
  have qw : ((X : Int) == encW c' st' f' l' n') = false := by have := QW.out; rw [EX.out] at this; simpa using this
  obtain ⟨z0, z1, z2, z3, z4, y0, y1, y2, y3, y4, -⟩ := S4.out
  go_wp2_with fail
  refine (decode_any X n _ BX.out S4.out.2.2.2.2.2.2.2.2.2.2.1).mono ?_; rintro e w5 ⟨rfl, hg⟩
  rw [D.out.1, D.out.2.1, D.out.2.2.1, D.out.2.2.2.1, D.out.2.2.2.2.1, D.out.2.2.2.2.2]
  have S5 := Lib.hid (S4.out.kp (hg.alloc #[.int .i8 c, .bool st, .int .i8 f, .int .i8 l, .int .u64 n] 25))
  have S5' := Lib.hid (S4.out.kp hg)
  clear hg z0 z1 z2 z3 z4 y0 y1 y2 y3 y4
  obtain ⟨z0, z1, z2, z3, z4, y0, y1, y2, y3, y4, -, hlt, -⟩ := S5'.out
  have hlt' : w.heap.size < w5.heap.size := by omega
  have qn := QN.out
  have qt := QT.out
  go_wp2_with fail
  refine wp_region_held_drew (S := fun w' => w'.cell? ⟨w.heap.size, 0, none⟩ = some (.int .i8 c) ∧ w'.cell? ⟨w.heap.size, 1, none⟩ = some (.bool st) ∧ w'.cell? ⟨w.heap.size, 2, none⟩ = some (.int .i8 f) ∧ w'.cell? ⟨w.heap.size, 3, none⟩ = some (.int .i8 l) ∧ w'.cell? ⟨w.heap.size, 4, none⟩ = some (.int .u64 n) ∧ w'.cell? ⟨w.heap.size + 1, 0, none⟩ = some (.int .i8 c') ∧ w'.cell? ⟨w.heap.size + 1, 1, none⟩ = some (.bool st') ∧ w'.cell? ⟨w.heap.size + 1, 2, none⟩ = some (.int .i8 f') ∧ w'.cell? ⟨w.heap.size + 1, 3, none⟩ = some (.int .i8 l') ∧ w'.cell? ⟨w.heap.size + 1, 4, none⟩ = some (.int .u64 n') ∧ TabsOk w' ∧ w.heap.size + 1 < w'.heap.size ∧ Kp w w') (by kernel_rfl) S5.out.drew (fun hHeld => ?_)
  refine wpAnyH_take (i := 0) (oi := ?p0) (v := ?v0) ?o0 (by kernel_rfl) (by kernel_rfl) (by kernel_rfl) ?q0 ?y0 (by assumption) ?r0
  case o0 => (simp only [List.getElem?_toArray, List.getElem?_cons_zero]; rfl)
  case q0 => (exact fun _ _ _ h => h)
  case y0 => (refine Or.inl ⟨by rfl, ?_⟩; intro w hSw; (try dsimp only at hSw); go_simp; (try with_reducible rfl))
  simp only [Act.put, List.setIfInBounds_toArray, List.set_cons_zero, List.set_cons_succ]
  refine wpAnyH_take (i := 1) (oi := ?p1) (v := ?v1) ?o1 (by kernel_rfl) (by kernel_rfl) (by kernel_rfl) ?q1 ?y1 (by assumption) ?r1
  case o1 => (simp only [List.getElem?_toArray, List.getElem?_cons_succ, List.getElem?_cons_zero]; rfl)
  case q1 => (exact fun _ _ _ h => h)
  case y1 => (refine Or.inl ⟨by rfl, ?_⟩; intro w hSw; (try dsimp only at hSw); go_simp; (try with_reducible rfl))
  simp only [Act.put, List.setIfInBounds_toArray, List.set_cons_zero, List.set_cons_succ]
  refine wpAnyH_take (i := 2) (oi := ?p2) (v := ?v2) ?o2 (by kernel_rfl) (by kernel_rfl) (by kernel_rfl) ?q2 ?y2 (by assumption) ?r2
  case o2 => (simp only [List.getElem?_toArray, List.getElem?_cons_succ, List.getElem?_cons_zero]; rfl)
  case q2 => (exact fun _ _ _ h => h)
  case y2 => (refine Or.inl ⟨by rfl, ?_⟩; intro w hSw; (try dsimp only at hSw); go_simp; (try with_reducible rfl))
  simp only [Act.put, List.setIfInBounds_toArray, List.set_cons_zero, List.set_cons_succ]
  refine wpAnyH_take (i := 3) (oi := ?p3) (v := ?v3) ?o3 (by kernel_rfl) (by kernel_rfl) (by kernel_rfl) ?q3 ?y3 (by assumption) ?r3
  case o3 => (simp only [List.getElem?_toArray, List.getElem?_cons_succ, List.getElem?_cons_zero]; rfl)
  case q3 => (exact fun _ _ _ h => h)
  case y3 => (refine Or.inl ⟨by rfl, ?_⟩; intro w hSw; (try dsimp only at hSw); go_simp; (try with_reducible rfl))
  simp only [Act.put, List.setIfInBounds_toArray, List.set_cons_zero, List.set_cons_succ]
  refine wpAnyH_take (i := 4) (oi := ?p4) (v := ?v4) ?o4 (by kernel_rfl) (by kernel_rfl) (by kernel_rfl) ?q4 ?y4 (by assumption) ?r4
  case o4 => (simp only [List.getElem?_toArray, List.getElem?_cons_succ, List.getElem?_cons_zero]; rfl)
  case q4 => (exact fun _ _ _ h => h)
  case y4 => (refine Or.inl ⟨by rfl, ?_⟩; intro w hSw; (try dsimp only at hSw); go_simp; (try with_reducible rfl))
  simp only [Act.put, List.setIfInBounds_toArray, List.set_cons_zero, List.set_cons_succ]
  refine wpAnyH_take (i := 5) (oi := ?p5) (v := ?v5) ?o5 (by kernel_rfl) (by kernel_rfl) (by kernel_rfl) ?q5 ?y5 (by assumption) ?r5
  case o5 => (simp only [List.getElem?_toArray, List.getElem?_cons_succ, List.getElem?_cons_zero]; rfl)
  case q5 => (exact fun _ _ _ h => h)
  case y5 => (refine Or.inl ⟨by rfl, ?_⟩; intro w hSw; (try dsimp only at hSw); go_simp; (try with_reducible rfl))
  simp only [Act.put, List.setIfInBounds_toArray, List.set_cons_zero, List.set_cons_succ]
  refine wpAnyH_take (i := 6) (oi := ?p6) (v := ?v6) ?o6 (by kernel_rfl) (by kernel_rfl) (by kernel_rfl) ?q6 ?y6 (by assumption) ?r6
  case o6 => (simp only [List.getElem?_toArray, List.getElem?_cons_succ, List.getElem?_cons_zero]; rfl)
  case q6 => (exact fun _ _ _ h => h)
  case y6 => (refine Or.inl ⟨by rfl, ?_⟩; intro w hSw; (try dsimp only at hSw); go_simp; (try with_reducible rfl))
  simp only [Act.put, List.setIfInBounds_toArray, List.set_cons_zero, List.set_cons_succ]
  refine wpAnyH_take (i := 7) (oi := ?p7) (v := ?v7) ?o7 (by kernel_rfl) (by kernel_rfl) (by kernel_rfl) ?q7 ?y7 (by assumption) ?r7
  case o7 => (simp only [List.getElem?_toArray, List.getElem?_cons_succ, List.getElem?_cons_zero]; rfl)
  case q7 => (exact fun _ _ _ h => h)
  case y7 => (refine Or.inl ⟨by rfl, ?_⟩; intro w hSw; (try dsimp only at hSw); go_simp; (try with_reducible rfl))
  simp only [Act.put, List.setIfInBounds_toArray, List.set_cons_zero, List.set_cons_succ]
  refine wpAnyH_take (i := 8) (oi := ?p8) (v := ?v8) ?o8 (by kernel_rfl) (by kernel_rfl) (by kernel_rfl) ?q8 ?y8 (by assumption) ?r8
  case o8 => (simp only [List.getElem?_toArray, List.getElem?_cons_succ, List.getElem?_cons_zero]; rfl)
  case q8 => (exact fun _ _ _ h => h)
  case y8 => (refine Or.inl ⟨by rfl, ?_⟩; intro w hSw; (try dsimp only at hSw); go_simp; (try with_reducible rfl))
  simp only [Act.put, List.setIfInBounds_toArray, List.set_cons_zero, List.set_cons_succ]
  refine wpAnyH_take (i := 9) (oi := ?p9) (v := ?v9) ?o9 (by kernel_rfl) (by kernel_rfl) (by kernel_rfl) ?q9 ?y9 (by assumption) ?r9
  case o9 => (simp only [List.getElem?_toArray, List.getElem?_cons_succ, List.getElem?_cons_zero]; rfl)
  case q9 => (exact fun _ _ _ h => h)
  case y9 => (refine Or.inl ⟨by rfl, ?_⟩; intro w hSw; (try dsimp only at hSw); go_simp; (try with_reducible rfl))
  simp only [Act.put, List.setIfInBounds_toArray, List.set_cons_zero, List.set_cons_succ]
  refine wpAnyH_take (i := 10) (oi := ?p10) (v := ?v10) ?o10 (by kernel_rfl) (by kernel_rfl) (by kernel_rfl) ?q10 ?y10 (by assumption) ?r10
  case o10 => (simp only [List.getElem?_toArray, List.getElem?_cons_succ, List.getElem?_cons_zero]; rfl)
  case q10 => (exact fun _ _ _ h => h)
  case y10 => (refine Or.inl ⟨by rfl, ?_⟩; intro w hSw; (try dsimp only at hSw); go_simp; (try with_reducible rfl))
  simp only [Act.put, List.setIfInBounds_toArray, List.set_cons_zero, List.set_cons_succ]
  refine wpAnyH_take (i := 11) (oi := ?p11) (v := ?v11) ?o11 (by kernel_rfl) (by kernel_rfl) (by kernel_rfl) ?q11 ?y11 (by assumption) ?r11
  case o11 => (simp only [List.getElem?_toArray, List.getElem?_cons_succ, List.getElem?_cons_zero]; rfl)
  case q11 => (exact fun _ _ _ h => h)
  case y11 => (refine Or.inl ⟨by rfl, ?_⟩; intro w hSw; (try dsimp only at hSw); go_simp; (try with_reducible rfl))
  simp only [Act.put, List.setIfInBounds_toArray, List.set_cons_zero, List.set_cons_succ]
  refine wpAnyH_take (i := 12) (oi := ?p12) (v := ?v12) ?o12 (by kernel_rfl) (by kernel_rfl) (by kernel_rfl) ?q12 ?y12 (by assumption) ?r12
  case o12 => (simp only [List.getElem?_toArray, List.getElem?_cons_succ, List.getElem?_cons_zero]; rfl)
  case q12 => (exact fun _ _ _ h => h)
  case y12 => (refine Or.inl ⟨by rfl, ?_⟩; intro w hSw; (try dsimp only at hSw); go_simp; (try with_reducible rfl))
  simp only [Act.put, List.setIfInBounds_toArray, List.set_cons_zero, List.set_cons_succ]
  refine wpAnyH_take (i := 13) (oi := ?p13) (v := ?v13) ?o13 (by kernel_rfl) (by kernel_rfl) (by kernel_rfl) ?q13 ?y13 (by assumption) ?r13
  case o13 => (simp only [List.getElem?_toArray, List.getElem?_cons_succ, List.getElem?_cons_zero]; rfl)
  case q13 => (exact fun _ _ _ h => h)
  case y13 => (refine Or.inl ⟨by rfl, ?_⟩; intro w hSw; (try dsimp only at hSw); go_simp; (try with_reducible rfl))
  simp only [Act.put, List.setIfInBounds_toArray, List.set_cons_zero, List.set_cons_succ]
  refine wpAnyH_take (i := 14) (oi := ?p14) (v := ?v14) ?o14 (by kernel_rfl) (by kernel_rfl) (by kernel_rfl) ?q14 ?y14 (by assumption) ?r14
  case o14 => (simp only [List.getElem?_toArray, List.getElem?_cons_succ, List.getElem?_cons_zero]; rfl)
  case q14 => (exact fun _ _ _ h => h)
  case y14 => (refine Or.inl ⟨by rfl, ?_⟩; intro w hSw; (try dsimp only at hSw); go_simp; (try with_reducible rfl))
  simp only [Act.put, List.setIfInBounds_toArray, List.set_cons_zero, List.set_cons_succ]
  refine wpAnyH_take (i := 15) (oi := ?p15) (v := ?v15) ?o15 (by kernel_rfl) (by kernel_rfl) (by kernel_rfl) ?q15 ?y15 (by assumption) ?r15
  case o15 => (simp only [List.getElem?_toArray, List.getElem?_cons_succ, List.getElem?_cons_zero]; rfl)
  case q15 => (exact fun _ _ _ h => h)
  case y15 => (refine Or.inl ⟨by rfl, ?_⟩; intro w hSw; (try dsimp only at hSw); go_simp; (try with_reducible rfl))
  simp only [Act.put, List.setIfInBounds_toArray, List.set_cons_zero, List.set_cons_succ]
  refine wpAnyH_take (i := 16) (oi := ?p16) (v := undef) ?o16 (by kernel_rfl) (by kernel_rfl) (by kernel_rfl) ?q16 ?y16 (by assumption) ?r16
  case o16 => (simp only [List.getElem?_toArray, List.getElem?_cons_succ, List.getElem?_cons_zero]; rfl)
  case q16 => (exact fun _ _ _ h => h)
  case y16 => (exact Or.inr ⟨by rfl, rfl⟩)
  simp only [Act.put, List.setIfInBounds_toArray, List.set_cons_zero, List.set_cons_succ]
  refine wpAnyH_take (i := 17) (oi := ?p17) (v := undef) ?o17 (by kernel_rfl) (by kernel_rfl) (by kernel_rfl) ?q17 ?y17 (by assumption) ?r17
  case o17 => (simp only [List.getElem?_toArray, List.getElem?_cons_succ, List.getElem?_cons_zero]; rfl)
  case q17 => (exact fun _ _ _ h => h)
  case y17 => (exact Or.inr ⟨by rfl, rfl⟩)
  simp only [Act.put, List.setIfInBounds_toArray, List.set_cons_zero, List.set_cons_succ]
  refine wpAnyH_take (i := 18) (oi := ?p18) (v := undef) ?o18 (by kernel_rfl) (by kernel_rfl) (by kernel_rfl) ?q18 ?y18 (by assumption) ?r18
  case o18 => (simp only [List.getElem?_toArray, List.getElem?_cons_succ, List.getElem?_cons_zero]; rfl)
  case q18 => (exact fun _ _ _ h => h)
  case y18 => (exact Or.inr ⟨by rfl, rfl⟩)
  simp only [Act.put, List.setIfInBounds_toArray, List.set_cons_zero, List.set_cons_succ]
  refine wpAnyH_take (i := 19) (oi := ?p19) (v := ?v19) ?o19 (by kernel_rfl) (by kernel_rfl) (by kernel_rfl) ?q19 ?y19 (by assumption) ?r19
  case o19 => (simp only [List.getElem?_toArray, List.getElem?_cons_succ, List.getElem?_cons_zero]; rfl)
  case q19 => (exact fun _ _ _ h => h)
  case y19 => (refine Or.inl ⟨by rfl, ?_⟩; intro w hSw; (try dsimp only at hSw); go_simp; (try with_reducible rfl))
  simp only [Act.put, List.setIfInBounds_toArray, List.set_cons_zero, List.set_cons_succ]
  refine wpAnyH_take (i := 20) (oi := ?p20) (v := ?v20) ?o20 (by kernel_rfl) (by kernel_rfl) (by kernel_rfl) ?q20 ?y20 (by assumption) ?r20
  case o20 => (simp only [List.getElem?_toArray, List.getElem?_cons_succ, List.getElem?_cons_zero]; rfl)
  case q20 => (exact fun _ _ _ h => h)
  case y20 => (refine Or.inl ⟨by rfl, ?_⟩; intro w hSw; (try dsimp only at hSw); go_simp; (try with_reducible rfl))
  simp only [Act.put, List.setIfInBounds_toArray, List.set_cons_zero, List.set_cons_succ]
  refine wpAnyH_take (i := 21) (oi := ?p21) (v := ?v21) ?o21 (by kernel_rfl) (by kernel_rfl) (by kernel_rfl) ?q21 ?y21 (by assumption) ?r21
  case o21 => (simp only [List.getElem?_toArray, List.getElem?_cons_succ, List.getElem?_cons_zero]; rfl)
  case q21 => (exact fun _ _ _ h => h)
  case y21 => (refine Or.inl ⟨by rfl, ?_⟩; intro w hSw; (try dsimp only at hSw); go_simp; (try with_reducible rfl))
  simp only [Act.put, List.setIfInBounds_toArray, List.set_cons_zero, List.set_cons_succ]
  refine wpAnyH_take (i := 23) (oi := ?p23) (v := ?v23) ?o23 (by kernel_rfl) (by kernel_rfl) (by kernel_rfl) ?q23 ?y23 (by assumption) ?r23
  case o23 => (simp only [List.getElem?_toArray, List.getElem?_cons_succ, List.getElem?_cons_zero]; rfl)
  case q23 => (exact fun _ _ _ h => h)
  case y23 => (refine Or.inl ⟨by rfl, ?_⟩; intro w hSw; (try dsimp only at hSw); go_simp; (try with_reducible rfl))
  simp only [Act.put, List.setIfInBounds_toArray, List.set_cons_zero, List.set_cons_succ]
  refine wpAnyH_ready (rs := [22]) (by kernel_rfl) (by simp) ?_
  refine AllReadyH.cons (o := ?p22) ?o22 (fun K hK => ?w22) AllReadyH.nil
  case o22 => (simp only [List.getElem?_toArray, List.getElem?_cons_succ, List.getElem?_cons_zero]; rfl)
  rw [if_pos (by rfl)]
  go_simp
  refine (text_any c st f l n _ hHeld.2.2.2.2.2.2.2.2.2.2.1 (HB.out.kp hHeld.2.2.2.2.2.2.2.2.2.2.2.2) HN.out WC.out).mono ?_; rintro e w' ⟨rfl, hg⟩
  (try go_wp2_with fail)
  refine hK.out _ _ (S2.kp hHeld hg) (fun hHeld2 => ?_)
  clear hK hg K
  refine wpAnyH_ready (rs := [24]) (by kernel_rfl) (by simp) ?_
  refine AllReadyH.cons (o := ?p24) ?o24 (fun K hK => ?w24) AllReadyH.nil
  case o24 => (simp only [List.getElem?_toArray, List.getElem?_cons_succ, List.getElem?_cons_zero]; rfl)
  rw [if_pos (by rfl)]
  go_simp
  refine (text_any c' st' f' l' n' _ hHeld2.2.2.2.2.2.2.2.2.2.2.1 (HB.out.kp hHeld2.2.2.2.2.2.2.2.2.2.2.2.2) HN'.out WC'.out).mono ?_; rintro e w' ⟨rfl, hg⟩
  (try go_wp2_with fail)
  refine hK.out _ _ (S2.kp hHeld2 hg) (fun hHeld3 => ?_)
  clear hK hg K
  refine wpAnyH_take (i := 25) (oi := ?p25) (v := ?v25) ?o25 (by kernel_rfl) (by kernel_rfl) (by kernel_rfl) ?q25 ?y25 (by assumption) ?r25
  case o25 => (simp only [List.getElem?_toArray, List.getElem?_cons_succ, List.getElem?_cons_zero]; rfl)
  case q25 => (exact fun _ _ _ h => h)
  case y25 => (refine Or.inl ⟨by rfl, ?_⟩; intro w hSw; (try dsimp only at hSw); go_simp; (try with_reducible rfl))
  simp only [Act.put, List.setIfInBounds_toArray, List.set_cons_zero, List.set_cons_succ]
  refine wpAnyH_take (i := 26) (oi := ?p26) (v := ?v26) ?o26 (by kernel_rfl) (by kernel_rfl) (by kernel_rfl) ?q26 ?y26 (by assumption) ?r26
  case o26 => (simp only [List.getElem?_toArray, List.getElem?_cons_succ, List.getElem?_cons_zero]; rfl)
  case q26 => (exact fun _ _ _ h => h)
  case y26 => (refine Or.inl ⟨by rfl, ?_⟩; intro w hSw; (try dsimp only at hSw); go_simp; (try with_reducible rfl))
  simp only [Act.put, List.setIfInBounds_toArray, List.set_cons_zero, List.set_cons_succ]
  refine wpAnyH_take (i := 27) (oi := ?p27) (v := ?v27) ?o27 (by kernel_rfl) (by kernel_rfl) (by kernel_rfl) ?q27 ?y27 (by assumption) ?r27
  case o27 => (simp only [List.getElem?_toArray, List.getElem?_cons_succ, List.getElem?_cons_zero]; rfl)
  case q27 => (exact fun _ _ _ h => h)
  case y27 => (refine Or.inl ⟨by rfl, ?_⟩; intro w hSw; (try dsimp only at hSw); go_simp; (try with_reducible rfl))
  simp only [Act.put, List.setIfInBounds_toArray, List.set_cons_zero, List.set_cons_succ]
  refine wpAnyH_done (by kernel_rfl) ?_ _
  have S6 : Hid (S2 w _ c f l n c' f' l' n' st st') := Lib.hid hHeld3; clear hHeld hHeld2 hHeld3
  clear z0 z1 z2 z3 z4 y0 y1 y2 y3 y4
  clear hlt hlt'
  obtain ⟨z0, z1, z2, z3, z4, y0, y1, y2, y3, y4, -⟩ := S6.out
  go_wp2_with fail
  refine (text_any c st f l n _ S6.out.2.2.2.2.2.2.2.2.2.2.1 (HB.out.kp S6.out.2.2.2.2.2.2.2.2.2.2.2.2) HN.out WC.out).mono ?_; rintro e w7 ⟨rfl, hg⟩
  have S7 := Lib.hid (S6.out.kp hg)
  clear hg z0 z1 z2 z3 z4 y0 y1 y2 y3 y4
  have tq := TQ.out
  go_wp2_with fail
  refine (wakes_any _ S7.out.2.2.2.2.2.2.2.2.2.2.1 (HB.out.kp S7.out.2.2.2.2.2.2.2.2.2.2.2.2)).mono ?_; rintro e w8 ⟨rfl, hg⟩
  have HK := Lib.hid (S7.out.2.2.2.2.2.2.2.2.2.2.2.2.trans hg)
  clear hg
  go_wp2_with fail
  go_ret
  exact ⟨rfl, HK.out⟩
set_option maxRecDepth 100000 in
set_option maxHeartbeats 2000000 in
theorem back_e2 (x far : Nat) (c f l c' f' l' : Int) (n n' : Nat) (st st' : Bool) (w : World) (hT : TabsOk w) (hB : Bru w) (hx : x < 18446744073709551616) (hn : n < 18446744073709551616) (hn' : n' < 18446744073709551616)
    (wc : (Lit.int .i8 c).wf = true) (wc' : (Lit.int .i8 c').wf = true) (hd : dE x far = 2) (hs : SOk c st f l n) (ht : SOk c' st' f' l' n') (hne : ¬ (c = c' ∧ st = st' ∧ f = f' ∧ l = l' ∧ (n : Int) = (n' : Int))) (hw : encW c st f l n = encW c' st' f' l' n') (hv : ¬ (n : Int) = (n' : Int)) :
    Calls Tryd.prog 5 #[.int .u64 x, .int .u64 far, .agg #[.int .i8 c, .bool st, .int .i8 f, .int .i8 l, .int .u64 n], .agg #[.int .i8 c', .bool st', .int .i8 f', .int .i8 l', .int .u64 n']] w fun e w' => e = .returned (.bool true) ∧ Kp w w' := by
  have S0 := Lib.hid (s2_new w c f l n c' f' l' n' st st' hT)
  have HB := Lib.hid hB
  have HX := Lib.hid hx
  have HN := Lib.hid hn
  have HN' := Lib.hid hn'
  have WC := Lib.hid wc
  have WC' := Lib.hid wc'
  have HE := Lib.hid hd
  have CS := Lib.hid (chk_yes hs)
  have HS := Lib.hid hs
  have TQ : Hid (((strB (txtL c st f l n)).toList == [63]) = false) := Lib.hid (by rw [strB_toList]; simpa using text_ok hs)
  obtain ⟨X, eX, bX, eN, d0, d1, d2, d3, d4, d5⟩ := enc_dec hs
  have EX := Lib.hid eX
  have BX := Lib.hid bX
  have EN := Lib.hid eN
  have D := Lib.hid (⟨d0, d1, d2, d3, d4, d5⟩ : dC X n = c ∧ dS X n = st ∧ dF X n = f ∧ dL X n = l ∧ dA X n = n ∧ dE X n = 0)
  clear eX bX eN d0 d1 d2 d3 d4 d5
  have CT := Lib.hid (chk_yes ht)
  have ET := Lib.hid (enc_yes ht).2
  have QT : Hid (((strB (txtL c st f l n)).toList == (strB (txtL c' st' f' l' n')).toList) = false) := Lib.hid (by rw [strB_toList, strB_toList]; simpa using fun g => hne (text_one (by omega) (by omega) hs ht g))
  have QN := Lib.hid (fun W => (equal_syn c f l n c' f' l' n' st st' W).trans (by rw [decide_eq_false hne]))
  have QW := Lib.hid hw
  have QV : Hid (((n : Int) == (n' : Int)) = false) := Lib.hid (by simpa using hv)
  clear hT hB hx hn hn' wc wc' hd hs ht hne hw hv
  go_enter Tryd.func5, Tryd.ntmps5
  go_wp2_with fail
  refine (decode_any x far _ HX.out S0.out.2.2.2.2.2.2.2.2.2.2.1).mono ?_; rintro e w1 ⟨rfl, hg⟩
  have S1 := Lib.hid (S0.out.kp (hg.alloc #[.int .i8 (dC x far), .bool (dS x far), .int .i8 (dF x far), .int .i8 (dL x far), .int .u64 (dA x far)] 25))
  clear hg
  rw [HE.out]
  have S2' := S1
  obtain ⟨z0, z1, z2, z3, z4, y0, y1, y2, y3, y4, -⟩ := S2'.out
  go_wp2_with fail
  refine (encode_any c st f l n _ S2'.out.2.2.2.2.2.2.2.2.2.2.1 WC.out).mono ?_; rintro e w3 ⟨rfl, hg⟩
  have S3 := Lib.hid (S2'.out.kp hg)
  clear hg z0 z1 z2 z3 z4 y0 y1 y2 y3 y4
  rw [CS.out]
  rw [EX.out, EN.out]
  obtain ⟨z0, z1, z2, z3, z4, y0, y1, y2, y3, y4, -⟩ := S3.out
  go_wp2_with fail
  refine (encode_any c' st' f' l' n' _ S3.out.2.2.2.2.2.2.2.2.2.2.1 WC'.out).mono ?_; rintro e w4 ⟨rfl, hg⟩
  have S4 := Lib.hid (S3.out.kp hg)
  clear hg z0 z1 z2 z3 z4 y0 y1 y2 y3 y4
  rw [CT.out, ET.out]
  rw [← QW.out, EX.out]
  obtain ⟨z0, z1, z2, z3, z4, y0, y1, y2, y3, y4, -⟩ := S4.out
  go_wp2_with fail
  refine (decode_any X n _ BX.out S4.out.2.2.2.2.2.2.2.2.2.2.1).mono ?_; rintro e w5 ⟨rfl, hg⟩
  rw [D.out.1, D.out.2.1, D.out.2.2.1, D.out.2.2.2.1, D.out.2.2.2.2.1, D.out.2.2.2.2.2]
  have S5 := Lib.hid (S4.out.kp (hg.alloc #[.int .i8 c, .bool st, .int .i8 f, .int .i8 l, .int .u64 n] 25))
  have S5' := Lib.hid (S4.out.kp hg)
  clear hg z0 z1 z2 z3 z4 y0 y1 y2 y3 y4
  obtain ⟨z0, z1, z2, z3, z4, y0, y1, y2, y3, y4, -, hlt, -⟩ := S5'.out
  have hlt' : w.heap.size < w5.heap.size := by omega
  have qn := QN.out
  have qt := QT.out
  have qv := QV.out
  go_wp2_with fail
  first | (go_region_held3 (fun w' => w'.cell? ⟨w.heap.size, 0, none⟩ = some (.int .i8 c) ∧ w'.cell? ⟨w.heap.size, 1, none⟩ = some (.bool st) ∧ w'.cell? ⟨w.heap.size, 2, none⟩ = some (.int .i8 f) ∧ w'.cell? ⟨w.heap.size, 3, none⟩ = some (.int .i8 l) ∧ w'.cell? ⟨w.heap.size, 4, none⟩ = some (.int .u64 n) ∧ w'.cell? ⟨w.heap.size + 1, 0, none⟩ = some (.int .i8 c') ∧ w'.cell? ⟨w.heap.size + 1, 1, none⟩ = some (.bool st') ∧ w'.cell? ⟨w.heap.size + 1, 2, none⟩ = some (.int .i8 f') ∧ w'.cell? ⟨w.heap.size + 1, 3, none⟩ = some (.int .i8 l') ∧ w'.cell? ⟨w.heap.size + 1, 4, none⟩ = some (.int .u64 n') ∧ TabsOk w' ∧ w.heap.size + 1 < w'.heap.size ∧ Kp w w') (first | exact S5.out.drew | assumption | exact S2.drew (by assumption)) (first | (go_at_call 10; rename_i hh _ _; refine (text_any _ _ _ _ _ _ hh.2.2.2.2.2.2.2.2.2.2.1 (HB.out.kp hh.2.2.2.2.2.2.2.2.2.2.2.2) (by first | exact HN.out | exact HN'.out) (by first | exact WC.out | exact WC'.out)).mono ?_; rintro e w' ⟨rfl, hg⟩; have hh' := S2.kp hh hg; clear hh hg))) | fail
  all_goals
    rename_i hh
    have S6 : Hid (S2 w _ c f l n c' f' l' n' st st') := Lib.hid hh; clear hh
    clear z0 z1 z2 z3 z4 y0 y1 y2 y3 y4
    clear hlt hlt'
    obtain ⟨z0, z1, z2, z3, z4, y0, y1, y2, y3, y4, -⟩ := S6.out
    go_wp2_with fail
    refine (text_any c st f l n _ S6.out.2.2.2.2.2.2.2.2.2.2.1 (HB.out.kp S6.out.2.2.2.2.2.2.2.2.2.2.2.2) HN.out WC.out).mono ?_; rintro e w7 ⟨rfl, hg⟩
    have S7 := Lib.hid (S6.out.kp hg)
    clear hg z0 z1 z2 z3 z4 y0 y1 y2 y3 y4
    have tq := TQ.out
    go_wp2_with fail
    refine (wakes_any _ S7.out.2.2.2.2.2.2.2.2.2.2.1 (HB.out.kp S7.out.2.2.2.2.2.2.2.2.2.2.2.2)).mono ?_; rintro e w8 ⟨rfl, hg⟩
    have HK := Lib.hid (S7.out.2.2.2.2.2.2.2.2.2.2.2.2.trans hg)
    clear hg
    go_wp2_with fail
    go_ret
    exact ⟨rfl, HK.out⟩
theorem back_d (d : Int) (hd0 : d = 0 ∨ d = 2) (x far : Nat) (c f l c' f' l' : Int) (n n' : Nat) (st st' : Bool) (w : World) (hT : TabsOk w) (hB : Bru w) (hx : x < 18446744073709551616) (hn : n < 18446744073709551616) (hn' : n' < 18446744073709551616)
    (wc : (Lit.int .i8 c).wf = true) (wc' : (Lit.int .i8 c').wf = true) (hd : dE x far = d) :
    Calls Tryd.prog 5 #[.int .u64 x, .int .u64 far, .agg #[.int .i8 c, .bool st, .int .i8 f, .int .i8 l, .int .u64 n], .agg #[.int .i8 c', .bool st', .int .i8 f', .int .i8 l', .int .u64 n']] w fun e w' => e = .returned (.bool true) ∧ Kp w w' := by
  rcases hd0 with rfl | rfl
  all_goals
    by_cases hs : SOk c st f l n
    · by_cases ht : SOk c' st' f' l' n'
      · by_cases hne : c = c' ∧ st = st' ∧ f = f' ∧ l = l' ∧ (n : Int) = (n' : Int)
        · obtain ⟨rfl, rfl, rfl, rfl, h⟩ := hne
          obtain rfl : n = n' := by omega
          first | exact back_c0 x far c f l n st w hT hB hx hn hn' wc wc' hd hs | exact back_c2 x far c f l n st w hT hB hx hn hn' wc wc' hd hs
        · by_cases hw : encW c st f l n = encW c' st' f' l' n'
          · have hv : ¬ (n : Int) = (n' : Int) := fun h => hne (words_one hs ht hw (by rw [(enc_yes hs).2, (enc_yes ht).2]; exact h))
            first | exact back_e0 x far c f l c' f' l' n n' st st' w hT hB hx hn hn' wc wc' hd hs ht hne hw hv | exact back_e2 x far c f l c' f' l' n n' st st' w hT hB hx hn hn' wc wc' hd hs ht hne hw hv
          · first | exact back_d0 x far c f l c' f' l' n n' st st' w hT hB hx hn hn' wc wc' hd hs ht hne hw | exact back_d2 x far c f l c' f' l' n n' st st' w hT hB hx hn hn' wc wc' hd hs ht hne hw
      · first | exact back_b0 x far c f l c' f' l' n n' st st' w hT hB hx hn hn' wc wc' hd hs ht | exact back_b2 x far c f l c' f' l' n n' st st' w hT hB hx hn hn' wc wc' hd hs ht
    · first | exact back_a0 x far c f l c' f' l' n n' st st' w hT hB hx hn hn' wc wc' hd hs | exact back_a2 x far c f l c' f' l' n n' st st' w hT hB hx hn hn' wc wc' hd hs
theorem walkBack (a b c f l m c' f' l' m' : Int) (st st' : Bool) (w : World) (hT : TabsOk w) (hB : Bru w) (wa : (Lit.int .u64 a).wf = true) (wb : (Lit.int .u64 b).wf = true) (wc : (Lit.int .i8 c).wf = true) (wm : (Lit.int .u64 m).wf = true) (wc' : (Lit.int .i8 c').wf = true) (wm' : (Lit.int .u64 m').wf = true) :
    Calls Tryd.prog 5 #[.int .u64 a, .int .u64 b, .agg #[.int .i8 c, .bool st, .int .i8 f, .int .i8 l, .int .u64 m], .agg #[.int .i8 c', .bool st', .int .i8 f', .int .i8 l', .int .u64 m']] w fun e w' => e = .returned (.bool true) ∧ Kp w w' := by
  obtain ⟨x, rfl, hx⟩ := nat_of a wa
  obtain ⟨far, rfl, _⟩ := nat_of b wb
  obtain ⟨n, rfl, hn⟩ := nat_of m wm
  obtain ⟨n', rfl, hn'⟩ := nat_of m' wm'
  exact back_d _ (dE_cases x far) x far c f l c' f' l' n n' st st' w hT hB hx hn hn' wc wc' rfl
end Go.Proofs.YtjglobnjmahpaaaDoor
