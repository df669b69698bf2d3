/-
  The document's text of an instruction. No condition but the library's table.
-/
import Derived.Test.YtfbkppncaampdaaDoorFmt07
import Derived.Test.YtfbkppncaampdaaDoorRefEnc07
namespace Go.Proofs.YtfbkppncaampdaaDoor
open Go Go.RowKit

def prtL (o : Nat) (d n m imm : Int) : List (List UInt8) := (if fD o then [120 :: Lib.itoa d] else []) ++ (if fN o then [120 :: Lib.itoa n] else []) ++ (if fM o then [120 :: Lib.itoa m] else []) ++ (if fWd o = 0 then [] else [Lib.itoa imm])
def tailL : List (List UInt8) → List UInt8
  | [] => []
  | x :: r => 32 :: Lib.join (x :: r) [44]
def nmL (o : Nat) : List UInt8 := nameL.getD o []
def txtO (o : Nat) (d n m imm : Int) : List UInt8 := nmL o ++ tailL (prtL o d n m imm)
def txtL (op d n m imm : Int) : List UInt8 := if InsA op d n m imm then txtO op.toNat d n m imm else [98, 97, 100]
theorem nm_len (o : Nat) (ho : o < 19) : (nmL o).length ≤ 4 := ops19 (P := fun o => (nmL o).length ≤ 4) (by decide) o ho
theorem imm_bounds (o : Nat) (ho : o < 19) : -100000 ≤ loI o ∧ hiI o ≤ 100000 := ops19 (P := fun o => -100000 ≤ loI o ∧ hiI o ≤ 100000) (by decide) o ho
theorem InsA.small {o : Nat} {d n m imm : Int} (h : InsA o d n m imm) : (-100000 ≤ d ∧ d ≤ 100000) ∧ (-100000 ≤ n ∧ n ≤ 100000) ∧ (-100000 ≤ m ∧ m ≤ 100000) ∧ (-100000 ≤ imm ∧ imm ≤ 100000) := by
  have hr := h.regs
  have ho : o < 19 := by have := h.2.1; omega
  have hb := imm_bounds o ho
  have hi := h.2.2.1
  rw [Int.toNat_natCast] at hi
  omega
theorem shape_is (o : Nat) (s : List UInt8) (hs : shpS o = s) (w : World) (ho : o < 19) :
    Calls Tryd.prog 30 #[.int .i8 o] w fun e w' => e = .returned (.string ⟨s.toArray⟩) ∧ w = w' := by
  subst hs
  exact shape_any o w ho
theorem join2 (a b : List UInt8) : Lib.join [a, b] [44] = a ++ [44] ++ b := by simp [Lib.join, List.intercalate, List.intersperse]
theorem join3 (a b c : List UInt8) : Lib.join [a, b, c] [44] = a ++ [44] ++ b ++ [44] ++ c := by simp [Lib.join, List.intercalate, List.intersperse]
set_option maxRecDepth 20000 in
set_option maxHeartbeats 2000000 in
theorem rtext_n (o : Nat) (d n m imm : Int) (w : World) (g : InsA o d n m imm) (hs : shpS o = []) :
    Calls Tryd.prog 13 #[.agg (insV o d n m imm)] w fun e w' => e = .returned (.string (strB ((nmL o)))) ∧ Kp w w' := by
  have HO : Hid (o < 19) := Lib.hid (by have := g.2.1; omega)
  have HG := Lib.hid g
  have HZ := Lib.hid g.small
  have hr := g.i8
  have d1 := hr.1.1
  have d2 := hr.1.2
  have n1 := hr.2.1.1
  have n2 := hr.2.1.2
  have m1 := hr.2.2.1
  have m2 := hr.2.2.2
  have HSH := Lib.hid hs
  have hln := nm_len o HO.out
  have HN : Hid (∀ w, Calls Tryd.prog 29 #[.int .i8 o] w fun e w' => e = .returned (.string (strB (nmL o))) ∧ w = w') := Lib.hid fun w => name_any o w HO.out
  generalize nmL o = NM at hln HN ⊢
  have HC := Lib.hid (IAt.new w o d n m imm)
  clear g hr hs hln  
  unfold insV at HC
  unfold insV
  go_enter Tryd.func13, Tryd.ntmps13
  go_wp2_with fail
  refine (rcheck_ok o d n m imm _ HG.out).mono ?_; rintro e w1 ⟨rfl, hg⟩
  have H1 := Lib.hid hg; clear hg
  obtain ⟨c0, c1, c2, c3, c4, c5, -⟩ := HC.out.kp H1.out
  go_wp2_with fail
  refine (HN.out _).mono ?_; rintro e w2 ⟨rfl, rfl⟩
  go_wp2_with fail
  refine (shape_is o _ HSH.out _ HO.out).mono ?_; rintro e w3 ⟨rfl, rfl⟩
  have HK0 := Lib.hid (HC.out.kp H1.out)
  go_wp2_with fail
  refine wp_loop_rounds 1 ?_
  rw [rounds_succ]
  go_wp2
  go_ret
  exact ⟨rfl, HK0.out.2.2.2.2.2.2⟩
set_option maxRecDepth 20000 in
set_option maxHeartbeats 2000000 in
theorem rtext_di (o : Nat) (d n m imm : Int) (w : World) (g : InsA o d n m imm) (hs : shpS o = [68, 73]) :
    Calls Tryd.prog 13 #[.agg (insV o d n m imm)] w fun e w' => e = .returned (.string (strB ((nmL o) ++ 32 :: Lib.join [120 :: (Lib.itoa d), (Lib.itoa imm)] [44]))) ∧ Kp w w' := by
  have HO : Hid (o < 19) := Lib.hid (by have := g.2.1; omega)
  have HG := Lib.hid g
  have HZ := Lib.hid g.small
  have hr := g.i8
  have d1 := hr.1.1
  have d2 := hr.1.2
  have n1 := hr.2.1.1
  have n2 := hr.2.1.2
  have m1 := hr.2.2.1
  have m2 := hr.2.2.2
  have HSH := Lib.hid hs
  have hln := nm_len o HO.out
  have HN : Hid (∀ w, Calls Tryd.prog 29 #[.int .i8 o] w fun e w' => e = .returned (.string (strB (nmL o))) ∧ w = w') := Lib.hid fun w => name_any o w HO.out
  generalize nmL o = NM at hln HN ⊢
  have hlD := itoa_len d HZ.out.1.1 HZ.out.1.2
  have hlI := itoa_len imm HZ.out.2.2.2.1 HZ.out.2.2.2.2
  have HDD := Lib.hid (fun w => digits_any d w HZ.out.1.1 HZ.out.1.2)
  have HDI := Lib.hid (fun w => digits_any imm w HZ.out.2.2.2.1 HZ.out.2.2.2.2)
  generalize hLD : Lib.itoa d = LD at hlD HDD ⊢
  generalize hLI : Lib.itoa imm = LI at hlI HDI ⊢
  obtain ⟨s1, hs1, a1⟩ := add_any (NM) [32] (by simp only [List.length_cons, List.length_nil]; omega)
  have a1 : ∀ w, (Op.stringOp .add (strB NM) ⟨#[32]⟩).run Tryd.prog w = .ok (.string s1) w := a1
  obtain ⟨s2, hs2, a2⟩ := add_any (NM ++ [32]) [120] (by simp only [List.length_append, List.length_cons, List.length_nil]; omega)
  rw [← hs1] at a2
  have a2 : ∀ w, (Op.stringOp .add s1 ⟨#[120]⟩).run Tryd.prog w = .ok (.string s2) w := a2
  obtain ⟨s3, hs3, a3⟩ := add_any (NM ++ [32] ++ [120]) LD (by simp only [List.length_append, List.length_cons, List.length_nil]; omega)
  rw [← hs2] at a3
  obtain ⟨s4, hs4, a4⟩ := add_any (NM ++ [32] ++ [120] ++ LD) [44] (by simp only [List.length_append, List.length_cons, List.length_nil]; omega)
  rw [← hs3] at a4
  have a4 : ∀ w, (Op.stringOp .add s3 ⟨#[44]⟩).run Tryd.prog w = .ok (.string s4) w := a4
  obtain ⟨s5, hs5, a5⟩ := add_any (NM ++ [32] ++ [120] ++ LD ++ [44]) LI (by simp only [List.length_append, List.length_cons, List.length_nil]; omega)
  rw [← hs4] at a5
  have HE : Hid (s5 = strB (NM ++ 32 :: Lib.join [120 :: LD, LI] [44])) := Lib.hid (by rw [hs5, join2]; simp)
  have HC := Lib.hid (IAt.new w o d n m imm)
  clear g hr hs hln hlD hLD hlI hLI hs1 hs2 hs3 hs4 hs5
  unfold insV at HC
  unfold insV
  go_enter Tryd.func13, Tryd.ntmps13
  go_wp2_with fail
  refine (rcheck_ok o d n m imm _ HG.out).mono ?_; rintro e w1 ⟨rfl, hg⟩
  have H1 := Lib.hid hg; clear hg
  obtain ⟨c0, c1, c2, c3, c4, c5, -⟩ := HC.out.kp H1.out
  go_wp2_with fail
  refine (HN.out _).mono ?_; rintro e w2 ⟨rfl, rfl⟩
  go_wp2_with fail
  refine (shape_is o _ HSH.out _ HO.out).mono ?_; rintro e w3 ⟨rfl, rfl⟩
  have HK0 := Lib.hid (HC.out.kp H1.out)
  go_wp2_with fail
  refine wp_loop_rounds 3 ?_
  rw [rounds_succ]
  go_wp2_with (go_at_call 31; refine (HDD.out _).mono ?_; rintro e y0 ⟨rfl, hg⟩; have HK1 := Lib.hid (HK0.out.kp hg); clear hg)
  rw [rounds_succ]
  clear c0 c1 c2 c3 c4 c5
  obtain ⟨c0, c1, c2, c3, c4, c5, -⟩ := HK1.out
  go_wp2_with (go_at_call 31; refine (HDI.out _).mono ?_; rintro e y1 ⟨rfl, hg⟩; have HK2 := Lib.hid (HK1.out.kp hg); clear hg)
  rw [rounds_succ]
  clear c0 c1 c2 c3 c4 c5
  obtain ⟨c0, c1, c2, c3, c4, c5, -⟩ := HK2.out
  go_wp2
  go_ret
  exact ⟨ret_str HE.out, HK2.out.2.2.2.2.2.2⟩
set_option maxRecDepth 20000 in
set_option maxHeartbeats 2000000 in
theorem rtext_dnm (o : Nat) (d n m imm : Int) (w : World) (g : InsA o d n m imm) (hs : shpS o = [68, 78, 77]) :
    Calls Tryd.prog 13 #[.agg (insV o d n m imm)] w fun e w' => e = .returned (.string (strB ((nmL o) ++ 32 :: Lib.join [120 :: (Lib.itoa d), 120 :: (Lib.itoa n), 120 :: (Lib.itoa m)] [44]))) ∧ Kp w w' := by
  have HO : Hid (o < 19) := Lib.hid (by have := g.2.1; omega)
  have HG := Lib.hid g
  have HZ := Lib.hid g.small
  have hr := g.i8
  have d1 := hr.1.1
  have d2 := hr.1.2
  have n1 := hr.2.1.1
  have n2 := hr.2.1.2
  have m1 := hr.2.2.1
  have m2 := hr.2.2.2
  have HSH := Lib.hid hs
  have hln := nm_len o HO.out
  have HN : Hid (∀ w, Calls Tryd.prog 29 #[.int .i8 o] w fun e w' => e = .returned (.string (strB (nmL o))) ∧ w = w') := Lib.hid fun w => name_any o w HO.out
  generalize nmL o = NM at hln HN ⊢
  have hlD := itoa_len d HZ.out.1.1 HZ.out.1.2
  have hlN := itoa_len n HZ.out.2.1.1 HZ.out.2.1.2
  have hlM := itoa_len m HZ.out.2.2.1.1 HZ.out.2.2.1.2
  have HDD := Lib.hid (fun w => digits_any d w HZ.out.1.1 HZ.out.1.2)
  have HDN := Lib.hid (fun w => digits_any n w HZ.out.2.1.1 HZ.out.2.1.2)
  have HDM := Lib.hid (fun w => digits_any m w HZ.out.2.2.1.1 HZ.out.2.2.1.2)
  generalize hLD : Lib.itoa d = LD at hlD HDD ⊢
  generalize hLN : Lib.itoa n = LN at hlN HDN ⊢
  generalize hLM : Lib.itoa m = LM at hlM HDM ⊢
  obtain ⟨s1, hs1, a1⟩ := add_any (NM) [32] (by simp only [List.length_cons, List.length_nil]; omega)
  have a1 : ∀ w, (Op.stringOp .add (strB NM) ⟨#[32]⟩).run Tryd.prog w = .ok (.string s1) w := a1
  obtain ⟨s2, hs2, a2⟩ := add_any (NM ++ [32]) [120] (by simp only [List.length_append, List.length_cons, List.length_nil]; omega)
  rw [← hs1] at a2
  have a2 : ∀ w, (Op.stringOp .add s1 ⟨#[120]⟩).run Tryd.prog w = .ok (.string s2) w := a2
  obtain ⟨s3, hs3, a3⟩ := add_any (NM ++ [32] ++ [120]) LD (by simp only [List.length_append, List.length_cons, List.length_nil]; omega)
  rw [← hs2] at a3
  obtain ⟨s4, hs4, a4⟩ := add_any (NM ++ [32] ++ [120] ++ LD) [44] (by simp only [List.length_append, List.length_cons, List.length_nil]; omega)
  rw [← hs3] at a4
  have a4 : ∀ w, (Op.stringOp .add s3 ⟨#[44]⟩).run Tryd.prog w = .ok (.string s4) w := a4
  obtain ⟨s5, hs5, a5⟩ := add_any (NM ++ [32] ++ [120] ++ LD ++ [44]) [120] (by simp only [List.length_append, List.length_cons, List.length_nil]; omega)
  rw [← hs4] at a5
  have a5 : ∀ w, (Op.stringOp .add s4 ⟨#[120]⟩).run Tryd.prog w = .ok (.string s5) w := a5
  obtain ⟨s6, hs6, a6⟩ := add_any (NM ++ [32] ++ [120] ++ LD ++ [44] ++ [120]) LN (by simp only [List.length_append, List.length_cons, List.length_nil]; omega)
  rw [← hs5] at a6
  obtain ⟨s7, hs7, a7⟩ := add_any (NM ++ [32] ++ [120] ++ LD ++ [44] ++ [120] ++ LN) [44] (by simp only [List.length_append, List.length_cons, List.length_nil]; omega)
  rw [← hs6] at a7
  have a7 : ∀ w, (Op.stringOp .add s6 ⟨#[44]⟩).run Tryd.prog w = .ok (.string s7) w := a7
  obtain ⟨s8, hs8, a8⟩ := add_any (NM ++ [32] ++ [120] ++ LD ++ [44] ++ [120] ++ LN ++ [44]) [120] (by simp only [List.length_append, List.length_cons, List.length_nil]; omega)
  rw [← hs7] at a8
  have a8 : ∀ w, (Op.stringOp .add s7 ⟨#[120]⟩).run Tryd.prog w = .ok (.string s8) w := a8
  obtain ⟨s9, hs9, a9⟩ := add_any (NM ++ [32] ++ [120] ++ LD ++ [44] ++ [120] ++ LN ++ [44] ++ [120]) LM (by simp only [List.length_append, List.length_cons, List.length_nil]; omega)
  rw [← hs8] at a9
  have HE : Hid (s9 = strB (NM ++ 32 :: Lib.join [120 :: LD, 120 :: LN, 120 :: LM] [44])) := Lib.hid (by rw [hs9, join3]; simp)
  have HC := Lib.hid (IAt.new w o d n m imm)
  clear g hr hs hln hlD hLD hlN hLN hlM hLM hs1 hs2 hs3 hs4 hs5 hs6 hs7 hs8 hs9
  unfold insV at HC
  unfold insV
  go_enter Tryd.func13, Tryd.ntmps13
  go_wp2_with fail
  refine (rcheck_ok o d n m imm _ HG.out).mono ?_; rintro e w1 ⟨rfl, hg⟩
  have H1 := Lib.hid hg; clear hg
  obtain ⟨c0, c1, c2, c3, c4, c5, -⟩ := HC.out.kp H1.out
  go_wp2_with fail
  refine (HN.out _).mono ?_; rintro e w2 ⟨rfl, rfl⟩
  go_wp2_with fail
  refine (shape_is o _ HSH.out _ HO.out).mono ?_; rintro e w3 ⟨rfl, rfl⟩
  have HK0 := Lib.hid (HC.out.kp H1.out)
  go_wp2_with fail
  refine wp_loop_rounds 4 ?_
  rw [rounds_succ]
  go_wp2_with (go_at_call 31; refine (HDD.out _).mono ?_; rintro e y0 ⟨rfl, hg⟩; have HK1 := Lib.hid (HK0.out.kp hg); clear hg)
  rw [rounds_succ]
  clear c0 c1 c2 c3 c4 c5
  obtain ⟨c0, c1, c2, c3, c4, c5, -⟩ := HK1.out
  go_wp2_with (go_at_call 31; refine (HDN.out _).mono ?_; rintro e y1 ⟨rfl, hg⟩; have HK2 := Lib.hid (HK1.out.kp hg); clear hg)
  rw [rounds_succ]
  clear c0 c1 c2 c3 c4 c5
  obtain ⟨c0, c1, c2, c3, c4, c5, -⟩ := HK2.out
  go_wp2_with (go_at_call 31; refine (HDM.out _).mono ?_; rintro e y2 ⟨rfl, hg⟩; have HK3 := Lib.hid (HK2.out.kp hg); clear hg)
  rw [rounds_succ]
  clear c0 c1 c2 c3 c4 c5
  obtain ⟨c0, c1, c2, c3, c4, c5, -⟩ := HK3.out
  go_wp2
  go_ret
  exact ⟨ret_str HE.out, HK3.out.2.2.2.2.2.2⟩
set_option maxRecDepth 20000 in
set_option maxHeartbeats 2000000 in
theorem rtext_dni (o : Nat) (d n m imm : Int) (w : World) (g : InsA o d n m imm) (hs : shpS o = [68, 78, 73]) :
    Calls Tryd.prog 13 #[.agg (insV o d n m imm)] w fun e w' => e = .returned (.string (strB ((nmL o) ++ 32 :: Lib.join [120 :: (Lib.itoa d), 120 :: (Lib.itoa n), (Lib.itoa imm)] [44]))) ∧ Kp w w' := by
  have HO : Hid (o < 19) := Lib.hid (by have := g.2.1; omega)
  have HG := Lib.hid g
  have HZ := Lib.hid g.small
  have hr := g.i8
  have d1 := hr.1.1
  have d2 := hr.1.2
  have n1 := hr.2.1.1
  have n2 := hr.2.1.2
  have m1 := hr.2.2.1
  have m2 := hr.2.2.2
  have HSH := Lib.hid hs
  have hln := nm_len o HO.out
  have HN : Hid (∀ w, Calls Tryd.prog 29 #[.int .i8 o] w fun e w' => e = .returned (.string (strB (nmL o))) ∧ w = w') := Lib.hid fun w => name_any o w HO.out
  generalize nmL o = NM at hln HN ⊢
  have hlD := itoa_len d HZ.out.1.1 HZ.out.1.2
  have hlN := itoa_len n HZ.out.2.1.1 HZ.out.2.1.2
  have hlI := itoa_len imm HZ.out.2.2.2.1 HZ.out.2.2.2.2
  have HDD := Lib.hid (fun w => digits_any d w HZ.out.1.1 HZ.out.1.2)
  have HDN := Lib.hid (fun w => digits_any n w HZ.out.2.1.1 HZ.out.2.1.2)
  have HDI := Lib.hid (fun w => digits_any imm w HZ.out.2.2.2.1 HZ.out.2.2.2.2)
  generalize hLD : Lib.itoa d = LD at hlD HDD ⊢
  generalize hLN : Lib.itoa n = LN at hlN HDN ⊢
  generalize hLI : Lib.itoa imm = LI at hlI HDI ⊢
  obtain ⟨s1, hs1, a1⟩ := add_any (NM) [32] (by simp only [List.length_cons, List.length_nil]; omega)
  have a1 : ∀ w, (Op.stringOp .add (strB NM) ⟨#[32]⟩).run Tryd.prog w = .ok (.string s1) w := a1
  obtain ⟨s2, hs2, a2⟩ := add_any (NM ++ [32]) [120] (by simp only [List.length_append, List.length_cons, List.length_nil]; omega)
  rw [← hs1] at a2
  have a2 : ∀ w, (Op.stringOp .add s1 ⟨#[120]⟩).run Tryd.prog w = .ok (.string s2) w := a2
  obtain ⟨s3, hs3, a3⟩ := add_any (NM ++ [32] ++ [120]) LD (by simp only [List.length_append, List.length_cons, List.length_nil]; omega)
  rw [← hs2] at a3
  obtain ⟨s4, hs4, a4⟩ := add_any (NM ++ [32] ++ [120] ++ LD) [44] (by simp only [List.length_append, List.length_cons, List.length_nil]; omega)
  rw [← hs3] at a4
  have a4 : ∀ w, (Op.stringOp .add s3 ⟨#[44]⟩).run Tryd.prog w = .ok (.string s4) w := a4
  obtain ⟨s5, hs5, a5⟩ := add_any (NM ++ [32] ++ [120] ++ LD ++ [44]) [120] (by simp only [List.length_append, List.length_cons, List.length_nil]; omega)
  rw [← hs4] at a5
  have a5 : ∀ w, (Op.stringOp .add s4 ⟨#[120]⟩).run Tryd.prog w = .ok (.string s5) w := a5
  obtain ⟨s6, hs6, a6⟩ := add_any (NM ++ [32] ++ [120] ++ LD ++ [44] ++ [120]) LN (by simp only [List.length_append, List.length_cons, List.length_nil]; omega)
  rw [← hs5] at a6
  obtain ⟨s7, hs7, a7⟩ := add_any (NM ++ [32] ++ [120] ++ LD ++ [44] ++ [120] ++ LN) [44] (by simp only [List.length_append, List.length_cons, List.length_nil]; omega)
  rw [← hs6] at a7
  have a7 : ∀ w, (Op.stringOp .add s6 ⟨#[44]⟩).run Tryd.prog w = .ok (.string s7) w := a7
  obtain ⟨s8, hs8, a8⟩ := add_any (NM ++ [32] ++ [120] ++ LD ++ [44] ++ [120] ++ LN ++ [44]) LI (by simp only [List.length_append, List.length_cons, List.length_nil]; omega)
  rw [← hs7] at a8
  have HE : Hid (s8 = strB (NM ++ 32 :: Lib.join [120 :: LD, 120 :: LN, LI] [44])) := Lib.hid (by rw [hs8, join3]; simp)
  have HC := Lib.hid (IAt.new w o d n m imm)
  clear g hr hs hln hlD hLD hlN hLN hlI hLI hs1 hs2 hs3 hs4 hs5 hs6 hs7 hs8
  unfold insV at HC
  unfold insV
  go_enter Tryd.func13, Tryd.ntmps13
  go_wp2_with fail
  refine (rcheck_ok o d n m imm _ HG.out).mono ?_; rintro e w1 ⟨rfl, hg⟩
  have H1 := Lib.hid hg; clear hg
  obtain ⟨c0, c1, c2, c3, c4, c5, -⟩ := HC.out.kp H1.out
  go_wp2_with fail
  refine (HN.out _).mono ?_; rintro e w2 ⟨rfl, rfl⟩
  go_wp2_with fail
  refine (shape_is o _ HSH.out _ HO.out).mono ?_; rintro e w3 ⟨rfl, rfl⟩
  have HK0 := Lib.hid (HC.out.kp H1.out)
  go_wp2_with fail
  refine wp_loop_rounds 4 ?_
  rw [rounds_succ]
  go_wp2_with (go_at_call 31; refine (HDD.out _).mono ?_; rintro e y0 ⟨rfl, hg⟩; have HK1 := Lib.hid (HK0.out.kp hg); clear hg)
  rw [rounds_succ]
  clear c0 c1 c2 c3 c4 c5
  obtain ⟨c0, c1, c2, c3, c4, c5, -⟩ := HK1.out
  go_wp2_with (go_at_call 31; refine (HDN.out _).mono ?_; rintro e y1 ⟨rfl, hg⟩; have HK2 := Lib.hid (HK1.out.kp hg); clear hg)
  rw [rounds_succ]
  clear c0 c1 c2 c3 c4 c5
  obtain ⟨c0, c1, c2, c3, c4, c5, -⟩ := HK2.out
  go_wp2_with (go_at_call 31; refine (HDI.out _).mono ?_; rintro e y2 ⟨rfl, hg⟩; have HK3 := Lib.hid (HK2.out.kp hg); clear hg)
  rw [rounds_succ]
  clear c0 c1 c2 c3 c4 c5
  obtain ⟨c0, c1, c2, c3, c4, c5, -⟩ := HK3.out
  go_wp2
  go_ret
  exact ⟨ret_str HE.out, HK3.out.2.2.2.2.2.2⟩
set_option maxRecDepth 20000 in
set_option maxHeartbeats 2000000 in
theorem rtext_dn (o : Nat) (d n m imm : Int) (w : World) (g : InsA o d n m imm) (hs : shpS o = [68, 78]) :
    Calls Tryd.prog 13 #[.agg (insV o d n m imm)] w fun e w' => e = .returned (.string (strB ((nmL o) ++ 32 :: Lib.join [120 :: (Lib.itoa d), 120 :: (Lib.itoa n)] [44]))) ∧ Kp w w' := by
  have HO : Hid (o < 19) := Lib.hid (by have := g.2.1; omega)
  have HG := Lib.hid g
  have HZ := Lib.hid g.small
  have hr := g.i8
  have d1 := hr.1.1
  have d2 := hr.1.2
  have n1 := hr.2.1.1
  have n2 := hr.2.1.2
  have m1 := hr.2.2.1
  have m2 := hr.2.2.2
  have HSH := Lib.hid hs
  have hln := nm_len o HO.out
  have HN : Hid (∀ w, Calls Tryd.prog 29 #[.int .i8 o] w fun e w' => e = .returned (.string (strB (nmL o))) ∧ w = w') := Lib.hid fun w => name_any o w HO.out
  generalize nmL o = NM at hln HN ⊢
  have hlD := itoa_len d HZ.out.1.1 HZ.out.1.2
  have hlN := itoa_len n HZ.out.2.1.1 HZ.out.2.1.2
  have HDD := Lib.hid (fun w => digits_any d w HZ.out.1.1 HZ.out.1.2)
  have HDN := Lib.hid (fun w => digits_any n w HZ.out.2.1.1 HZ.out.2.1.2)
  generalize hLD : Lib.itoa d = LD at hlD HDD ⊢
  generalize hLN : Lib.itoa n = LN at hlN HDN ⊢
  obtain ⟨s1, hs1, a1⟩ := add_any (NM) [32] (by simp only [List.length_cons, List.length_nil]; omega)
  have a1 : ∀ w, (Op.stringOp .add (strB NM) ⟨#[32]⟩).run Tryd.prog w = .ok (.string s1) w := a1
  obtain ⟨s2, hs2, a2⟩ := add_any (NM ++ [32]) [120] (by simp only [List.length_append, List.length_cons, List.length_nil]; omega)
  rw [← hs1] at a2
  have a2 : ∀ w, (Op.stringOp .add s1 ⟨#[120]⟩).run Tryd.prog w = .ok (.string s2) w := a2
  obtain ⟨s3, hs3, a3⟩ := add_any (NM ++ [32] ++ [120]) LD (by simp only [List.length_append, List.length_cons, List.length_nil]; omega)
  rw [← hs2] at a3
  obtain ⟨s4, hs4, a4⟩ := add_any (NM ++ [32] ++ [120] ++ LD) [44] (by simp only [List.length_append, List.length_cons, List.length_nil]; omega)
  rw [← hs3] at a4
  have a4 : ∀ w, (Op.stringOp .add s3 ⟨#[44]⟩).run Tryd.prog w = .ok (.string s4) w := a4
  obtain ⟨s5, hs5, a5⟩ := add_any (NM ++ [32] ++ [120] ++ LD ++ [44]) [120] (by simp only [List.length_append, List.length_cons, List.length_nil]; omega)
  rw [← hs4] at a5
  have a5 : ∀ w, (Op.stringOp .add s4 ⟨#[120]⟩).run Tryd.prog w = .ok (.string s5) w := a5
  obtain ⟨s6, hs6, a6⟩ := add_any (NM ++ [32] ++ [120] ++ LD ++ [44] ++ [120]) LN (by simp only [List.length_append, List.length_cons, List.length_nil]; omega)
  rw [← hs5] at a6
  have HE : Hid (s6 = strB (NM ++ 32 :: Lib.join [120 :: LD, 120 :: LN] [44])) := Lib.hid (by rw [hs6, join2]; simp)
  have HC := Lib.hid (IAt.new w o d n m imm)
  clear g hr hs hln hlD hLD hlN hLN hs1 hs2 hs3 hs4 hs5 hs6
  unfold insV at HC
  unfold insV
  go_enter Tryd.func13, Tryd.ntmps13
  go_wp2_with fail
  refine (rcheck_ok o d n m imm _ HG.out).mono ?_; rintro e w1 ⟨rfl, hg⟩
  have H1 := Lib.hid hg; clear hg
  obtain ⟨c0, c1, c2, c3, c4, c5, -⟩ := HC.out.kp H1.out
  go_wp2_with fail
  refine (HN.out _).mono ?_; rintro e w2 ⟨rfl, rfl⟩
  go_wp2_with fail
  refine (shape_is o _ HSH.out _ HO.out).mono ?_; rintro e w3 ⟨rfl, rfl⟩
  have HK0 := Lib.hid (HC.out.kp H1.out)
  go_wp2_with fail
  refine wp_loop_rounds 3 ?_
  rw [rounds_succ]
  go_wp2_with (go_at_call 31; refine (HDD.out _).mono ?_; rintro e y0 ⟨rfl, hg⟩; have HK1 := Lib.hid (HK0.out.kp hg); clear hg)
  rw [rounds_succ]
  clear c0 c1 c2 c3 c4 c5
  obtain ⟨c0, c1, c2, c3, c4, c5, -⟩ := HK1.out
  go_wp2_with (go_at_call 31; refine (HDN.out _).mono ?_; rintro e y1 ⟨rfl, hg⟩; have HK2 := Lib.hid (HK1.out.kp hg); clear hg)
  rw [rounds_succ]
  clear c0 c1 c2 c3 c4 c5
  obtain ⟨c0, c1, c2, c3, c4, c5, -⟩ := HK2.out
  go_wp2
  go_ret
  exact ⟨ret_str HE.out, HK2.out.2.2.2.2.2.2⟩
set_option maxRecDepth 20000 in
set_option maxHeartbeats 2000000 in
theorem rtext_i (o : Nat) (d n m imm : Int) (w : World) (g : InsA o d n m imm) (hs : shpS o = [73]) :
    Calls Tryd.prog 13 #[.agg (insV o d n m imm)] w fun e w' => e = .returned (.string (strB ((nmL o) ++ 32 :: Lib.join [(Lib.itoa imm)] [44]))) ∧ Kp w w' := by
  have HO : Hid (o < 19) := Lib.hid (by have := g.2.1; omega)
  have HG := Lib.hid g
  have HZ := Lib.hid g.small
  have hr := g.i8
  have d1 := hr.1.1
  have d2 := hr.1.2
  have n1 := hr.2.1.1
  have n2 := hr.2.1.2
  have m1 := hr.2.2.1
  have m2 := hr.2.2.2
  have HSH := Lib.hid hs
  have hln := nm_len o HO.out
  have HN : Hid (∀ w, Calls Tryd.prog 29 #[.int .i8 o] w fun e w' => e = .returned (.string (strB (nmL o))) ∧ w = w') := Lib.hid fun w => name_any o w HO.out
  generalize nmL o = NM at hln HN ⊢
  have hlI := itoa_len imm HZ.out.2.2.2.1 HZ.out.2.2.2.2
  have HDI := Lib.hid (fun w => digits_any imm w HZ.out.2.2.2.1 HZ.out.2.2.2.2)
  generalize hLI : Lib.itoa imm = LI at hlI HDI ⊢
  obtain ⟨s1, hs1, a1⟩ := add_any (NM) [32] (by simp only [List.length_cons, List.length_nil]; omega)
  have a1 : ∀ w, (Op.stringOp .add (strB NM) ⟨#[32]⟩).run Tryd.prog w = .ok (.string s1) w := a1
  obtain ⟨s2, hs2, a2⟩ := add_any (NM ++ [32]) LI (by simp only [List.length_append, List.length_cons, List.length_nil]; omega)
  rw [← hs1] at a2
  have HE : Hid (s2 = strB (NM ++ 32 :: Lib.join [LI] [44])) := Lib.hid (by rw [hs2, Lib.join_one]; simp)
  have HC := Lib.hid (IAt.new w o d n m imm)
  clear g hr hs hln hlI hLI hs1 hs2
  unfold insV at HC
  unfold insV
  go_enter Tryd.func13, Tryd.ntmps13
  go_wp2_with fail
  refine (rcheck_ok o d n m imm _ HG.out).mono ?_; rintro e w1 ⟨rfl, hg⟩
  have H1 := Lib.hid hg; clear hg
  obtain ⟨c0, c1, c2, c3, c4, c5, -⟩ := HC.out.kp H1.out
  go_wp2_with fail
  refine (HN.out _).mono ?_; rintro e w2 ⟨rfl, rfl⟩
  go_wp2_with fail
  refine (shape_is o _ HSH.out _ HO.out).mono ?_; rintro e w3 ⟨rfl, rfl⟩
  have HK0 := Lib.hid (HC.out.kp H1.out)
  go_wp2_with fail
  refine wp_loop_rounds 2 ?_
  rw [rounds_succ]
  go_wp2_with (go_at_call 31; refine (HDI.out _).mono ?_; rintro e y0 ⟨rfl, hg⟩; have HK1 := Lib.hid (HK0.out.kp hg); clear hg)
  rw [rounds_succ]
  clear c0 c1 c2 c3 c4 c5
  obtain ⟨c0, c1, c2, c3, c4, c5, -⟩ := HK1.out
  go_wp2
  go_ret
  exact ⟨ret_str HE.out, HK1.out.2.2.2.2.2.2⟩
theorem shape_cases (o : Nat) (ho : o < 19) : shpS o = [] ∨ shpS o = [68, 73] ∨ shpS o = [68, 78, 77] ∨ shpS o = [68, 78, 73] ∨ shpS o = [68, 78] ∨ shpS o = [73] :=
  ops19 (P := fun o => shpS o = [] ∨ shpS o = [68, 73] ∨ shpS o = [68, 78, 77] ∨ shpS o = [68, 78, 73] ∨ shpS o = [68, 78] ∨ shpS o = [73]) (by decide) o ho
theorem shape_bits (o : Nat) (ho : o < 19) : (shpS o = [] → fD o = false ∧ fN o = false ∧ fM o = false ∧ fWd o = 0) ∧ (shpS o = [68, 73] → fD o = true ∧ fN o = false ∧ fM o = false ∧ fWd o ≠ 0) ∧ (shpS o = [68, 78, 77] → fD o = true ∧ fN o = true ∧ fM o = true ∧ fWd o = 0) ∧ (shpS o = [68, 78, 73] → fD o = true ∧ fN o = true ∧ fM o = false ∧ fWd o ≠ 0) ∧ (shpS o = [68, 78] → fD o = true ∧ fN o = true ∧ fM o = false ∧ fWd o = 0) ∧ (shpS o = [73] → fD o = false ∧ fN o = false ∧ fM o = false ∧ fWd o ≠ 0) :=
  ops19 (P := fun o => (shpS o = [] → fD o = false ∧ fN o = false ∧ fM o = false ∧ fWd o = 0) ∧ (shpS o = [68, 73] → fD o = true ∧ fN o = false ∧ fM o = false ∧ fWd o ≠ 0) ∧ (shpS o = [68, 78, 77] → fD o = true ∧ fN o = true ∧ fM o = true ∧ fWd o = 0) ∧ (shpS o = [68, 78, 73] → fD o = true ∧ fN o = true ∧ fM o = false ∧ fWd o ≠ 0) ∧ (shpS o = [68, 78] → fD o = true ∧ fN o = true ∧ fM o = false ∧ fWd o = 0) ∧ (shpS o = [73] → fD o = false ∧ fN o = false ∧ fM o = false ∧ fWd o ≠ 0)) (by decide) o ho
theorem txtO_n {o : Nat} (d n m imm : Int) (h : fD o = false ∧ fN o = false ∧ fM o = false ∧ fWd o = 0) : txtO o d n m imm = nmL o := by
  unfold txtO prtL; rw [h.1, h.2.1, h.2.2.1, h.2.2.2]; simp [tailL]
theorem txtO_di {o : Nat} (d n m imm : Int) (h : fD o = true ∧ fN o = false ∧ fM o = false ∧ fWd o ≠ 0) : txtO o d n m imm = nmL o ++ 32 :: Lib.join [120 :: Lib.itoa d, Lib.itoa imm] [44] := by
  unfold txtO prtL; rw [h.1, h.2.1, h.2.2.1, if_neg h.2.2.2]; simp [tailL]
theorem txtO_dnm {o : Nat} (d n m imm : Int) (h : fD o = true ∧ fN o = true ∧ fM o = true ∧ fWd o = 0) : txtO o d n m imm = nmL o ++ 32 :: Lib.join [120 :: Lib.itoa d, 120 :: Lib.itoa n, 120 :: Lib.itoa m] [44] := by
  unfold txtO prtL; rw [h.1, h.2.1, h.2.2.1, h.2.2.2]; simp [tailL]
theorem txtO_dni {o : Nat} (d n m imm : Int) (h : fD o = true ∧ fN o = true ∧ fM o = false ∧ fWd o ≠ 0) : txtO o d n m imm = nmL o ++ 32 :: Lib.join [120 :: Lib.itoa d, 120 :: Lib.itoa n, Lib.itoa imm] [44] := by
  unfold txtO prtL; rw [h.1, h.2.1, h.2.2.1, if_neg h.2.2.2]; simp [tailL]
theorem txtO_dn {o : Nat} (d n m imm : Int) (h : fD o = true ∧ fN o = true ∧ fM o = false ∧ fWd o = 0) : txtO o d n m imm = nmL o ++ 32 :: Lib.join [120 :: Lib.itoa d, 120 :: Lib.itoa n] [44] := by
  unfold txtO prtL; rw [h.1, h.2.1, h.2.2.1, h.2.2.2]; simp [tailL]
theorem txtO_i {o : Nat} (d n m imm : Int) (h : fD o = false ∧ fN o = false ∧ fM o = false ∧ fWd o ≠ 0) : txtO o d n m imm = nmL o ++ 32 :: Lib.join [Lib.itoa imm] [44] := by
  unfold txtO prtL; rw [h.1, h.2.1, h.2.2.1, if_neg h.2.2.2]; simp [tailL]
theorem rtext_any (op d n m imm : Int) (w : World) :
    Calls Tryd.prog 13 #[.agg (insV op d n m imm)] w fun e w' => e = .returned (.string (strB (txtL op d n m imm))) ∧ Kp w w' := by
  by_cases h : InsA op d n m imm
  · rw [show txtL op d n m imm = txtO op.toNat d n m imm from if_pos h]
    obtain ⟨o, rfl⟩ := Int.eq_ofNat_of_zero_le h.1
    rw [Int.toNat_natCast]
    have ho : o < 19 := by have := h.2.1; omega
    obtain ⟨b1, b2, b3, b4, b5, b6⟩ := shape_bits o ho
    rcases shape_cases o ho with hs | hs | hs | hs | hs | hs
    · rw [txtO_n _ _ _ _ (b1 hs)]; exact rtext_n o d n m imm w h hs
    · rw [txtO_di _ _ _ _ (b2 hs)]; exact rtext_di o d n m imm w h hs
    · rw [txtO_dnm _ _ _ _ (b3 hs)]; exact rtext_dnm o d n m imm w h hs
    · rw [txtO_dni _ _ _ _ (b4 hs)]; exact rtext_dni o d n m imm w h hs
    · rw [txtO_dn _ _ _ _ (b5 hs)]; exact rtext_dn o d n m imm w h hs
    · rw [txtO_i _ _ _ _ (b6 hs)]; exact rtext_i o d n m imm w h hs
  · rw [show txtL op d n m imm = [98, 97, 100] from if_neg h]
    have HI := Lib.hid h
    unfold insV
    clear h
    go_enter Tryd.func13, Tryd.ntmps13
    go_wp2_with fail
    refine (rcheck_bad op d n m imm _ HI.out).mono ?_; rintro e w1 ⟨rfl, hg⟩
    have H1 := Lib.hid hg; clear hg
    go_wp2
    go_ret
    exact ⟨rfl, (by (repeat (first | apply Kp.drew | apply Kp.alloc)); refine Kp.trans ?_ H1.out; (repeat (first | apply Kp.drew | apply Kp.alloc)); exact Kp.refl _)⟩
end Go.Proofs.YtfbkppncaampdaaDoor
