/-
  Words and instructions, there and back: plain arithmetic. No condition.
-/
import Derived.Test.YtfbkppncaampdaaDoorDecM07
import Derived.Test.YtfbkppncaampdaaDoorEnc07
namespace Go.Proofs.YtfbkppncaampdaaDoor
open Go Go.RowKit

theorem rdI_mod (o W : Nat) (ho : o < 19) : (rdI o W % 2 ^ fWd o).toNat = rdU o W := by
  obtain rfl | rfl | rfl | rfl | rfl | rfl | rfl | rfl | rfl | rfl | rfl | rfl | rfl | rfl | rfl | rfl | rfl | rfl | rfl : o = 0 ∨ o = 1 ∨ o = 2 ∨ o = 3 ∨ o = 4 ∨ o = 5 ∨ o = 6 ∨ o = 7 ∨ o = 8 ∨ o = 9 ∨ o = 10 ∨ o = 11 ∨ o = 12 ∨ o = 13 ∨ o = 14 ∨ o = 15 ∨ o = 16 ∨ o = 17 ∨ o = 18 := by omega
  all_goals
    simp [rdI, rdU, getN, fS, fLo, fWd, fsL, floL, fwdL]
    omega
theorem rdI_pos (W : Nat) : 0 ≤ rdI 7 W ∧ rdI 7 W < 4096 := by
  simp [rdI, getN, fS, fLo, fWd, fsL, floL, fwdL]
  omega
theorem dec_row (o W : Nat) (ho : o < 18) (hW : W < 4294967296) (hm : W &&& mkN o = fW o) (hc : InsA o (rdD o W) (rdN o W) (rdM o W) (rdI o W)) : OkA o (rdD o W) (rdN o W) (rdM o W) (rdI o W) ∧ encN o (rdD o W) (rdN o W) (rdM o W) (rdI o W) = W := by
  refine ⟨⟨hc, by omega⟩, ?_⟩
  have hs := split_word o W (by omega) hW
  have hn : ¬ ((o : Int) = 7 ∧ rdI o W < 0) := fun h => by
    obtain rfl : o = 7 := by omega
    have := (rdI_pos W).1
    omega
  rw [show encN (o : Int) (rdD o W) (rdN o W) (rdM o W) (rdI o W) = encF o (rdD o W) (rdN o W) (rdM o W) (rdI o W) from (if_neg hn).trans (by rw [Int.toNat_natCast])]
  unfold encF
  rw [rdI_mod o W (by omega), Int.toNat_natCast, Int.toNat_natCast, Int.toNat_natCast]
  omega
theorem dec_low (W : Nat) (hW : W < 4294967296) (hm : W &&& mkN 7 = 3506438144) (h0 : rdI 7 W ≠ 0) (hc : InsA 7 (rdD 7 W) (rdN 7 W) (rdM 7 W) (-rdI 7 W)) : OkA 7 (rdD 7 W) (rdN 7 W) (rdM 7 W) (-rdI 7 W) ∧ encN 7 (rdD 7 W) (rdN 7 W) (rdM 7 W) (-rdI 7 W) = W := by
  refine ⟨⟨hc, by decide⟩, ?_⟩
  have hs := split_word 7 W (by decide) hW
  have hp := (rdI_pos W).1
  rw [show encN 7 (rdD 7 W) (rdN 7 W) (rdM 7 W) (-rdI 7 W) = encF 7 (rdD 7 W) (rdN 7 W) (rdM 7 W) (- -rdI 7 W) + 1073741824 from if_pos ⟨rfl, by omega⟩, Int.neg_neg]
  unfold encF
  rw [rdI_mod 7 W (by decide), Int.toNat_natCast, Int.toNat_natCast, Int.toNat_natCast]
  have e : fW 7 = 2432696320 := rfl
  omega
theorem enc_row (o : Nat) (d n m imm : Int) (g : InsA o d n m imm) (hn : ¬ (o = 7 ∧ imm < 0)) (h18 : o ≠ 18) : encF o d n m imm < 4294967296 ∧ rdD o (encF o d n m imm) = d ∧ rdN o (encF o d n m imm) = n ∧ rdM o (encF o d n m imm) = m ∧ rdI o (encF o d n m imm) = imm := by
  obtain ⟨g0, g1, ⟨i0, i1⟩, h1, h2, h3⟩ := g
  rw [Int.toNat_natCast] at i0 i1 h1 h2 h3
  obtain ⟨D, rfl, hD, zD⟩ := mayR_of h1
  obtain ⟨N, rfl, hN, zN⟩ := mayR_of h2
  obtain ⟨M, rfl, hM, zM⟩ := mayR_of h3
  clear h1 h2 h3
  obtain rfl | rfl | rfl | rfl | rfl | rfl | rfl | rfl | rfl | rfl | rfl | rfl | rfl | rfl | rfl | rfl | rfl | rfl : o = 0 ∨ o = 1 ∨ o = 2 ∨ o = 3 ∨ o = 4 ∨ o = 5 ∨ o = 6 ∨ o = 7 ∨ o = 8 ∨ o = 9 ∨ o = 10 ∨ o = 11 ∨ o = 12 ∨ o = 13 ∨ o = 14 ∨ o = 15 ∨ o = 16 ∨ o = 17 := by omega
  all_goals
    simp [uD, uN, uM, uDL, uNL, uML, loI, hiI, loL, hiL] at zD zN zM i0 i1 hn
    simp [encF, rdD, rdN, rdM, rdI, getN, fW, fD, fN, fM, fS, fLo, fWd, fwL, fdL, fnL, fmL, fsL, floL, fwdL]
    omega
theorem enc_match (o : Nat) (d n m imm : Int) (g : InsA o d n m imm) (hn : ¬ (o = 7 ∧ imm < 0)) (h18 : o ≠ 18) : encF o d n m imm &&& mkN o = fW o := by
  have ho : o < 19 := by have := g.2.1; omega
  obtain ⟨e0, e1, e2, e3, e4⟩ := enc_row o d n m imm g hn h18
  have hs := split_word o _ ho e0
  have hu := rdI_mod o (encF o d n m imm) ho
  rw [e4] at hu
  have hf : encF o d n m imm = fW o + d.toNat + 32 * n.toNat + 65536 * m.toNat + 2 ^ fLo o * (imm % 2 ^ fWd o).toNat := rfl
  rw [hu] at hf
  omega
theorem enc_low (d n m imm : Int) (g : InsA 7 d n m imm) (hi : imm < 0) : encF 7 d n m (-imm) + 1073741824 < 4294967296 ∧ rdD 7 (encF 7 d n m (-imm) + 1073741824) = d ∧ rdN 7 (encF 7 d n m (-imm) + 1073741824) = n ∧ rdM 7 (encF 7 d n m (-imm) + 1073741824) = m ∧ rdI 7 (encF 7 d n m (-imm) + 1073741824) = -imm := by
  obtain ⟨g0, g1, ⟨i0, i1⟩, h1, h2, h3⟩ := g
  obtain ⟨D, rfl, hD, zD⟩ := mayR_of h1
  obtain ⟨N, rfl, hN, zN⟩ := mayR_of h2
  obtain ⟨M, rfl, hM, zM⟩ := mayR_of h3
  clear h1 h2 h3
  simp [uD, uN, uM, uDL, uNL, uML, loI, hiI, loL, hiL] at zD zN zM i0 i1
  simp [encF, rdD, rdN, rdM, rdI, getN, fW, fD, fN, fM, fS, fLo, fWd, fwL, fdL, fnL, fmL, fsL, floL, fwdL]
  omega
theorem enc_lmatch (d n m imm : Int) (g : InsA 7 d n m imm) (hi : imm < 0) : (encF 7 d n m (-imm) + 1073741824) &&& mkN 7 = 3506438144 := by
  obtain ⟨e0, e1, e2, e3, e4⟩ := enc_low d n m imm g hi
  have hs := split_word 7 _ (by decide) e0
  have hu := rdI_mod 7 (encF 7 d n m (-imm) + 1073741824) (by decide)
  rw [e4] at hu
  have hf : encF 7 d n m (-imm) = 2432696320 + d.toNat + 32 * n.toNat + 65536 * m.toNat + 2 ^ fLo 7 * (-imm % 2 ^ fWd 7).toNat := rfl
  rw [hu] at hf
  omega
/-! Rows: the ops' own, then that of InAddi below 0. -/
def rowM (k : Nat) : Nat := if k < 18 then mkN k else mkN 7
def rowW (k : Nat) : Nat := if k < 18 then fW k else 3506438144
theorem rows_apart (a b : Nat) (ha : a < 19) (hb : b < 19) (W : Nat) (h1 : W &&& rowM a = rowW a) (h2 : W &&& rowM b = rowW b) : a = b := by
  have e : rowW a &&& rowM b = rowW b &&& rowM a := by
    rw [← h1, ← h2, Nat.and_assoc, Nat.and_assoc, Nat.and_comm (rowM a)]
  have key : ∀ a b : Fin 19, rowW a.val &&& rowM b.val = rowW b.val &&& rowM a.val → a = b := by decide +kernel
  exact congrArg Fin.val (key ⟨a, ha⟩ ⟨b, hb⟩ e)
/-- The row of an instruction, and that it reads it. -/
def rowOf (op imm : Int) : Nat := if op = 7 ∧ imm < 0 then 18 else op.toNat
theorem encN_row (op d n m imm : Int) (h : OkA op d n m imm) : rowOf op imm < 19 ∧ encN op d n m imm < 4294967296 ∧ encN op d n m imm &&& rowM (rowOf op imm) = rowW (rowOf op imm) := by
  obtain ⟨g, h18⟩ := h
  by_cases c : op = 7 ∧ imm < 0
  · obtain ⟨rfl, hi⟩ := c
    rw [show rowOf 7 imm = 18 from if_pos ⟨rfl, hi⟩, show encN 7 d n m imm = encF 7 d n m (-imm) + 1073741824 from if_pos ⟨rfl, hi⟩]
    exact ⟨by decide, (enc_low d n m imm g hi).1, enc_lmatch d n m imm g hi⟩
  · obtain ⟨o, rfl⟩ := Int.eq_ofNat_of_zero_le g.1
    have ho : o < 18 := by have := g.2.1; omega
    rw [show rowOf (o : Int) imm = o from (if_neg c).trans (Int.toNat_natCast o), show encN (o : Int) d n m imm = encF o d n m imm from (if_neg c).trans (by rw [Int.toNat_natCast]), show rowM o = mkN o from if_pos ho, show rowW o = fW o from if_pos ho]
    exact ⟨by omega, (enc_row o d n m imm g (by omega) (by omega)).1, enc_match o d n m imm g (by omega) (by omega)⟩
/-- What a word is. -/
def DecOk (W : Nat) (op d n m imm : Int) : Prop := (OkA op d n m imm ∧ encN op d n m imm = W) ∨ ((op = 18 ∧ d = 0 ∧ n = 0 ∧ m = 0 ∧ imm = 0) ∧ ∀ op d n m imm, OkA op d n m imm → encN op d n m imm ≠ W)
theorem enc_inj {op d n m imm op' d' n' m' imm' : Int} (h : OkA op d n m imm) (h' : OkA op' d' n' m' imm') (e : encN op d n m imm = encN op' d' n' m' imm') : op = op' ∧ d = d' ∧ n = n' ∧ m = m' ∧ imm = imm' := by
  obtain ⟨a0, a1, a2⟩ := encN_row _ _ _ _ _ h
  obtain ⟨b0, b1, b2⟩ := encN_row _ _ _ _ _ h'
  rw [← e] at b2
  have hr := rows_apart _ _ a0 b0 _ a2 b2
  obtain ⟨g, h18⟩ := h
  obtain ⟨g', h18'⟩ := h'
  by_cases c : op = 7 ∧ imm < 0
  · obtain ⟨rfl, hi⟩ := c
    by_cases c' : op' = 7 ∧ imm' < 0
    · obtain ⟨rfl, hi'⟩ := c'
      rw [show encN 7 d n m imm = encF 7 d n m (-imm) + 1073741824 from if_pos ⟨rfl, hi⟩, show encN 7 d' n' m' imm' = encF 7 d' n' m' (-imm') + 1073741824 from if_pos ⟨rfl, hi'⟩] at e
      obtain ⟨_, e1, e2, e3, e4⟩ := enc_low d n m imm g hi
      obtain ⟨_, f1, f2, f3, f4⟩ := enc_low d' n' m' imm' g' hi'
      rw [← e] at f1 f2 f3 f4
      refine ⟨rfl, ?_, ?_, ?_, ?_⟩ <;> omega
    · rw [show rowOf 7 imm = 18 from if_pos ⟨rfl, hi⟩, show rowOf op' imm' = op'.toNat from if_neg c'] at hr
      have := g'.2.1
      omega
  · by_cases c' : op' = 7 ∧ imm' < 0
    · rw [show rowOf op imm = op.toNat from if_neg c, show rowOf op' imm' = 18 from if_pos c'] at hr
      have := g.2.1
      omega
    · rw [show rowOf op imm = op.toNat from if_neg c, show rowOf op' imm' = op'.toNat from if_neg c'] at hr
      have q0 := g.1
      have q1 := g'.1
      obtain rfl : op = op' := by omega
      obtain ⟨o, rfl⟩ := Int.eq_ofNat_of_zero_le q0
      rw [show encN (o : Int) d n m imm = encF o d n m imm from (if_neg c).trans (by rw [Int.toNat_natCast]), show encN (o : Int) d' n' m' imm' = encF o d' n' m' imm' from (if_neg c').trans (by rw [Int.toNat_natCast])] at e
      obtain ⟨_, e1, e2, e3, e4⟩ := enc_row o d n m imm g (by omega) (by omega)
      obtain ⟨_, f1, f2, f3, f4⟩ := enc_row o d' n' m' imm' g' (by omega) (by omega)
      rw [← e] at f1 f2 f3 f4
      refine ⟨rfl, ?_, ?_, ?_, ?_⟩ <;> omega
theorem dec_one {W : Nat} {op d n m imm op' d' n' m' imm' : Int} (h : DecOk W op d n m imm) (h' : DecOk W op' d' n' m' imm') : op = op' ∧ d = d' ∧ n = n' ∧ m = m' ∧ imm = imm' := by
  rcases h with ⟨h, e⟩ | ⟨⟨rfl, rfl, rfl, rfl, rfl⟩, h⟩
  · rcases h' with ⟨h', e'⟩ | ⟨_, h'⟩
    · exact enc_inj h h' (e.trans e'.symm)
    · exact absurd e (h' _ _ _ _ _ h)
  · rcases h' with ⟨h', e'⟩ | ⟨⟨rfl, rfl, rfl, rfl, rfl⟩, h'⟩
    · exact absurd e' (h _ _ _ _ _ h')
    · exact ⟨rfl, rfl, rfl, rfl, rfl⟩
end Go.Proofs.YtfbkppncaampdaaDoor
