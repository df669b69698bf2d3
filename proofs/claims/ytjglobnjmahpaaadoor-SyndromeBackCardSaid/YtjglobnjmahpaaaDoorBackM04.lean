/-
  Facts for SyndromeBack: two syndromes compared; no two have the same words, nor the same text. No condition.
-/
import Derived.Test.YtjglobnjmahpaaaDoorSynDcd
import Derived.Test.YtjglobnjmahpaaaDoorWakes04
namespace Go.Proofs.YtjglobnjmahpaaaDoor
open Go Go.RowKit

theorem equal_syn (c f l a c' f' l' a' : Int) (st st' : Bool) (w : World) :
    (Op.equalIn 10000 25 (.agg #[.int .i8 c, .bool st, .int .i8 f, .int .i8 l, .int .u64 a]) (.agg #[.int .i8 c', .bool st', .int .i8 f', .int .i8 l', .int .u64 a'])).run Tryd.prog w
      = .ok (decide (c = c' ∧ st = st' ∧ f = f' ∧ l = l' ∧ a = a')) w := by
  by_cases h0 : c = c'
  · subst h0
    by_cases h1 : st = st'
    · subst h1
      by_cases h2 : f = f'
      · subst h2
        by_cases h3 : l = l'
        · subst h3
          by_cases h4 : a = a'
          · subst h4
            go_simp
          · go_simp
        · go_simp
      · go_simp
    · go_simp
  · go_simp
theorem words_one {c f l a c' f' l' a' : Int} {st st' : Bool} (h : SOk c st f l a) (h' : SOk c' st' f' l' a') (he : encW c st f l a = encW c' st' f' l' a') (ha : encA c st f l a = encA c' st' f' l' a') :
    c = c' ∧ st = st' ∧ f = f' ∧ l = l' ∧ a = a' := by
  obtain ⟨e1, e2⟩ := enc_yes h
  obtain ⟨e3, e4⟩ := enc_yes h'
  rw [e1, e3] at he
  rw [e2, e4] at ha
  have hq := esr_inj _ (mem_of_ok h).1 _ (mem_of_ok h').1 (by show esrN c.toNat st f l = esrN c'.toNat st' f' l'; omega)
  simp only [Prod.mk.injEq] at hq
  exact ⟨hq.1, hq.2.1, hq.2.2.1, hq.2.2.2, ha⟩
theorem split_at {x : UInt8} : ∀ {a a' b b' : List UInt8}, x ∉ a → x ∉ a' → a ++ x :: b = a' ++ x :: b' → a = a' ∧ b = b'
  | [], [], b, b', _, _, h => ⟨rfl, by simpa using h⟩
  | [], y :: a', b, b', _, h', h => by
    simp only [List.nil_append, List.cons_append, List.cons.injEq] at h
    exact absurd (by simp [h.1]) h'
  | y :: a, [], b, b', h0, _, h => by
    simp only [List.nil_append, List.cons_append, List.cons.injEq] at h
    exact absurd (by simp [h.1]) h0
  | y :: a, z :: a', b, b', h0, h', h => by
    simp only [List.cons_append, List.cons.injEq] at h
    obtain ⟨e1, e2⟩ := split_at (fun g => h0 (by simp [g])) (fun g => h' (by simp [g])) h.2
    exact ⟨by rw [h.1, e1], e2⟩
theorem digU_inj : ∀ i : Fin 16, ∀ j : Fin 16, digU i.val = digU j.val → i = j := by decide
theorem digU_eq {i j : Nat} (hi : i < 16) (hj : j < 16) (h : digU i = digU j) : i = j := by
  have := digU_inj ⟨i, hi⟩ ⟨j, hj⟩ h
  simpa using this
theorem hexL_two {n : Nat} (h : ¬ n < 16) : 2 ≤ (hexL n).length := by
  rw [hexL_more h, List.length_append]
  have := hexL_pos (n / 16)
  simp; omega
theorem hexL_inj : ∀ (k n m : Nat), n ≤ k → hexL n = hexL m → n = m
  | k, n, m, hk, h => by
    by_cases c : n < 16
    · by_cases d : m < 16
      · rw [hexL_low c, hexL_low d] at h
        exact digU_eq c d (by simpa using h)
      · have := hexL_two d
        rw [← h, hexL_low c] at this
        simp at this
    · by_cases d : m < 16
      · have := hexL_two c
        rw [h, hexL_low d] at this
        simp at this
      · rw [hexL_more c, hexL_more d] at h
        obtain ⟨h1, h2⟩ := List.append_inj' h rfl
        have e2 := digU_eq (Nat.mod_lt _ (by decide)) (Nat.mod_lt _ (by decide)) (by simpa using h2)
        cases k with
        | zero => omega
        | succ k =>
          have e1 := hexL_inj k (n / 16) (m / 16) (by omega) h1
          omega
theorem accL_no (st : Bool) : (32 : UInt8) ∉ accL st := by cases st <;> decide
theorem flt_cases {f l : Int} (h : FOk f l) : (f, l) ∈ [((1 : Int), (0 : Int)), (1, 1), (1, 2), (1, 3), (2, 3), (3, 0)] := by
  rcases h with ⟨rfl, h0, h1⟩ | ⟨rfl, rfl⟩ | ⟨rfl, rfl⟩
  · obtain rfl | rfl | rfl | rfl : l = 0 ∨ l = 1 ∨ l = 2 ∨ l = 3 := by omega
    all_goals decide
  · decide
  · decide
def fltC (p : Int × Int) : List UInt8 := if p.1 = 1 then [116, 114, 97, 110, 115, digU p.2.toNat] else if p.1 = 2 then [112, 101, 114, 109] else [97, 108, 105, 103, 110]
theorem fltC_eq {f l : Int} (h : FOk f l) : fltL f l = fltC (f, l) := by
  unfold fltL fltC
  by_cases c : f = 1
  · rw [if_pos c, if_pos c, hexL_low (by unfold FOk at h; omega)]; rfl
  · rw [if_neg c, if_neg c]
theorem fltC_no : ∀ p ∈ [((1 : Int), (0 : Int)), (1, 1), (1, 2), (1, 3), (2, 3), (3, 0)], (32 : UInt8) ∉ fltC p := by decide
theorem fltC_inj : ∀ p ∈ [((1 : Int), (0 : Int)), (1, 1), (1, 2), (1, 3), (2, 3), (3, 0)], ∀ q ∈ [((1 : Int), (0 : Int)), (1, 1), (1, 2), (1, 3), (2, 3), (3, 0)], fltC p = fltC q → p = q := by decide
theorem accL_inj : ∀ s t : Bool, accL s = accL t → s = t := by decide
theorem clsT_inj {c c' : Int} (h : c = 0 ∨ c = 1 ∨ c = 3 ∨ c = 4) (h' : c' = 0 ∨ c' = 1 ∨ c' = 3 ∨ c' = 4) (e : clsT c = clsT c') : c = c' := by
  rcases h with rfl | rfl | rfl | rfl <;> rcases h' with rfl | rfl | rfl | rfl <;> first | rfl | exact absurd e (by decide)
theorem clsT_no {c : Int} (h : c = 0 ∨ c = 1 ∨ c = 3 ∨ c = 4) : (32 : UInt8) ∉ clsT c ∧ clsT c ≠ [63] := by
  rcases h with rfl | rfl | rfl | rfl <;> exact ⟨by decide, by decide⟩
theorem text_one {c f l a c' f' l' a' : Int} {st st' : Bool} (ha : 0 ≤ a) (ha' : 0 ≤ a') (h : SOk c st f l a) (h' : SOk c' st' f' l' a') (he : txtL c st f l a = txtL c' st' f' l' a') :
    c = c' ∧ st = st' ∧ f = f' ∧ l = l' ∧ a = a' := by
  by_cases d : c = 2
  · subst d
    have hf : FOk f l := by rcases h with h | ⟨h, -⟩; exact h.2; omega
    rw [txt_data h] at he
    by_cases d' : c' = 2
    · subst d'
      have hf' : FOk f' l' := by rcases h' with h | ⟨h, -⟩; exact h.2; omega
      rw [txt_data h'] at he
      obtain ⟨e1, e2⟩ := split_at (accL_no st) (accL_no st') he
      rw [fltC_eq hf, fltC_eq hf'] at e2
      obtain ⟨e3, e4⟩ := split_at (fltC_no _ (flt_cases hf)) (fltC_no _ (flt_cases hf')) e2
      have e5 := fltC_inj _ (flt_cases hf) _ (flt_cases hf') e3
      simp only [Prod.mk.injEq] at e5
      have e6 := hexL_inj _ _ _ (Nat.le_refl _) e4
      exact ⟨rfl, accL_inj _ _ e1, e5.1, e5.2, by omega⟩
    · exfalso
      rw [txt_plain h' d'] at he
      have hc' : c' = 0 ∨ c' = 1 ∨ c' = 3 ∨ c' = 4 := by rcases h' with h | h; exact absurd h.1 d'; exact h.1
      exact (clsT_no hc').1 (by rw [← he]; simp)
  · have hc : c = 0 ∨ c = 1 ∨ c = 3 ∨ c = 4 := by rcases h with h | h; exact absurd h.1 d; exact h.1
    have hp : Plain st f l a := by rcases h with h | h; exact absurd h.1 d; exact h.2
    rw [txt_plain h d] at he
    by_cases d' : c' = 2
    · exfalso
      subst d'
      rw [txt_data h'] at he
      exact (clsT_no hc).1 (by rw [he]; simp)
    · have hc' : c' = 0 ∨ c' = 1 ∨ c' = 3 ∨ c' = 4 := by rcases h' with h | h; exact absurd h.1 d'; exact h.1
      have hp' : Plain st' f' l' a' := by rcases h' with h | h; exact absurd h.1 d'; exact h.2
      rw [txt_plain h' d'] at he
      obtain ⟨rfl, rfl, rfl, rfl⟩ := hp
      obtain ⟨rfl, rfl, rfl, rfl⟩ := hp'
      exact ⟨clsT_inj hc hc' he, rfl, rfl, rfl, rfl⟩
theorem text_ok {c f l a : Int} {st : Bool} (h : SOk c st f l a) : txtL c st f l a ≠ [63] := by
  by_cases d : c = 2
  · subst d
    rw [txt_data h]
    cases st <;> simp [accL]
  · have hc : c = 0 ∨ c = 1 ∨ c = 3 ∨ c = 4 := by rcases h with h | h; exact absurd h.1 d; exact h.1
    rw [txt_plain h d]
    exact (clsT_no hc).2
/-- Words that are a syndrome's are those of what is read of them. -/
theorem dec_enc {x far : Nat} (h : dE x far = 0) : SOk (dC x far) (dS x far) (dF x far) (dL x far) (dA x far) ∧ encW (dC x far) (dS x far) (dF x far) (dL x far) (dA x far) = x ∧ encA (dC x far) (dS x far) (dF x far) (dL x far) (dA x far) = far := by
  cases e : decQ x far with
  | none => rw [(dec_none e).2.2.2.2.2] at h; cases h
  | some q =>
    obtain ⟨h1, h2, h3, h4, h5, -⟩ := dec_some e
    have hm := List.mem_of_find?_eq_some e
    have hh := List.find?_some e
    simp only [decide_eq_true_eq] at hh
    have ok := ok_of hm (far : Int)
    rw [hh.2] at ok
    rw [h1, h2, h3, h4, h5]
    exact ⟨ok, by rw [(enc_yes ok).1]; exact congrArg _ hh.1, (enc_yes ok).2⟩
theorem dE_cases (x far : Nat) : dE x far = 0 ∨ dE x far = 2 := by
  unfold dE
  split
  · exact .inl rfl
  · exact .inr rfl
/-- A syndrome that may be is read of its words. -/
theorem enc_dec {c f l : Int} {st : Bool} {n : Nat} (h : SOk c st f l n) : ∃ x : Nat, encW c st f l n = x ∧ x < 18446744073709551616 ∧ encA c st f l n = n ∧ dC x n = c ∧ dS x n = st ∧ dF x n = f ∧ dL x n = l ∧ dA x n = n ∧ dE x n = 0 := by
  obtain ⟨e1, e2⟩ := enc_yes h
  obtain ⟨m1, m2⟩ := mem_of_ok h
  have hd := dec_hit (x := esrN c.toNat st f l) (far := n) m1 ⟨rfl, m2⟩
  obtain ⟨h1, h2, h3, h4, h5, h6⟩ := dec_some hd
  refine ⟨esrN c.toNat st f l, e1, ?_, e2, h1, h2, h3, h4, h5, h6⟩
  have a := clsN_lt c.toNat
  have b := bN_lt st
  have d := stsN_lt f l (ok_cls h).2.2
  unfold esrN
  omega
end Go.Proofs.YtjglobnjmahpaaaDoor
