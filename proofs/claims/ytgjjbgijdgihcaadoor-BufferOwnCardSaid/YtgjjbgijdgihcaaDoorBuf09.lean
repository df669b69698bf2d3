/-
  What a buffer of entries is, in numbers and lists: which entries may be, which touch, which may go, what a load is told; and what follows. No program in it. No condition.
-/
import Derived.Test.YtgjjbgijdgihcaaDoorBlk
namespace Go.Proofs.YtgjjbgijdgihcaaDoor
open Go Go.RowKit

structure Ent where
  k : Int
  w : Nat
  x : Nat
  fr : Int
  fm : Int
deriving DecidableEq
def Ent.cells (e : Ent) : List Value := [.int .i8 e.k, .int .u64 e.w, .int .u64 e.x, .int .i64 e.fr, .int .i64 e.fm]
def Ent.arr (e : Ent) : Array Value := #[.int .i8 e.k, .int .u64 e.w, .int .u64 e.x, .int .i64 e.fr, .int .i64 e.fm]
def Ent.wf (e : Ent) : Prop := (-128 ≤ e.k ∧ e.k < 128) ∧ e.w < 18446744073709551616 ∧ e.x < 18446744073709551616 ∧ (-9223372036854775808 ≤ e.fr ∧ e.fr < 9223372036854775808) ∧ (-9223372036854775808 ≤ e.fm ∧ e.fm < 9223372036854775808)
def zeroE : Ent := ⟨0, 0, 0, 0, 0⟩
def mayB (e : Ent) : Bool :=
  if e.k = 0 then decide ((e.w : Int) < 1099511627776) && (e.fr == 0) && (e.fm == 0)
  else if e.k = 1 then ((e.w : Int) == 0) && ((e.x : Int) == 0) && (e.fr == 0) && (e.fm == 0)
  else if e.k = 2 then ((e.w : Int) == 0) && ((e.x : Int) == 0) && (e.fr == 0) && decide (0 ≤ e.fm) && decide (e.fm ≤ 1048576)
  else if e.k = 3 then ((e.w : Int) == 0) && ((e.x : Int) == 0) && decide (0 ≤ e.fr) && decide (e.fr ≤ 1048576) && decide (0 ≤ e.fm) && decide (e.fm ≤ 1048576)
  else false
/-- Does an entry that may be name a word of a frame (all: any of its words)? -/
def nmB (e : Ent) (f w : Nat) (all : Bool) : Bool :=
  if e.k = 0 then (e.w / 512 == f) && (all || e.w == w) else if e.k = 2 then e.fm == (f : Int) else if e.k = 3 then (e.fm == (f : Int)) || (e.fr == (f : Int)) else false
def tchB (a b : Ent) : Bool :=
  if mayB a && mayB b then (if a.k = 0 then nmB b (a.w / 512) a.w false else if a.k = 2 then nmB b a.fm.toNat 0 true else if a.k = 3 then nmB b a.fm.toNat 0 true || nmB b a.fr.toNat 0 true else false) else false
def headBar : List Ent → Bool
  | [] => false
  | e :: _ => e.k == 1
def okB (L : List Ent) : Bool := decide (L.length ≤ 8) && L.all mayB && !headBar L
def firstL (L : List Ent) : List Ent := L.dropWhile fun e => e.k == 1
def freeB (L : List Ent) (k : Nat) (e : Ent) : Bool := (L.take k).all fun a => a.k != 1 && !tchB a e
def goesB (L : List Ent) (k : Nat) : Bool := match L[k]? with | some e => e.k != 1 && freeB L k e | none => false
def mayAt (L : List Ent) (k : Int) : Bool := okB L && decide (0 ≤ k) && decide (k < L.length) && goesB L k.toNat
def pushB (L : List Ent) (e : Ent) : List Ent × Int := if okB L && mayB e then (if L.length < 8 then (firstL (L ++ [e]), 0) else ([], 20)) else ([], 2)
def takeB (L : List Ent) (k : Int) : List Ent × Ent × Int :=
  if okB L then (if 0 ≤ k ∧ k < L.length then (if mayAt L k then (firstL (L.eraseIdx k.toNat), L.getD k.toNat zeroE, 0) else ([], zeroE, 21)) else ([], zeroE, 4)) else ([], zeroE, 2)
/-- What the newest entry that names the word says; the newest first. -/
def fwR : List Ent → Nat → Nat × Bool × Int
  | [], _ => (0, false, 0)
  | e :: l, w => if e.k = 0 ∧ e.w = w then (e.x, true, 0) else if e.k = 2 ∧ e.fm = ((w / 512 : Nat) : Int) then (0, true, 0) else if e.k = 3 ∧ e.fm = ((w / 512 : Nat) : Int) then (0, false, 21) else fwR l w
def fwdB (L : List Ent) (w : Nat) : Nat × Bool × Int := if okB L && decide (w < 1099511627776) then fwR L.reverse w else (0, false, 2)

theorem okB_parts {L : List Ent} (h : okB L = true) : L.length ≤ 8 ∧ (∀ e ∈ L, mayB e = true) ∧ headBar L = false := by
  unfold okB at h
  simp only [Bool.and_eq_true, decide_eq_true_eq, List.all_eq_true, Bool.not_eq_true'] at h
  exact ⟨h.1.1, h.1.2, h.2⟩
theorem okB_of {L : List Ent} (h1 : L.length ≤ 8) (h2 : ∀ e ∈ L, mayB e = true) (h3 : headBar L = false) : okB L = true := by
  unfold okB
  simp only [Bool.and_eq_true, decide_eq_true_eq, List.all_eq_true, Bool.not_eq_true']
  exact ⟨⟨h1, h2⟩, h3⟩
theorem headBar_first (L : List Ent) : headBar (firstL L) = false := by
  induction L with
  | nil => rfl
  | cons e l ih =>
    unfold firstL
    rw [List.dropWhile_cons]
    by_cases c : (e.k == 1) = true
    · rw [if_pos c]; exact ih
    · rw [if_neg c]
      simpa [headBar] using c
theorem firstL_sub (L : List Ent) : ∀ e ∈ firstL L, e ∈ L := fun _ h => (List.dropWhile_sublist _).subset h
theorem firstL_len (L : List Ent) : (firstL L).length ≤ L.length := (List.dropWhile_sublist _).length_le
theorem firstL_id {L : List Ent} (h : headBar L = false) : firstL L = L := by
  cases L with
  | nil => rfl
  | cons e l =>
    unfold firstL
    rw [List.dropWhile_cons, if_neg (by simpa [headBar] using h)]
theorem okB_take {L : List Ent} (h : okB L = true) (k : Nat) : okB (firstL (L.eraseIdx k)) = true := by
  obtain ⟨h1, h2, _⟩ := okB_parts h
  exact okB_of (Nat.le_trans (firstL_len _) (Nat.le_trans (List.length_eraseIdx_le L k) h1)) (fun e he => h2 e (List.mem_of_mem_eraseIdx (firstL_sub _ e he))) (headBar_first _)
theorem len_take {L : List Ent} {k : Nat} (hk : k < L.length) : (firstL (L.eraseIdx k)).length < L.length := by
  have := firstL_len (L.eraseIdx k)
  rw [List.length_eraseIdx_of_lt hk] at this
  omega
theorem mayAt_parts {L : List Ent} {k : Int} (h : mayAt L k = true) : okB L = true ∧ ∃ (n : Nat) (e : Ent), k = n ∧ n < L.length ∧ L[n]? = some e ∧ e.k ≠ 1 ∧ ∀ j a, j < n → L[j]? = some a → a.k ≠ 1 ∧ tchB a e = false := by
  unfold mayAt at h
  simp only [Bool.and_eq_true, decide_eq_true_eq] at h
  obtain ⟨⟨⟨h1, h2⟩, h3⟩, h4⟩ := h
  have hn : k.toNat < L.length := by omega
  unfold goesB at h4
  rw [List.getElem?_eq_getElem hn] at h4
  simp only [Bool.and_eq_true, bne_iff_ne, ne_eq] at h4
  refine ⟨h1, k.toNat, L[k.toNat], by omega, hn, List.getElem?_eq_getElem hn, h4.1, fun j a hj ha => ?_⟩
  have h5 := h4.2
  unfold freeB at h5
  rw [List.all_eq_true] at h5
  have hm : a ∈ L.take k.toNat := List.mem_iff_getElem?.2 ⟨j, by rw [List.getElem?_take, if_pos hj]; exact ha⟩
  have := h5 a hm
  simpa using this
theorem mayAt_of {L : List Ent} {n : Nat} {e : Ent} (h1 : okB L = true) (he : L[n]? = some e) (h2 : e.k ≠ 1) (h3 : ∀ j a, j < n → L[j]? = some a → a.k ≠ 1 ∧ tchB a e = false) : mayAt L n = true := by
  have hn : n < L.length := (List.getElem?_eq_some_iff.1 he).1
  unfold mayAt goesB freeB
  rw [Int.toNat_natCast, he, h1]
  simp only [Bool.true_and, Bool.and_eq_true, decide_eq_true_eq, bne_iff_ne, ne_eq, List.all_eq_true, Bool.not_eq_true']
  refine ⟨⟨by omega, by omega⟩, h2, fun a ha => ?_⟩
  obtain ⟨j, hj⟩ := List.mem_iff_getElem?.1 ha
  rw [List.getElem?_take] at hj
  split at hj
  · exact h3 j a ‹_› hj
  · cases hj
/-- P9.5: some entry may go. -/
theorem some_may {L : List Ent} (h : okB L = true) (hn : L ≠ []) : mayAt L 0 = true := by
  obtain ⟨_, _, h3⟩ := okB_parts h
  cases L with
  | nil => exact absurd rfl hn
  | cons e l => exact mayAt_of (n := 0) h rfl (by simpa [headBar] using h3) (fun j a hj => by omega)
/-- Behind a barrier, or at one, nothing goes. -/
theorem bar_stops {L : List Ent} {j k : Nat} {a : Ent} (ha : L[j]? = some a) (hb : a.k = 1) (hj : j ≤ k) : mayAt L k = false := by
  cases hm : mayAt L k with
  | false => rfl
  | true =>
    obtain ⟨_, n, e, hk, hn, he, h1, h2⟩ := mayAt_parts hm
    have hkn : k = n := by omega
    subst hkn
    by_cases c : j = k
    · subst c
      rw [ha] at he
      cases he
      exact absurd hb h1
    · exact absurd hb (h2 j a (by omega) ha).1

/-! What entries do to memory. -/
def putF (m : Nat → Nat) (e : Ent) : Nat → Nat := fun i =>
  if e.k = 0 ∧ i = e.w then e.x else if e.k = 2 ∧ ((i / 512 : Nat) : Int) = e.fm then 0 else if e.k = 3 ∧ ((i / 512 : Nat) : Int) = e.fm then m (e.fr.toNat * 512 + i % 512) else m i
theorem put_bar (m : Nat → Nat) (e : Ent) (h : e.k = 1) : putF m e = m := by
  funext i
  unfold putF
  rw [if_neg (fun q => by omega), if_neg (fun q => by omega), if_neg (fun q => by omega)]
theorem kinds {e : Ent} (h : mayB e = true) : (e.k = 0 ∧ e.fr = 0 ∧ e.fm = 0) ∨ e.k = 1 ∨ (e.k = 2 ∧ 0 ≤ e.fm) ∨ (e.k = 3 ∧ 0 ≤ e.fr ∧ 0 ≤ e.fm) := by
  unfold mayB at h
  split at h
  · simp only [Bool.and_eq_true, beq_iff_eq] at h; exact .inl ⟨‹_›, h.1.2, h.2⟩
  · split at h
    · exact .inr (.inl ‹_›)
    · split at h
      · simp only [Bool.and_eq_true, decide_eq_true_eq] at h; exact .inr (.inr (.inl ⟨‹_›, h.1.2⟩))
      · split at h
        · simp only [Bool.and_eq_true, decide_eq_true_eq] at h; exact .inr (.inr (.inr ⟨‹_›, h.1.1.1.2, h.1.2⟩))
        · cases h
theorem put_comm (m : Nat → Nat) (a e : Ent) (ha : mayB a = true) (he : mayB e = true) (hk : e.k ≠ 1) (hb : a.k ≠ 1) (ht : tchB a e = false) : putF (putF m a) e = putF (putF m e) a := by
  unfold tchB at ht
  rw [ha, he] at ht
  simp only [Bool.and_self, if_true] at ht
  funext i
  obtain ⟨q, p, hq, hp, hp5⟩ : ∃ q p, i / 512 = q ∧ i % 512 = p ∧ p < 512 := ⟨_, _, rfl, rfl, Nat.mod_lt _ (by decide)⟩
  rcases kinds ha with ⟨a0, _, _⟩ | a1 | ⟨a2, a3⟩ | ⟨a2, a3, a4⟩
  · rw [if_pos a0] at ht
    rcases kinds he with ⟨e0, _, _⟩ | e1 | ⟨e2, e3⟩ | ⟨e2, e3, e4⟩
    · unfold nmB at ht
      simp [e0] at ht
      unfold putF
      simp only [a0, e0]
      simp
      by_cases c1 : i = e.w
      · by_cases c2 : i = a.w
        · exact absurd (c1.symm.trans c2) (fun q => ht (by rw [q]) q)
        · simp [c1]
          intro q; exact absurd (c1.trans q) c2
      · simp [c1]
    · exact absurd e1 hk
    · unfold nmB at ht
      simp [e2] at ht
      unfold putF
      simp [a0, e2]
      by_cases c1 : ((i / 512 : Nat) : Int) = e.fm
      · have c1' : ((i : Int) / 512) = e.fm := by omega
        simp [c1']
        intro q; subst q; exact absurd c1'.symm ht
      · have c1' : ¬ ((i : Int) / 512) = e.fm := by omega
        simp [c1']
    · unfold nmB at ht
      simp [e2] at ht
      unfold putF
      simp [a0, e2]
      by_cases c1 : ((i : Int) / 512) = e.fm
      · simp [c1]
        have n1 : ¬ e.fr.toNat * 512 + i % 512 = a.w := fun q => ht.2 (by omega)
        have n2 : ¬ i = a.w := fun q => ht.1 (by omega)
        simp [n1, n2]
      · simp [c1]
  · exact absurd a1 hb
  · rw [if_neg (by omega), if_pos a2] at ht
    rcases kinds he with ⟨e0, _, _⟩ | e1 | ⟨e2, e3⟩ | ⟨e2, e3, e4⟩
    · unfold nmB at ht
      simp [e0] at ht
      unfold putF
      simp [a2, e0]
      by_cases c1 : i = e.w
      · have n1 : ¬ ((i : Int) / 512) = a.fm := fun q => ht (by omega)
        simp [c1]
        intro q; exact absurd (by rw [c1]; exact q) n1
      · simp [c1]
    · exact absurd e1 hk
    · unfold nmB at ht
      simp [e2] at ht
      unfold putF
      simp [a2, e2]
      by_cases c1 : ((i : Int) / 512) = e.fm
      · simp [c1]
      · simp [c1]
    · unfold nmB at ht
      simp [e2] at ht
      unfold putF
      simp [a2, e2]
      by_cases c1 : ((i : Int) / 512) = e.fm
      · have n1 : ¬ (((e.fr.toNat * 512 + i % 512 : Nat) : Int) / 512) = a.fm := by omega
        have n2 : ¬ ((i : Int) / 512) = a.fm := by omega
        simp at n1
        simp [c1]
        rw [if_neg (by omega), if_neg (by omega)]
      · simp [c1]
  · rw [if_neg (by omega), if_neg (by omega), if_pos a2] at ht
    rw [Bool.or_eq_false_iff] at ht
    rcases kinds he with ⟨e0, _, _⟩ | e1 | ⟨e2, e3⟩ | ⟨e2, e3, e4⟩
    · unfold nmB at ht
      simp [e0] at ht
      unfold putF
      simp [a2, e0]
      by_cases c1 : i = e.w
      · have n1 : ¬ ((i : Int) / 512) = a.fm := by omega
        subst c1
        simp [n1]
      · simp [c1]
        by_cases c2 : ((i : Int) / 512) = a.fm
        · have n1 : ¬ a.fr.toNat * 512 + i % 512 = e.w := by omega
          simp [c2, n1]
        · simp [c2]
    · exact absurd e1 hk
    · unfold nmB at ht
      simp [e2] at ht
      unfold putF
      simp [a2, e2]
      by_cases c1 : ((i : Int) / 512) = e.fm
      · have n1 : ¬ ((i : Int) / 512) = a.fm := by omega
        simp [c1]
        intro q; omega
      · simp [c1]
        by_cases c2 : ((i : Int) / 512) = a.fm
        · simp [c2]
          omega
        · simp [c2]
    · unfold nmB at ht
      simp [e2] at ht
      unfold putF
      simp [a2, e2]
      by_cases c1 : ((i : Int) / 512) = e.fm
      · have n2 : ¬ ((i : Int) / 512) = a.fm := by omega
        simp [c1]
        rw [if_neg (by omega), if_neg (by omega)]
      · simp [c1]
        by_cases c2 : ((i : Int) / 512) = a.fm
        · simp [c2]
          intro q
          exfalso
          omega
        · simp [c2]
/-- All entries of a row, one behind the other. -/
def putAll (m : Nat → Nat) (L : List Ent) : Nat → Nat := L.foldl putF m
theorem putAll_append (m : Nat → Nat) (A B : List Ent) : putAll m (A ++ B) = putAll (putAll m A) B := List.foldl_append
theorem putAll_past (A : List Ent) (e : Ent) (he : mayB e = true) (hk : e.k ≠ 1) : ∀ m, (∀ a ∈ A, mayB a = true ∧ a.k ≠ 1 ∧ tchB a e = false) → putF (putAll m A) e = putAll (putF m e) A := by
  induction A with
  | nil => intro m _; rfl
  | cons a l ih =>
    intro m h
    obtain ⟨h1, h2, h3⟩ := h a (List.mem_cons_self ..)
    show putF (putAll (putF m a) l) e = putAll (putF (putF m e) a) l
    rw [ih _ (fun b hb => h b (List.mem_cons_of_mem _ hb)), put_comm m a e h1 he hk h2 h3]
theorem putAll_first (L : List Ent) : ∀ m, putAll m (firstL L) = putAll m L := by
  induction L with
  | nil => intro m; rfl
  | cons e l ih =>
    intro m
    unfold firstL
    rw [List.dropWhile_cons]
    by_cases c : (e.k == 1) = true
    · rw [if_pos c]
      show putAll m (firstL l) = putAll (putF m e) l
      rw [ih, put_bar m e (by simpa using c)]
    · rw [if_neg c]
/-- P9.4: whoever goes, memory comes to be the same. -/
theorem own_step {L : List Ent} {n : Nat} {e : Ent} (h : mayAt L n = true) (he : L[n]? = some e) (m : Nat → Nat) : putAll (putF m e) (firstL (L.eraseIdx n)) = putAll m L := by
  obtain ⟨h1, n', e', hn, hlt, he', hk, hf⟩ := mayAt_parts h
  obtain rfl : n = n' := by omega
  rw [he] at he'
  cases he'
  obtain ⟨_, h2, _⟩ := okB_parts h1
  rw [putAll_first, List.eraseIdx_eq_take_drop_succ]
  have hL : L = L.take n ++ (e :: L.drop (n + 1)) := by
    have h0 : L.drop n = e :: L.drop (n + 1) := by
      rw [List.drop_eq_getElem_cons hlt]
      congr 1
      exact Option.some.inj ((List.getElem?_eq_getElem hlt).symm.trans he)
    rw [← h0, List.take_append_drop]
  have hp := putAll_past (L.take n) e (h2 e (List.mem_of_getElem? he)) hk m (fun a ha => by
    obtain ⟨j, hj⟩ := List.mem_iff_getElem?.1 ha
    rw [List.getElem?_take] at hj
    split at hj
    · exact ⟨h2 a (List.mem_of_getElem? hj), hf j a ‹_› hj⟩
    · cases hj)
  conv => rhs; rw [hL]
  rw [putAll_append, putAll_append]
  show putAll (putAll (putF m e) (L.take n)) (L.drop (n + 1)) = putAll (putF (putAll m (L.take n)) e) (L.drop (n + 1))
  rw [hp]
/-! What a load is told. -/
def namesW (e : Ent) (w : Nat) : Bool := (e.k == 0 && e.w == w) || (e.k == 2 && e.fm == ((w / 512 : Nat) : Int))
theorem fwR_tells (m : Nat → Nat) (w : Nat) : ∀ (R : List Ent), (∀ e ∈ R, e.k ≠ 3) → (fwR R w).2.2 = 0 ∧ (fwR R w).2.1 = R.any (namesW · w) ∧ ((fwR R w).2.1 = true → (fwR R w).1 = putAll m R.reverse w)
  | [], _ => ⟨rfl, rfl, fun h => by cases h⟩
  | e :: l, h => by
    obtain ⟨i1, i2, i3⟩ := fwR_tells m w l (fun a ha => h a (List.mem_cons_of_mem _ ha))
    have h3 := h e (List.mem_cons_self ..)
    have hr : putAll m (e :: l).reverse w = putF (putAll m l.reverse) e w := by
      rw [List.reverse_cons, putAll_append]; rfl
    unfold fwR
    by_cases c1 : e.k = 0 ∧ e.w = w
    · rw [if_pos c1]
      refine ⟨rfl, by simp [namesW, c1.1, c1.2], fun _ => ?_⟩
      rw [hr]
      unfold putF
      rw [if_pos ⟨c1.1, c1.2.symm⟩]
    · rw [if_neg c1]
      by_cases c2 : e.k = 2 ∧ e.fm = ((w / 512 : Nat) : Int)
      · rw [if_pos c2]
        refine ⟨rfl, by simp [namesW, c2.1, c2.2], fun _ => ?_⟩
        rw [hr]
        unfold putF
        rw [if_neg (fun q => by omega), if_pos ⟨c2.1, c2.2.symm⟩]
      · rw [if_neg c2, if_neg (fun q => h3 q.1)]
        have hnm : namesW e w = false := by
          unfold namesW
          cases hx : (e.k == 0 && e.w == w) with
          | true => simp at hx; exact absurd hx c1
          | false =>
            cases hy : (e.k == 2 && e.fm == ((w / 512 : Nat) : Int)) with
            | true =>
              simp only [Bool.and_eq_true, beq_iff_eq] at hy
              exact absurd hy c2
            | false => rfl
        refine ⟨i1, by rw [List.any_cons, hnm, Bool.false_or]; exact i2, fun hs => ?_⟩
        rw [hr, i3 hs]
        unfold putF
        rw [if_neg (fun q => c1 ⟨q.1, q.2.symm⟩), if_neg (fun q => c2 ⟨q.1, q.2.symm⟩), if_neg (fun q => h3 q.1)]
theorem fwd_tells {L : List Ent} (m : Nat → Nat) (w : Nat) (hL : okB L = true) (hw : w < 1099511627776) (h3 : ∀ e ∈ L, e.k ≠ 3) : ∃ x, fwdB L w = (x, L.any (namesW · w), 0) ∧ (L.any (namesW · w) = true → x = putAll m L w) := by
  have hq := fwR_tells m w L.reverse (fun e he => h3 e (List.mem_reverse.1 he))
  rw [List.reverse_reverse, List.any_reverse] at hq
  refine ⟨(fwR L.reverse w).1, ?_, fun h => hq.2.2 (hq.2.1.trans h)⟩
  unfold fwdB
  rw [hL, decide_eq_true hw]
  show fwR L.reverse w = _
  exact Prod.ext rfl (Prod.ext hq.2.1 hq.1)
/-! Those ahead alone matter. -/
theorem ok_prefix {L : List Ent} (h : okB L = true) (k : Nat) : okB (L.take k) = true := by
  obtain ⟨h1, h2, h3⟩ := okB_parts h
  refine okB_of (by rw [List.length_take]; omega) (fun e he => h2 e (List.mem_of_mem_take he)) ?_
  cases k with
  | zero => rfl
  | succ k =>
    cases L with
    | nil => rfl
    | cons a l => exact h3
theorem may_prefix {L : List Ent} (h : okB L = true) (k : Nat) (hk : k < L.length) : mayAt (L.take (k + 1)) k = mayAt L k := by
  unfold mayAt goesB freeB
  rw [h, ok_prefix h, Int.toNat_natCast, List.getElem?_take, if_pos (by omega), List.take_take, Nat.min_eq_left (by omega)]
  have e1 : decide (((k : Nat) : Int) < ((L.take (k + 1)).length : Nat)) = decide (((k : Nat) : Int) < (L.length : Nat)) := by
    rw [List.length_take]
    apply decide_eq_decide.2
    omega
  rw [e1]
theorem still_may {L : List Ent} {k o : Nat} {e : Ent} (hk : mayAt L k = true) (ho : o < L.length) (he : L[k]? = some e) (hne : o ≠ k) : ∃ i : Nat, (firstL (L.eraseIdx o))[i]? = some e ∧ mayAt (firstL (L.eraseIdx o)) i = true := by
  obtain ⟨h1, k', e', hkk, hlt, he', h2, h3⟩ := mayAt_parts hk
  obtain rfl : k = k' := by omega
  rw [he] at he'
  cases he'
  have hok := okB_take h1 o
  have hhead : headBar (L.eraseIdx o) = false := by
    obtain ⟨_, _, hb⟩ := okB_parts h1
    cases L with
    | nil => rfl
    | cons a l =>
      cases o with
      | succ o => exact hb
      | zero =>
        -- the first went: the next is ahead of k, or k itself
        show headBar l = false
        cases l with
        | nil => rfl
        | cons b l =>
          show (b.k == 1) = false
          by_cases c : k = 1
          · subst c
            have hbe : b = e := by simpa using he
            subst hbe
            simpa using h2
          · have := (h3 1 b (by omega) rfl).1
            simpa using this
  rw [firstL_id hhead] at hok ⊢
  by_cases c : o < k
  · refine ⟨k - 1, ?_, ?_⟩
    · rw [List.getElem?_eraseIdx, if_neg (by omega), show k - 1 + 1 = k by omega]; exact he
    · refine mayAt_of hok (by rw [List.getElem?_eraseIdx, if_neg (by omega), show k - 1 + 1 = k by omega]; exact he) h2 (fun j a hj ha => ?_)
      rw [List.getElem?_eraseIdx] at ha
      split at ha
      · exact h3 j a (by omega) ha
      · exact h3 (j + 1) a (by omega) ha
  · refine ⟨k, ?_, ?_⟩
    · rw [List.getElem?_eraseIdx, if_pos (by omega)]; exact he
    · refine mayAt_of hok (by rw [List.getElem?_eraseIdx, if_pos (by omega)]; exact he) h2 (fun j a hj ha => ?_)
      rw [List.getElem?_eraseIdx, if_pos (by omega)] at ha
      exact h3 j a hj ha
theorem tch_comm (a b : Ent) : tchB a b = tchB b a := by
  unfold tchB
  rw [Bool.and_comm (mayB b) (mayB a)]
  by_cases h : (mayB a && mayB b) = true
  · rw [if_pos h, if_pos h]
    simp only [Bool.and_eq_true] at h
    obtain ⟨ha, hb⟩ := h
    rw [Bool.eq_iff_iff]
    rcases kinds ha with ⟨a0, _, _⟩ | a1 | ⟨a2, a3⟩ | ⟨a2, a3, a4⟩ <;> rcases kinds hb with ⟨b0, _, _⟩ | b1 | ⟨b2, b3⟩ | ⟨b2, b3, b4⟩ <;> unfold nmB <;> simp [*] <;> omega
  · rw [if_neg h, if_neg h]
end Go.Proofs.YtgjjbgijdgihcaaDoor
