/-
  Package mem: Copy. No condition.
-/
import Derived.Test.YtnjdglejcfdonaaPair08
import Derived.Test.YtnjdglejcfdonaaKIter
namespace Go.Proofs.Ytnjdglejcfdonaa
open Go Go.RowKit Go.Maps Go.ChangeMaps

/-- What the copy holds so far: the frames that have come. -/
def SoFar (n : Nat) (L : Nat → Option Nat) (V : Nat → Nat → Nat) (left : Value → Prop) (U : Nat → Nat → Nat) : Prop :=
  (∀ f p, f < n → p < 512 → (L f).isSome = true → ¬ left (.int .i64 f) → U f p = V f p) ∧ (∀ f p, f < n → p < 512 → (L f = none ∨ left (.int .i64 f)) → U f p = 0)
theorem frC_of {n : Nat} {L : Nat → Option Nat} {z v : Value} (h : frC n L z = some v) : ∃ f g, z = .int .i64 (f : Nat) ∧ f < n ∧ L f = some g ∧ v = .pointer (some ⟨g, 0, none⟩) := by
  unfold frC at h
  split at h
  · rename_i i
    split at h
    · rename_i c
      cases hL : L i.toNat with
      | none => rw [hL] at h; cases h
      | some g =>
        rw [hL] at h
        cases h
        exact ⟨i.toNat, g, by rw [Int.toNat_of_nonneg c.1], by omega, hL, rfl⟩
    · cases h
  · cases h
theorem SoFar.start (n : Nat) (L : Nat → Option Nat) (V : Nat → Nat → Nat) : SoFar n L V (fun z => (frC n L z).isSome = true) (fun _ _ => 0) := by
  refine ⟨fun f p hf hp h1 h2 => absurd ?_ h2, fun _ _ _ _ _ => rfl⟩
  show (frC n L (.int .i64 f)).isSome = true
  rw [frC_at n L f hf]
  cases hL : L f with
  | none => rw [hL] at h1; cases h1
  | some g => rfl
theorem SoFar.step {n : Nat} {L : Nat → Option Nat} {V U : Nat → Nat → Nat} {left : Value → Prop} (h : SoFar n L V left U) (f g : Nat) (hL : L f = some g) : SoFar n L V (fun z => left z ∧ z ≠ .int .i64 (f : Nat)) (setF U f (V f)) := by
  have hne : ∀ f' : Nat, f' ≠ f → (Value.int .i64 (f' : Nat)) ≠ .int .i64 (f : Nat) := fun f' e q => by
    have q2 : ((f' : Nat) : Int) = ((f : Nat) : Int) := by injection q
    omega
  refine ⟨fun f' p hf hp h1 h2 => ?_, fun f' p hf hp h1 => ?_⟩
  · unfold setF
    by_cases e : f' = f
    · rw [if_pos e, e]
    · rw [if_neg e]
      exact h.1 f' p hf hp h1 (fun q => h2 ⟨q, hne f' e⟩)
  · unfold setF
    by_cases e : f' = f
    · subst e
      rcases h1 with h1 | h1
      · rw [hL] at h1; cases h1
      · exact absurd rfl h1.2
    · rw [if_neg e]
      exact h.2 f' p hf hp (h1.imp id (·.1))
theorem SoFar.done {n : Nat} {L : Nat → Option Nat} {V U : Nat → Nat → Nat} {left : Value → Prop} (h : SoFar n L V left U) (hn : ∀ f, f < n → L f = none → ∀ p, p < 512 → V f p = 0) (hl : ∀ z v, frC n L z = some v → ¬ left z) (f p : Nat) (hf : f < n) (hp : p < 512) : V f p = U f p := by
  cases hL : L f with
  | none => rw [hn f hf hL p hp, h.2 f p hf hp (.inl hL)]
  | some g => exact (h.1 f p hf hp (by rw [hL]; rfl) (hl _ _ (by rw [frC_at n L f hf, hL]; rfl))).symm
theorem pm_new (n : Nat) (w : World) (h2 : n ≤ 64) : PM ((w.alloc (.map #[] 0)).alloc (.cells #[.int .i64 n, .map (some w.heap.size)] 55)) (w.heap.size + 1) w.heap.size n (fun _ => none) (fun _ _ => 0) := by
  have hb := Blk.new2 w (.map #[] 0) #[.int .i64 n, .map (some w.heap.size)] 55
  have hm := (KMap.new Try.prog 3 w).alloc (.cells #[.int .i64 n, .map (some w.heap.size)] 55)
  refine ⟨hb, hm.ext (fun z l hz => ?_) (fun z hz => ?_), fun _ _ _ e => (by cases e), fun _ _ _ _ _ e => (by cases e), fun _ _ _ _ _ => rfl, fun _ _ => by decide, by omega, h2⟩
  · unfold frC
    split
    · split <;> rfl
    · rfl
  · unfold frC
    split
    · split <;> rfl
    · rfl
/-- The loop's state. -/
def CopyAt (w wr : World) (mb r bc mc n : Nat) (L : Nat → Option Nat) (V : Nat → Nat → Nat) (cnt : Nat) (left : Value → Prop) : Prop :=
  KIter Try.prog 3 wr mb r (frC n L) left cnt ∧ (∃ Lc U, PM wr bc mc n Lc U ∧ SoFar n L V left U ∧ ∀ k, pfeet bc mc n Lc k → w.heap.size ≤ k ∧ k ≠ r) ∧ mb < w.heap.size ∧ w.heap.size ≤ r ∧ Kp w wr
theorem CopyAt.step {w wr w2 : World} {mb r bc mc n cnt cnt' : Nat} {L : Nat → Option Nat} {V : Nat → Nat → Nat} {left left' : Value → Prop} (h : CopyAt w wr mb r bc mc n L V cnt left) (hk : KIter Try.prog 3 w2 mb r (frC n L) left' cnt') (g : wr.grownBy w2 (some r)) :
    KIter Try.prog 3 w2 mb r (frC n L) left' cnt' ∧ (∃ Lc U, PM w2 bc mc n Lc U ∧ SoFar n L V left U ∧ ∀ k, pfeet bc mc n Lc k → w.heap.size ≤ k ∧ k ≠ r) ∧ mb < w.heap.size ∧ w.heap.size ≤ r ∧ Kp w w2 := by
  obtain ⟨h1, ⟨Lc, U, h2, h2', h3⟩, h4, h5, h6⟩ := h
  exact ⟨hk, ⟨Lc, U, h2.same fun k hk => g.block k (h2.lt hk) (fun e => (h3 k hk).2 (Option.some.inj e)), h2', h3⟩, h4, h5, h6.grown g (fun k e => by cases e; exact h5)⟩
theorem copy_start (w w0 : World) (b mb n : Nat) (L : Nat → Option Nat) (V : Nat → Nat → Nat) (cnt : Nat) (h : PM w b mb n L V)
    (hit : KIter Try.prog 3 w0 mb ((w.alloc (.map #[] 0)).alloc (.cells #[.int .i64 n, .map (some w.heap.size)] 55)).heap.size (frC n L) (fun z => (frC n L z).isSome = true) cnt)
    (hk : Kp ((w.alloc (.map #[] 0)).alloc (.cells #[.int .i64 n, .map (some w.heap.size)] 55)) w0) :
    CopyAt w w0 mb ((w.alloc (.map #[] 0)).alloc (.cells #[.int .i64 n, .map (some w.heap.size)] 55)).heap.size (w.heap.size + 1) w.heap.size n L V cnt (fun z => (frC n L z).isSome = true) := by
  refine ⟨hit, ⟨fun _ => none, fun _ _ => 0, (pm_new n w h.n64).kp hk, SoFar.start n L V, fun k hk => ?_⟩, h.hm.lt, by simp; omega, (((Kp.refl w).allocO _).alloc _ _).trans hk⟩
  rcases hk with rfl | rfl | ⟨_, _, e⟩
  · exact ⟨by omega, by simp⟩
  · exact ⟨by omega, by simp; omega⟩
  · cases e
set_option maxRecDepth 100000 in
set_option maxHeartbeats 4000000 in
theorem pcopy_any (w : World) (S : Nat → Prop) (b n : Nat) (V : Nat → Nat → Nat) (h : PMem w S b n V) :
    Calls Try.prog 11 #[.pointer (some ⟨b, 0, none⟩)] w fun e w' => ∃ b2 C, e = .returned (.pointer (some ⟨b2, 0, none⟩)) ∧ PMem w' C b2 n V ∧ (∀ k, C k → w.heap.size ≤ k) ∧ Kp w w' := by
  obtain ⟨mb, L, h, -⟩ := h
  have hmk := mk_map
  have c0 := h.hb.cell 0
  have c1 := ((h.kp ((Kp.refl w).allocO (.map #[] 0))).kp ((Kp.refl _).alloc #[.int .i64 n, .map (some w.heap.size)] 55)).hb.cell 1
  have HM : Hid (KMap Try.prog 3 ((w.alloc (.map #[] 0)).alloc (.cells #[.int .i64 n, .map (some w.heap.size)] 55)) mb (frC n L)) := Lib.hid ((h.hm.alloc _).alloc _)
  have HH := Lib.hid h
  clear h
  go_enter Try.func11, Try.ntmps11
  go_wp2_with (first | (at_range; refine wpList_range_k rfl _ 53 rfl Try.underlying53 rfl HM.out ?_; intro w0 cnt0 hit0 hk0 hs0))
  go_frame
  have HCA := Lib.hid (copy_start w w0 b mb n L V cnt0 HH.out hit0 hk0)
  clear hit0 hs0 HM c0 c1
  clear hk0
  obtain ⟨r, hr⟩ : ∃ r, r = ((w.alloc (.map #[] 0)).alloc (.cells #[.int .i64 n, .map (some w.heap.size)] 55)).heap.size := ⟨_, rfl⟩
  rw [← hr] at HCA ⊢
  clear hr
  go_loopw [4, 5, 6] (fun _ _ _ wr => ∃ left cnt, CopyAt w wr mb r (w.heap.size + 1) w.heap.size n L V cnt left) (fun _ _ _ wr => wr.rangeLeft mb r)
  case atStart => exact ⟨_, _, HCA.out⟩
  case round =>
    obtain ⟨left, cnt, hca⟩ := hrel
    have CA := Lib.hid hca
    have hit := hca.1
    clear hca
    go_wp2_with (first | (at_next; refine wpList_next_k rfl _ rfl rfl hit ?_ ?_))
    · intro hl
      have HL := Lib.hid hl
      clear hl hit
      go_wp2
      go_ret
      obtain ⟨h1, ⟨Lc, U, h2, h3, h4⟩, h5, h6, h7⟩ := CA.out
      exact ⟨w.heap.size + 1, _, rfl, ⟨w.heap.size, Lc, h2.congr (fun f p hf hp => h3.done HH.out.no HL.out f p hf hp) HH.out.wf, rfl⟩, fun k hk => (h4 k hk).1, h7⟩
    · intro key v w1 cnt1 hC hlx hit1 hlt1 hg1 hs1 hen
      obtain ⟨f, g, rfl, hf, hL, rfl⟩ := frC_of hC
      have CB := Lib.hid (CA.out.step hit1 hg1)
      have HMe := Lib.hid (And.intro hit hlt1)
      have HF := Lib.hid (And.intro hf hL)
      clear hit hC hlx hit1 hlt1 hg1 hs1 hf hL
      obtain ⟨hit2, ⟨Lc, U, pm1, so1, ft1⟩, mbl, rl, kw1⟩ := CB.out
      have HG := Lib.hid ((HH.out.kp kw1).row f g HF.out.1 HF.out.2).2.2
      have KA := (Kp.refl w1).alloc (rowU (V f)) 61
      have NA : NewArr (w1.alloc (.cells (rowU (V f)) 61)) (w.heap.size + 1) w.heap.size n Lc (V f) (some w1.heap.size) := ⟨fun k hk => Nat.ne_of_lt (pm1.lt hk), Blk.new w1 _ _⟩
      obtain ⟨w5, hst, hpm, htu⟩ := (pm1.kp KA).store HF.out.1 w1.heap.size (V f) NA (fun p => HH.out.wf f p)
      have d4 := (pm1.kp KA).hb.cell 1
      have hal := zero_arr
      have HIT := Lib.hid ((hit2.kp KA).turned htu (fun e => by omega) (fun e => (ft1 w.heap.size (.inr (.inl rfl))).2 e.symm))
      have HKW := Lib.hid ((kw1.trans KA).turned htu (Nat.le_refl _))
      have HP := Lib.hid hpm
      have HSO := Lib.hid (so1.step f g HF.out.2)
      have HFT : Hid (∀ k, pfeet (w.heap.size + 1) w.heap.size n (setO Lc f (some w1.heap.size)) k → w.heap.size ≤ k ∧ k ≠ r) := Lib.hid (fun k hk => by
        rcases pfeet_set hk with q | q
        · exact ft1 k q
        · cases q
          have := hit2.lt
          exact ⟨kw1.size, by omega⟩)
      have HB := Lib.hid (And.intro mbl rl)
      clear hit2 pm1 so1 ft1 mbl rl kw1 KA NA hpm htu
      generalize hRU : rowU (V f) = RU at *
      have HRS : Hid (RU.size = 512 ∧ RU.all (·.oneCell') = true) := Lib.hid (by subst hRU; exact ⟨by simp [rowU], by simp [rowU, Value.oneCell']⟩)
      clear hRU
      go_wp2_with (first
        | (refine wpList_load_row rfl 61 (.tmp 27) rfl g rfl _ _ _ _ HG.out Try.underlying61 rfl (by rw [HRS.out.1]; kernel_rfl) ?_)
        | (refine wpList_store_row rfl 61 (.tmp 6) (.tmp 28) rfl w1.heap.size RU rfl rfl _ _ (heap_alloc_last _ _) (by rw [HRS.out.1]; kernel_rfl) (by rw [HRS.out.1]; simp [rowU]) HRS.out.2 ?_; rw [World.setRow_alloc_new]))
      go_roundw
      case rel => exact ⟨_, _, HIT.out, ⟨_, _, HP.out, HSO.out, HFT.out⟩, HB.out.1, HB.out.2, HKW.out⟩
      case measure => rw [HIT.out.left_eq, HMe.out.1.left_eq]; exact HMe.out.2
end Go.Proofs.Ytnjdglejcfdonaa
