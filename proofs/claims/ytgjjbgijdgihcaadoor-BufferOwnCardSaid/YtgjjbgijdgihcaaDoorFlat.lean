/-
  Opening an argument whose cells are all integers and bools, through structs and arrays of any depth; and shutting any argument behind a call that left what lay as it lay. No condition.
-/
import Derived.Test.YtgjjbgijdgihcaaDoorBv
import Derived.Carry
import Derived.OpenShut
namespace Go.Proofs.YtgjjbgijdgihcaaDoor
open Go Go.RowKit Go.ChangeShapes Go.WideShapes

/-- The kinds of the cells of a row of fields that lie one behind the other from a place on. -/
def fieldKinds (kinds : TypeId → Option (List (Option IntKind))) (size : TypeId → Nat) : Nat → List Field → Option (List (Option IntKind))
  | _, [] => some []
  | off, f :: fs =>
    match kinds f.type, fieldKinds kinds size (off + size f.type) fs with
    | some a, some b => if f.offset = off ∧ a.length = size f.type then some (a ++ b) else none
    | _, _ => none
/-- The kinds of a type's cells, one by one: integers and bools (none), through structs and arrays. -/
def cellKinds (P : Program) : Nat → TypeId → Option (List (Option IntKind))
  | 0, _ => none
  | n + 1, t =>
    match P.underlying t with
    | some .bool => some [none]
    | some (.int k) => some [some k]
    | some (.struct fs) =>
      match fieldKinds (cellKinds P n) P.cellsOf 0 fs.toList with
      | some a => if a.length = P.cellsOf t then some a else none
      | none => none
    | some (.array m e) =>
      match cellKinds P n e with
      | some a => if a.length = P.cellsOf e ∧ m * a.length = P.cellsOf t then some (List.replicate m a).flatten else none
      | none => none
    | _ => none
def Fit : Option IntKind → Value → Prop
  | none, v => ∃ b, v = .bool b
  | some k, v => ∃ a, v = .int k a ∧ (Lit.int k a).wf = true
def AllFit : List (Option IntKind) → List Value → Prop
  | [], l => l = []
  | k :: ks, l => ∃ v r, l = v :: r ∧ Fit k v ∧ AllFit ks r
theorem AllFit.append : ∀ {a b : List (Option IntKind)} {l r : List Value}, AllFit a l → AllFit b r → AllFit (a ++ b) (l ++ r)
  | [], _, l, r, h, g => by obtain rfl : l = [] := h; exact g
  | k :: ks, _, l, r, h, g => by
    obtain ⟨v, s, rfl, hv, hs⟩ := h
    exact ⟨v, s ++ r, rfl, hv, hs.append g⟩
theorem AllFit.length : ∀ {a : List (Option IntKind)} {l : List Value}, AllFit a l → l.length = a.length
  | [], l, h => by obtain rfl : l = [] := h; rfl
  | k :: ks, l, h => by
    obtain ⟨v, s, rfl, _, hs⟩ := h
    simp [hs.length]

section
variable {H : Type} {enc : TypeId × Value → H} {P : Program} {w : World} {base : Nat} {spare : Nat → Bool} {held : Bool}
theorem fit_fields {n m : Nat} {cs : List Value} (ih : ∀ t ks cs x, cellKinds P n t = some ks → DataW.trod enc P w base spare held m t cs = some x → AllFit ks cs ∧ x.2 = []) :
    ∀ (fs : List Field) (off : Nat) (ks : List (Option IntKind)), fieldKinds (cellKinds P n) P.cellsOf off fs = some ks →
      (∀ f ∈ fs, ∃ y, DataW.trod enc P w base spare held m f.type ((cs.drop f.offset).take (P.cellsOf f.type)) = some y) → (cs.drop off).length = ks.length → AllFit ks (cs.drop off)
  | [], off, ks, h, _, hl => by
    simp [fieldKinds] at h
    subst h
    exact List.length_eq_zero_iff.1 hl
  | f :: fs, off, ks, h, hy, hl => by
    unfold fieldKinds at h
    split at h
    · rename_i a b ha hb
      split at h
      · rename_i hc
        obtain ⟨ho, hs⟩ := hc
        cases h
        obtain ⟨y, hyf⟩ := hy f (by simp)
        have h1 := (ih _ _ _ _ ha hyf).1
        have h2 := fit_fields ih fs _ _ hb (fun g hg => hy g (by simp [hg])) (by
          rw [List.length_append] at hl
          rw [← List.drop_drop, List.length_drop, hl]; omega)
        rw [ho] at h1
        have := h1.append h2
        rwa [← List.drop_drop, List.take_append_drop] at this
      · cases h
    · cases h
theorem fit_array {a : List (Option IntKind)} : ∀ (k : Nat) (cs : List Value), cs.length = k * a.length → (∀ i, i < k → AllFit a ((cs.drop (i * a.length)).take a.length)) → AllFit (List.replicate k a).flatten cs
  | 0, cs, hl, _ => by
    have e : cs = [] := by simpa using hl
    subst e; rfl
  | k + 1, cs, hl, h => by
    have h0 := h 0 (by omega)
    have h1 := fit_array (a := a) k (cs.drop a.length) (by rw [List.length_drop, hl, Nat.succ_mul]; omega) (fun i hi => by
      have := h (i + 1) (by omega)
      rwa [Nat.succ_mul, Nat.add_comm, ← List.drop_drop] at this)
    rw [Nat.zero_mul, List.drop_zero] at h0
    have := h0.append h1
    rw [List.take_append_drop] at this
    rwa [List.replicate_succ, List.flatten_cons]
theorem fit_of : ∀ (n : Nat) (m : Nat) (t : TypeId) (ks : List (Option IntKind)) (cs : List Value) (x : DataW H × List MemPlace), cellKinds P n t = some ks → DataW.trod enc P w base spare held m t cs = some x → AllFit ks cs ∧ x.2 = []
  | 0, _, _, _, _, _, h, _ => by simp [cellKinds] at h
  | n + 1, m, t, ks, cs, x, h, hx => by
    unfold cellKinds at h
    split at h
    · rename_i hu
      cases h
      cases m with
      | zero => simp [DataW.trod] at hx
      | succ m =>
        unfold DataW.trod at hx
        rw [hu] at hx
        split at hx <;> simp_all
        subst hx
        exact ⟨⟨_, _, rfl, ⟨_, rfl⟩, rfl⟩, rfl⟩
    · rename_i k hu
      cases h
      obtain ⟨a, rfl, rfl, wa⟩ := DataW.trod_int hu hx
      exact ⟨⟨_, _, rfl, ⟨a, rfl, wa⟩, rfl⟩, rfl⟩
    · rename_i fs hu
      split at h
      · rename_i a ha
        split at h
        · rename_i hc
          cases h
          obtain ⟨xs, m', rfl, rfl, hl, hn, hi⟩ := DataW.trod_struct hu hx
          have get : ∀ (i : Nat) (f : Field), fs[i]? = some f → ∃ y, xs[i]? = some y ∧ DataW.trod enc P w base spare held m' f.type ((cs.drop f.offset).take (P.cellsOf f.type)) = some y := by
            intro i f hf
            have hlt : i < xs.length := by
              rw [hn]
              exact (Array.getElem?_eq_some_iff.1 hf).1
            exact ⟨xs[i], by simp [hlt], by rw [hi i f hf]; simp [hlt]⟩
          refine ⟨?_, ?_⟩
          · have := fit_fields (cs := cs) (fun t ks cs x => fit_of n m' t ks cs x) fs.toList 0 ks ha (fun f hf => by
              obtain ⟨i, hlt, e⟩ := List.mem_iff_getElem.1 hf
              obtain ⟨y, _, hy⟩ := get i f (by rw [← e]; simp)
              exact ⟨y, hy⟩) (by simp; omega)
            simpa using this
          · have kinds : ∀ (l : List Field) (off : Nat) (ks : List (Option IntKind)), fieldKinds (cellKinds P n) P.cellsOf off l = some ks → ∀ f ∈ l, ∃ k, cellKinds P n f.type = some k := by
              intro l
              induction l with
              | nil => intro _ _ _ f hf; cases hf
              | cons g r ihl =>
                intro off ks hk f hf
                unfold fieldKinds at hk
                split at hk
                · rename_i a b ha hb
                  rcases List.mem_cons.1 hf with rfl | hf
                  · exact ⟨a, ha⟩
                  · exact ihl _ _ hb f hf
                · cases hk
            simp only [List.flatMap_eq_nil_iff]
            intro y hy
            obtain ⟨i, hlt, e⟩ := List.mem_iff_getElem.1 hy
            have hf : i < fs.size := by omega
            obtain ⟨y', e', hy'⟩ := get i fs[i] (by simp [hf])
            obtain ⟨k, hk⟩ := kinds _ _ _ ha fs[i] (by simp)
            have := (fit_of n m' _ _ _ _ hk hy').2
            have e2 : y' = y := by
              rw [List.getElem?_eq_getElem hlt] at e'
              simp at e'
              rw [← e', e]
            rw [← e2]; exact this
        · cases h
      · cases h
    · rename_i k e hu
      split at h
      · rename_i a ha
        split at h
        · rename_i hc
          cases h
          obtain ⟨xs, m', rfl, rfl, hl, hn, hi⟩ := DataW.trod_array hu hx
          have get : ∀ i, i < k → ∃ y, xs[i]? = some y ∧ DataW.trod enc P w base spare held m' e ((cs.drop (i * P.cellsOf e)).take (P.cellsOf e)) = some y := by
            intro i hik
            have hlt : i < xs.length := by omega
            exact ⟨xs[i], by simp [hlt], by rw [hi i hik]; simp [hlt]⟩
          refine ⟨fit_array k cs (by omega) (fun i hik => ?_), ?_⟩
          · obtain ⟨y, _, hy⟩ := get i hik
            rw [hc.1]
            exact (fit_of n m' _ _ _ _ ha hy).1
          · simp only [List.flatMap_eq_nil_iff]
            intro y hy
            obtain ⟨i, hlt, e1⟩ := List.mem_iff_getElem.1 hy
            obtain ⟨y', e', hy'⟩ := get i (by omega)
            have := (fit_of n m' _ _ _ _ ha hy').2
            have e2 : y' = y := by
              rw [List.getElem?_eq_getElem hlt] at e'
              simp at e'
              rw [← e', e1]
            rw [← e2]; exact this
        · cases h
      · cases h
    · cases h

/-- A struct or an array by value, all of whose cells are integers and bools: its cells one by one; it reads through no place. -/
theorem open_flat {r : Reach} {b0 n : Nat} {t : TypeId} {ks : List (Option IntKind)} {v : Value} {d : DataW H} {ps : List MemPlace} (hk : cellKinds P n t = some ks)
    (hs : (match P.underlying t with | some (.struct _) | some (.array _ _) => true | _ => false) = true) (hval : Value.okWide P w r b0 t v) (hd : DataW.Trod enc P w base spare held t v d ps) :
    ∃ l : List Value, v = .agg ⟨l⟩ ∧ AllFit ks l ∧ ps = [] := by
  obtain ⟨cs, rfl⟩ : ∃ cs, v = .agg cs := by
    unfold Value.okWide at hval
    split at hs
    · rename_i hu; rw [hu] at hval; obtain ⟨cs, h, _⟩ := hval; exact ⟨cs, h⟩
    · rename_i hu; rw [hu] at hval; obtain ⟨cs, h, _⟩ := hval; exact ⟨cs, h⟩
    · cases hs
  obtain ⟨fuel, hf⟩ := hd
  have := fit_of n fuel t ks _ _ hk hf
  exact ⟨cs.toList, rfl, this.1, this.2⟩

/-- Arguments read behind the call as they did ahead of it, if all that they were read through lies as it lay. -/
theorem trodAll_stay (hl : laidOutB P = true) {W W' : World} {sp' : Nat → Bool} : ∀ {ts : List TypeId} {vs : List Value} {ds : List (DataW H)} {ps : List MemPlace},
    (∀ t ∈ ts, P.readableRec t = true ∧ t < P.types.size) → DataW.TrodAll enc P W base (fun _ => true) true ts vs ds ps → (∀ p ∈ ps, W.sameAt W' p) → (∀ p ∈ ps, sp' p.block = true) → DataW.TrodAll enc P W' base sp' true ts vs ds ps
  | [], _, _, _, _, h, _, _ => by
    obtain ⟨rfl, rfl, rfl⟩ := trodAll_nil h
    exact trodAll_mk0
  | t :: ts, _, _, _, hr, h, hs, hp => by
    obtain ⟨v, vs, d, ds, p, q, rfl, rfl, rfl, h1, h2⟩ := trodAll_cons h
    exact trodAll_cons_mk (WideElems.Trod_stays hl (hr t (by simp)).1 (hr t (by simp)).2 h1 (fun x hx => hs x (by simp [hx])) (fun x hx => hp x (by simp [hx])))
      (trodAll_stay hl (fun u hu => hr u (by simp [hu])) h2 (fun x hx => hs x (by simp [hx])) (fun x hx => hp x (by simp [hx])))
/-- What a law's row asks behind a call that returned true and left what lay as it lay: no variable is listed. -/
theorem post_law {f : Func} {s : ChangeSpec} {apart fresh handsOn again : Bool} {W W' : World} {args : Array Value} {ds : List (DataW H)} {ps : List MemPlace} {tb : TypeId} (hl : laidOutB P = true)
    (hW : DataW.Whole enc P f.params.toList s.vars apart W args.toList ds [] ps) (hrd : ∀ t ∈ f.params.toList, P.readableRec t = true ∧ t < P.types.size) (hv : s.vars = []) (hfv : (s.fn H ds).vars = [])
    (hfr : (s.fn H ds).results = [.lit (.bool true)]) (hfa : (s.fn H ds).args = ds) (hrt : f.resultTypes = #[tb]) (hub : P.underlying tb = some .bool) (hb : Below W.heap.size W W') : s.post enc P f apart fresh handsOn again W args (.bool true) W' := by
  have lt : ∀ p ∈ ps, p.block < W.heap.size := fun p hp => hW.lt p hp
  have hW' := hW
  obtain ⟨p, q, hA, hV, rfl, hz, hn⟩ := hW
  rw [hv] at hV
  obtain ⟨-, rfl⟩ := trodVars_none hV
  rw [List.append_nil] at lt hz hn hW'
  have same : ∀ x ∈ p, W.sameAt W' x := fun x hx => hb.same (lt x hx)
  have res : ∀ (b : Nat) (sp : Nat → Bool) (hd : Bool), DataW.TrodAll enc P W' b sp hd f.resultTypes.toList ((Value.bool true).resultList f.resultTypes.size) (s.fn H (ds ++ [])).results [] := by
    intro b sp hd
    rw [List.append_nil, hfr, hrt]
    exact trodAll_cons_mk (shut_bool hub _) trodAll_mk0
  have arg : ∀ sp : Nat → Bool, (∀ x ∈ p, sp x.block = true) → DataW.TrodAll enc P W' 0 sp true f.params.toList args.toList (s.fn H (ds ++ [])).args p := by
    intro sp hsp
    rw [List.append_nil, hfa]
    exact trodAll_stay hl hrd hA same hsp
  have vrs : ∀ sp : Nat → Bool, DataW.TrodVars enc P W' sp s.vars (s.fn H (ds ++ [])).vars [] := by
    intro sp
    rw [List.append_nil, hfv, hv]
    rfl
  have both := trodAll_append (arg (fun _ => true) (fun _ _ => rfl)) (res 0 (fun _ => true) true)
  rw [List.nil_append] at both
  refine ⟨ds, [], p, [], p, [], hW', res _ _ _, arg _ (fun x hx => decide_eq_true (lt x hx)), vrs _, World.keptBut_mono (fun x hx => ⟨hx, .inr (.inl hx)⟩) (hb.frame (· ∈ p)), fun _ => ⟨?_, _, _, p, ⟨p, [], both, vrs _, (List.append_nil p).symm, ?_, hn⟩, fun x hx _ => hx⟩⟩
  · intro j t r hj hr
    rw [hrt] at hj hr
    match j, hj, hr with
    | 0, hj, hr =>
      simp [Value.resultList] at hj hr
      subst hj; subst hr
      simp [Value.okWide, hub, Cell.okWide, Cell.ok]
  · intro b off hx
    rw [hb.frozen (lt _ hx)]
    exact hz b off hx
end
end Go.Proofs.YtgjjbgijdgihcaaDoor
