/-
  The law's memory of four frames: what an entry writes there. No condition.
-/
import Derived.Test.YtgjjbgijdgihcaaDoorRow09
import Derived.Laws.MakeOwn
namespace Go.Proofs.YtgjjbgijdgihcaaDoor
open Go Go.RowKit

/-- Block g begins with 2048 words. -/
def MemG (w : World) (g : Nat) (M : Nat → Nat) : Prop := ∃ cur, Blk w g cur 24 ∧ 2048 ≤ cur.size ∧ ∀ i, i < 2048 → cur[i]? = some (.int .u64 (M i : Nat))
theorem MemG.kp {w w' : World} {g : Nat} {M : Nat → Nat} (h : MemG w g M) (k : Kp w w') : MemG w' g M := by
  obtain ⟨cur, h1, h2⟩ := h; exact ⟨cur, h1.kp k, h2⟩
theorem MemG.lt {w : World} {g : Nat} {M : Nat → Nat} (h : MemG w g M) : g < w.heap.size := by
  obtain ⟨cur, h1, h2⟩ := h; exact h1.lt
theorem MemG.cell {w : World} {g : Nat} {M : Nat → Nat} (h : MemG w g M) (i : Nat) (hi : i < 2048) : w.cell? ⟨g, i, none⟩ = some (.int .u64 (M i : Nat)) ∧ w.frozen? ⟨g, i, none⟩ = false := by
  obtain ⟨cur, h1, h2, h3⟩ := h
  exact ⟨(h1.cell i).trans (h3 i hi), h1.frozen i⟩
def updM (M : Nat → Nat) (i x : Nat) : Nat → Nat := fun j => if j = i then x else M j
theorem MemG.set {w : World} {g : Nat} {M : Nat → Nat} (h : MemG w g M) (i x : Nat) (hi : i < 2048) : MemG (w.setCell ⟨g, i, none⟩ (.int .u64 x)) g (updM M i x) := by
  obtain ⟨cur, h1, h2, h3⟩ := h
  refine ⟨_, h1.set i (.int .u64 x), by simpa using h2, fun j hj => ?_⟩
  rw [Array.getElem?_setIfInBounds]
  by_cases c : j = i
  · subst c
    rw [if_pos rfl, if_pos (by omega)]
    unfold updM
    rw [if_pos rfl]
  · rw [if_neg (fun q => c q.symm), h3 j hj]
    unfold updM
    rw [if_neg c]
theorem MemG.congr {w : World} {g : Nat} {M U : Nat → Nat} (h : MemG w g M) (e : ∀ i, i < 2048 → U i = M i) : MemG w g U := by
  obtain ⟨cur, h1, h2, h3⟩ := h
  exact ⟨cur, h1, h2, fun i hi => by rw [e i hi]; exact h3 i hi⟩
theorem u64_info : (Tryd.prog.info? 24).map (fun i => (i.zero, i.size, i.bytes)) = some (some (.int .u64 0), 1, 8) := by kernel_rfl
def newsM (M : Nat → Nat) : List Value := (List.range 2048).map fun i => .int .u64 (M i : Nat)
theorem newsM_at (M : Nat → Nat) (i : Nat) (h : i < 2048) : (newsM M)[i]? = some (.int .u64 (M i : Nat)) := by simp [newsM, h]
theorem newsM_len (M : Nat → Nat) : (newsM M).length = 2048 * 1 := by simp [newsM]
theorem newsM_one (M : Nat → Nat) : ∀ u ∈ newsM M, u.oneCell' = true := by
  intro u hu
  unfold newsM at hu
  rw [List.mem_map] at hu
  obtain ⟨i, _, rfl⟩ := hu
  rfl
theorem newsM_cells {w : World} {g : Nat} {M : Nat → Nat} (h : MemG w g M) : ∀ j u, (newsM M)[j]? = some u → w.cell? ((⟨g, 0, none⟩ : Addr).add j) = some u := by
  intro j u hj
  have q : (⟨g, 0, none⟩ : Addr).add j = ⟨g, j, none⟩ := by unfold Addr.add; split <;> simp_all
  have hl : j < 2048 := by have := (List.getElem?_eq_some_iff.1 hj).1; rw [newsM_len] at this; omega
  rw [newsM_at M j hl] at hj
  cases hj
  rw [q]
  exact (h.cell j hl).1
theorem fitsM : 0 + 2048 ≤ maxLen ∧ (0 + 2048) * 8 ≤ 140737488355328 := ⟨by unfold maxLen; omega, by omega⟩
/-- An empty row that was built. -/
theorem owns_empty (w : World) (B b : Nat) (hb : b = w.heap.size) (hB : B ≤ b) : (w.alloc (.cells #[] 24)).ownsRow B 24 1 (.slice (some ⟨b, 0, none⟩) 0 0) 0 [] := by
  subst hb
  exact ⟨by simp, .inr ⟨w.heap.size, 0, #[], rfl, hB, heap_alloc_new w _, Nat.le_refl _, by simp [maxLen], by simp, by simp⟩⟩
/-- The copy that is made. -/
theorem made_copy {w' : World} {v : Value} {M : Nat → Nat} {B : Nat} (h : w'.ownsRow B 24 1 v (0 + 2048) ([] ++ newsM M)) : ∃ g cap, v = .slice (some ⟨g, 0, none⟩) 2048 cap ∧ B ≤ g ∧ MemG w' g M := by
  rcases h.2 with ⟨_, hn⟩ | ⟨g, cap, cur, rfl, hb, hg, hn, hm, hs, ht⟩
  · omega
  · refine ⟨g, cap, rfl, hb, cur, hg, by omega, fun i hi => ?_⟩
    have q := newsM_at M i hi
    rw [List.nil_append] at ht
    rw [← ht, List.getElem?_take, if_pos (by omega)] at q
    simpa using q
theorem wpList_copy {ops : Array Oper} {rest : List Oper} {o : Oper} {a : Act} {w : World} {Q : Exit → Act → World → Prop} (hgd : o.guard = none) (s x : Operand)
    (ho : o.op = .call { callee := .builtin .append, args := #[s, x], argTypes := #[41, 41] }) (B b0 g cap : Nat) (M : Nat → Nat) (hs : a.eval s = .slice (some ⟨b0, 0, none⟩) 0 0) (hx : a.eval x = .slice (some ⟨g, 0, none⟩) 2048 cap)
    (hown : w.ownsRow B 24 1 (.slice (some ⟨b0, 0, none⟩) 0 0) 0 []) (hm : MemG w g M) (hB : B ≤ w.heap.size)
    (h : ∀ g' cap' w', MemG w' g' M → B ≤ g' → w.grownBy w' (some b0) → wpList Tryd.prog ops Q rest (a.put o.dst (.slice (some ⟨g', 0, none⟩) 2048 cap')) w') :
    wpList Tryd.prog ops Q (o :: rest) a w := by
  obtain ⟨i0, hi0, hz0, hz1, hz2⟩ := info_parts u64_info
  have hc := newsM_cells hm
  have hl := newsM_len M
  have h1 := newsM_one M
  have hmc : ∀ {w' : World} {v : Value}, w'.ownsRow B 24 1 v (0 + 2048) ([] ++ newsM M) → ∃ g cap, v = .slice (some ⟨g, 0, none⟩) 2048 cap ∧ B ≤ g ∧ MemG w' g M := fun h => made_copy h
  generalize newsM M = news at *
  refine wpList_append_own_at w hgd s x 41 ho B 24 i0 _ 1 8 Tryd.underlying41 hi0 hz0 hz1 hz2 rfl (by decide) _ 0 [] hs hown ⟨g, 0, none⟩ 2048 cap news hx hl hc h1 fitsM.1 fitsM.2 hB ?_
  intro v' w' h2 h3 _ _
  obtain ⟨g', cap', rfl, hb, hmg⟩ := hmc h2
  exact h g' cap' w' hmg hb h3
/-- Under way: the copy at g', the source at g, the entry's box. -/
def PutAt (w wr : World) (e : Ent) (g g' : Nat) (M U : Nat → Nat) : Prop := MemG wr g' U ∧ Blk wr w.heap.size (Ent.arr e) 26 ∧ MemG wr g M ∧ Kp w wr ∧ w.heap.size + 1 ≤ g'
theorem PutAt.set {w wr : World} {e : Ent} {g g' : Nat} {M U V : Nat → Nat} (h : PutAt w wr e g g' M U) (hg : g < w.heap.size) (i x : Nat) (hi : i < 2048) (hV : ∀ j, j < 2048 → V j = updM U i x j) : PutAt w (wr.setCell ⟨g', i, none⟩ (.int .u64 x)) e g g' M V := by
  obtain ⟨h1, h2, h3, h4, h5⟩ := h
  refine ⟨(h1.set i x hi).congr hV, h2.other (by show w.heap.size ≠ g'; omega) _, ?_, h4.setCell (by show w.heap.size ≤ g'; omega) _, h5⟩
  obtain ⟨cur, q1, q2, q3⟩ := h3
  exact ⟨cur, q1.other (by show g ≠ g'; omega) _, q2, q3⟩
theorem PutAt.keep {w wr : World} {e : Ent} {g g' : Nat} {M U V : Nat → Nat} (h : PutAt w wr e g g' M U) (hV : ∀ j, j < 2048 → V j = U j) : PutAt w wr e g g' M V := ⟨h.1.congr hV, h.2⟩
theorem PutAt.start {w w3 : World} {e : Ent} {g g' : Nat} {M U : Nat → Nat} (H : MemG w g M) (hmg : MemG w3 g' M) (hg' : w.heap.size + 1 ≤ g') (hgr : ((w.alloc (.cells (Ent.arr e) 26)).alloc (.cells #[] 24)).grownBy w3 (some (w.heap.size + 1))) (hU : ∀ j, j < 2048 → U j = M j) : PutAt w w3 e g g' M U := by
  have k1 : Kp w w3 := (((Kp.refl w).alloc _ _).alloc _ _).grown hgr (fun k hk => by cases hk; omega)
  exact ⟨hmg.congr hU, ((Blk.new w _ _).alloc _).grownOf hgr (by simp), H.kp k1, k1, hg'⟩
def mixM (e : Ent) (M : Nat → Nat) (k : Nat) : Nat → Nat := fun i => if i < k then putF M e i else M i
theorem mix_zero (e : Ent) (M : Nat → Nat) (j : Nat) : mixM e M 0 j = M j := by unfold mixM; rw [if_neg (by omega)]
theorem mix_full (e : Ent) (M : Nat → Nat) (j : Nat) (h : j < 2048) : mixM e M 2048 j = putF M e j := by unfold mixM; rw [if_pos h]
theorem mix_keep (e : Ent) (M : Nat → Nat) (k : Nat) (h : putF M e k = M k) (j : Nat) : mixM e M (k + 1) j = mixM e M k j := by
  unfold mixM
  by_cases c : j < k
  · rw [if_pos (by omega), if_pos c]
  · by_cases c2 : j = k
    · subst c2; rw [if_pos (by omega), if_neg c, h]
    · rw [if_neg (by omega), if_neg c]
theorem mix_set (e : Ent) (M : Nat → Nat) (k x : Nat) (h : putF M e k = x) (j : Nat) : mixM e M (k + 1) j = updM (mixM e M k) k x j := by
  show (if j < k + 1 then putF M e j else M j) = (if j = k then x else if j < k then putF M e j else M j)
  by_cases c2 : j = k
  · subst c2; rw [if_pos (by omega), if_pos rfl, h]
  · rw [if_neg c2]
    by_cases c : j < k
    · rw [if_pos (by omega), if_pos c]
    · rw [if_neg (by omega), if_neg c]
theorem quo_k (k : Nat) (h : k < 2048) : (IntKind.i64.wrap (Int.tdiv (k : Int) 512)) = ((k / 512 : Nat) : Int) := by
  rw [Int.tdiv_eq_ediv_of_nonneg (by omega), IntKind.wrap_i64]
  omega
theorem putF_zero (M : Nat → Nat) (e : Ent) (h : e.k = 2) (k : Nat) : putF M e k = if ((k / 512 : Nat) : Int) = e.fm then 0 else M k := by
  unfold putF
  rw [if_neg (fun q => by omega)]
  by_cases c : ((k / 512 : Nat) : Int) = e.fm
  · rw [if_pos ⟨h, c⟩, if_pos c]
  · rw [if_neg (fun q => c q.2), if_neg (fun q => by omega), if_neg c]
theorem putF_word (M : Nat → Nat) (e : Ent) (h : e.k = 0) (k : Nat) : putF M e k = if k = e.w then e.x else M k := by
  unfold putF
  by_cases c : k = e.w
  · rw [if_pos ⟨h, c⟩, if_pos c]
  · rw [if_neg (fun q => c q.2), if_neg (fun q => by omega), if_neg (fun q => by omega), if_neg c]
theorem putF_copy (M : Nat → Nat) (e : Ent) (h : e.k = 3) (k : Nat) : putF M e k = if ((k / 512 : Nat) : Int) = e.fm then M (e.fr.toNat * 512 + k % 512) else M k := by
  unfold putF
  rw [if_neg (fun q => by omega), if_neg (fun q => by omega)]
  by_cases c : ((k / 512 : Nat) : Int) = e.fm
  · rw [if_pos ⟨h, c⟩, if_pos c]
  · rw [if_neg (fun q => c q.2), if_neg c]
set_option maxHeartbeats 2000000 in
set_option maxRecDepth 20000 in
theorem put_none (M : Nat → Nat) (g cap : Nat) (e : Ent) (w : World) (h : MemG w g M) (h0 : e.k ≠ 0) (h2 : e.k ≠ 2) (h3 : e.k ≠ 3) :
    Calls Tryd.prog 21 #[.slice (some ⟨g, 0, none⟩) 2048 cap, .agg (Ent.arr e)] w fun r w' => ∃ g' cap', r = .returned (.slice (some ⟨g', 0, none⟩) 2048 cap') ∧ MemG w' g' (putF M e) ∧ Kp w w' := by
  obtain ⟨i0, hi0, hz0, hz1, hz2⟩ := info_parts u64_info
  have H := Lib.hid h
  clear h
  have hbox := Lib.hid H.out.lt
  have z0 : (e.k == 0) = false := by simp [h0]
  have z2 : (e.k == 2) = false := by simp [h2]
  have z3 : (e.k == 3) = false := by simp [h3]
  have HF : Hid (∀ k, putF M e k = M k) := Lib.hid (fun k => by unfold putF; rw [if_neg (fun q => h0 q.1), if_neg (fun q => h2 q.1), if_neg (fun q => h3 q.1)])
  clear h0 h2 h3
  have HS := fun (w3 : World) (g' : Nat) (U : Nat → Nat) (q1 : MemG w3 g' M) (q2 : w.heap.size + 1 ≤ g') q3 (q4 : ∀ j, j < 2048 → U j = M j) => PutAt.start (e := e) H.out q1 q2 q3 q4
  have HA := Lib.hid (show Ent.arr e = Ent.arr e from rfl)
  unfold Ent.arr at HS ⊢
  go_enter Tryd.func21, Tryd.ntmps21
  go_wp2_with (at_builtin; refine wpList_copy rfl (.tmp 8) (.tmp 9) rfl (w.heap.size + 1) (w.heap.size + 1) g cap M rfl rfl (owns_empty _ _ _ (by simp) (by omega)) ((H.out.kp ((Kp.refl w).alloc _ _)).kp ((Kp.refl _).alloc _ _)) (by simp) ?_; intro g' cap' w3 hmg hg' hgr; have HG := Lib.hid (fun U q => HS _ _ U hmg hg' hgr q); clear hmg hg' hgr)
  clear HS
  go_loopw [6, 7, 13] (fun _ _ i wr => ∃ k : Nat, k ≤ 2048 ∧ i = .int .i64 k ∧ PutAt w wr e g g' M (mixM e M k)) (fun _ _ i _ => 2048 - (intOf i).toNat)
  case atStart => exact ⟨0, by omega, rfl, HG.out _ (fun j _ => mix_zero e M j)⟩
  case round =>
    obtain ⟨k, hk, rfl, hp⟩ := hrel
    obtain ⟨w4, rfl⟩ : ∃ w4, w4 = wr := ⟨_, rfl⟩
    have HP := Lib.hid hp
    clear hp
    by_cases hkl : k = 2048
    · subst hkl
      go_wp2
      go_ret
      exact ⟨g', cap', rfl, HP.out.1.congr (fun j hj => (mix_full e M j hj).symm), HP.out.2.2.2.1⟩
    · have hk1 : k < 2048 := by omega
      have i0 : (0 : Int) ≤ (k : Int) := by omega
      have i1 : (k : Int) < 2048 := by omega
      have HL := Lib.hid hk1
      have c0 := HP.out.2.1.cell 0
      have c1 := HP.out.2.1.cell 1
      have c2 := HP.out.2.1.cell 2
      have c3 := HP.out.2.1.cell 3
      have c4 := HP.out.2.1.cell 4
      unfold Ent.arr at c0 c1 c2 c3 c4
      obtain ⟨d, hd⟩ : ∃ d : Nat, k / 512 = d := ⟨_, rfl⟩
      have HD := Lib.hid hd
      clear hk1 hk hkl hd
      go_wp2
      go_roundw
      case rel => exact ⟨k + 1, by have := HL.out; omega, by go_num, HP.out.keep (fun j _ => mix_keep e M k (HF.out k) j)⟩
      case measure => have := HL.out; simp [intOf]; omega

set_option maxHeartbeats 2000000 in
set_option maxRecDepth 20000 in
theorem put_zero (M : Nat → Nat) (g cap : Nat) (e : Ent) (w : World) (h : MemG w g M) (h2 : e.k = 2) :
    Calls Tryd.prog 21 #[.slice (some ⟨g, 0, none⟩) 2048 cap, .agg (Ent.arr e)] w fun r w' => ∃ g' cap', r = .returned (.slice (some ⟨g', 0, none⟩) 2048 cap') ∧ MemG w' g' (putF M e) ∧ Kp w w' := by
  obtain ⟨i0, hi0, hz0, hz1, hz2⟩ := info_parts u64_info
  have H := Lib.hid h
  clear h
  have hbox := Lib.hid H.out.lt
  have z0 : (e.k == 0) = false := by simp [h2]
  have z2 : (e.k == 2) = true := by simp [h2]
  have z3 : (e.k == 3) = false := by simp [h2]
  have HF := Lib.hid (putF_zero M e h2)
  clear h2
  have HS := fun (w3 : World) (g' : Nat) (U : Nat → Nat) (q1 : MemG w3 g' M) (q2 : w.heap.size + 1 ≤ g') q3 (q4 : ∀ j, j < 2048 → U j = M j) => PutAt.start (e := e) H.out q1 q2 q3 q4
  have HA := Lib.hid (show Ent.arr e = Ent.arr e from rfl)
  unfold Ent.arr at HS ⊢
  go_enter Tryd.func21, Tryd.ntmps21
  go_wp2_with (at_builtin; refine wpList_copy rfl (.tmp 8) (.tmp 9) rfl (w.heap.size + 1) (w.heap.size + 1) g cap M rfl rfl (owns_empty _ _ _ (by simp) (by omega)) ((H.out.kp ((Kp.refl w).alloc _ _)).kp ((Kp.refl _).alloc _ _)) (by simp) ?_; intro g' cap' w3 hmg hg' hgr; have HG := Lib.hid (fun U q => HS _ _ U hmg hg' hgr q); clear hmg hg' hgr)
  clear HS
  go_loopw [6, 7, 13] (fun _ _ i wr => ∃ k : Nat, k ≤ 2048 ∧ i = .int .i64 k ∧ PutAt w wr e g g' M (mixM e M k)) (fun _ _ i _ => 2048 - (intOf i).toNat)
  case atStart => exact ⟨0, by omega, rfl, HG.out _ (fun j _ => mix_zero e M j)⟩
  case round =>
    obtain ⟨k, hk, rfl, hp⟩ := hrel
    obtain ⟨w4, rfl⟩ : ∃ w4, w4 = wr := ⟨_, rfl⟩
    have HP := Lib.hid hp
    clear hp
    by_cases hkl : k = 2048
    · subst hkl
      go_wp2
      go_ret
      exact ⟨g', cap', rfl, HP.out.1.congr (fun j hj => (mix_full e M j hj).symm), HP.out.2.2.2.1⟩
    · have hk1 : k < 2048 := by omega
      have i0 : (0 : Int) ≤ (k : Int) := by omega
      have i1 : (k : Int) < 2048 := by omega
      have HL := Lib.hid hk1
      have c0 := HP.out.2.1.cell 0
      have c1 := HP.out.2.1.cell 1
      have c2 := HP.out.2.1.cell 2
      have c3 := HP.out.2.1.cell 3
      have c4 := HP.out.2.1.cell 4
      unfold Ent.arr at c0 c1 c2 c3 c4
      obtain ⟨d, hd⟩ : ∃ d : Nat, k / 512 = d := ⟨_, rfl⟩
      have HD := Lib.hid hd
      clear hk1 hk hkl hd
      obtain ⟨f0, f1⟩ := HP.out.1.cell k HL.out
      have HF1 := HF.out k
      rw [HD.out] at HF1
      have HF1 := Lib.hid HF1
      by_cases hq : (d : Int) = e.fm
      · have q1 : (((k : Int) / 512) == e.fm) = true := beq_iff_eq.2 (by have := HD.out; omega)
        have HFk := Lib.hid (HF1.out.trans (if_pos hq))
        clear hq
        go_wp2
        go_roundw
        case rel => exact ⟨k + 1, by have := HL.out; omega, by go_num, HP.out.set hbox.out k 0 HL.out (fun j _ => mix_set e M k 0 HFk.out j)⟩
        case measure => have := HL.out; simp [intOf]; omega
      · have q1 : (((k : Int) / 512) == e.fm) = false := beq_false_of_ne (by have := HD.out; omega)
        have HFk := Lib.hid (HF1.out.trans (if_neg hq))
        clear hq
        go_wp2
        go_roundw
        case rel => exact ⟨k + 1, by have := HL.out; omega, by go_num, HP.out.keep (fun j _ => mix_keep e M k HFk.out j)⟩
        case measure => have := HL.out; simp [intOf]; omega

set_option maxHeartbeats 2000000 in
set_option maxRecDepth 20000 in
theorem put_word (M : Nat → Nat) (g cap : Nat) (e : Ent) (w : World) (h : MemG w g M) (h2 : e.k = 0) :
    Calls Tryd.prog 21 #[.slice (some ⟨g, 0, none⟩) 2048 cap, .agg (Ent.arr e)] w fun r w' => ∃ g' cap', r = .returned (.slice (some ⟨g', 0, none⟩) 2048 cap') ∧ MemG w' g' (putF M e) ∧ Kp w w' := by
  obtain ⟨i0, hi0, hz0, hz1, hz2⟩ := info_parts u64_info
  have H := Lib.hid h
  clear h
  have hbox := Lib.hid H.out.lt
  have z0 : (e.k == 0) = true := by simp [h2]
  have z2 : (e.k == 2) = false := by simp [h2]
  have z3 : (e.k == 3) = false := by simp [h2]
  have HF := Lib.hid (putF_word M e h2)
  clear h2
  have HS := fun (w3 : World) (g' : Nat) (U : Nat → Nat) (q1 : MemG w3 g' M) (q2 : w.heap.size + 1 ≤ g') q3 (q4 : ∀ j, j < 2048 → U j = M j) => PutAt.start (e := e) H.out q1 q2 q3 q4
  have HA := Lib.hid (show Ent.arr e = Ent.arr e from rfl)
  unfold Ent.arr at HS ⊢
  go_enter Tryd.func21, Tryd.ntmps21
  go_wp2_with (at_builtin; refine wpList_copy rfl (.tmp 8) (.tmp 9) rfl (w.heap.size + 1) (w.heap.size + 1) g cap M rfl rfl (owns_empty _ _ _ (by simp) (by omega)) ((H.out.kp ((Kp.refl w).alloc _ _)).kp ((Kp.refl _).alloc _ _)) (by simp) ?_; intro g' cap' w3 hmg hg' hgr; have HG := Lib.hid (fun U q => HS _ _ U hmg hg' hgr q); clear hmg hg' hgr)
  clear HS
  go_loopw [6, 7, 13] (fun _ _ i wr => ∃ k : Nat, k ≤ 2048 ∧ i = .int .i64 k ∧ PutAt w wr e g g' M (mixM e M k)) (fun _ _ i _ => 2048 - (intOf i).toNat)
  case atStart => exact ⟨0, by omega, rfl, HG.out _ (fun j _ => mix_zero e M j)⟩
  case round =>
    obtain ⟨k, hk, rfl, hp⟩ := hrel
    obtain ⟨w4, rfl⟩ : ∃ w4, w4 = wr := ⟨_, rfl⟩
    have HP := Lib.hid hp
    clear hp
    by_cases hkl : k = 2048
    · subst hkl
      go_wp2
      go_ret
      exact ⟨g', cap', rfl, HP.out.1.congr (fun j hj => (mix_full e M j hj).symm), HP.out.2.2.2.1⟩
    · have hk1 : k < 2048 := by omega
      have i0 : (0 : Int) ≤ (k : Int) := by omega
      have i1 : (k : Int) < 2048 := by omega
      have HL := Lib.hid hk1
      have c0 := HP.out.2.1.cell 0
      have c1 := HP.out.2.1.cell 1
      have c2 := HP.out.2.1.cell 2
      have c3 := HP.out.2.1.cell 3
      have c4 := HP.out.2.1.cell 4
      unfold Ent.arr at c0 c1 c2 c3 c4
      obtain ⟨d, hd⟩ : ∃ d : Nat, k / 512 = d := ⟨_, rfl⟩
      have HD := Lib.hid hd
      clear hk1 hk hkl hd
      obtain ⟨f0, f1⟩ := HP.out.1.cell k HL.out
      have HF1 := Lib.hid (HF.out k)
      have u1 : IntKind.u64.wrap (k : Int) = (k : Int) := by rw [IntKind.wrap_u64]; omega
      by_cases hq : k = e.w
      · have q1 : ((k : Int) == (e.w : Int)) = true := beq_iff_eq.2 (by omega)
        have HFk := Lib.hid (HF1.out.trans (if_pos hq))
        clear hq
        go_wp2
        go_roundw
        case rel => exact ⟨k + 1, by have := HL.out; omega, by go_num, HP.out.set hbox.out k e.x HL.out (fun j _ => mix_set e M k e.x HFk.out j)⟩
        case measure => have := HL.out; simp [intOf]; omega
      · have q1 : ((k : Int) == (e.w : Int)) = false := beq_false_of_ne (by omega)
        have HFk := Lib.hid (HF1.out.trans (if_neg hq))
        clear hq
        go_wp2
        go_roundw
        case rel => exact ⟨k + 1, by have := HL.out; omega, by go_num, HP.out.keep (fun j _ => mix_keep e M k HFk.out j)⟩
        case measure => have := HL.out; simp [intOf]; omega

set_option maxHeartbeats 2000000 in
set_option maxRecDepth 20000 in
theorem put_copy (M : Nat → Nat) (g cap : Nat) (e : Ent) (w : World) (h : MemG w g M) (h2 : e.k = 3) (r0 : 0 ≤ e.fr) (r1 : e.fr < 4) :
    Calls Tryd.prog 21 #[.slice (some ⟨g, 0, none⟩) 2048 cap, .agg (Ent.arr e)] w fun r w' => ∃ g' cap', r = .returned (.slice (some ⟨g', 0, none⟩) 2048 cap') ∧ MemG w' g' (putF M e) ∧ Kp w w' := by
  obtain ⟨i0, hi0, hz0, hz1, hz2⟩ := info_parts u64_info
  have H := Lib.hid h
  clear h
  have hbox := Lib.hid H.out.lt
  have z0 : (e.k == 0) = false := by simp [h2]
  have z2 : (e.k == 2) = false := by simp [h2]
  have z3 : (e.k == 3) = true := by simp [h2]
  have HF := Lib.hid (putF_copy M e h2)
  obtain ⟨fr, hfr0, hfr4⟩ : ∃ fr : Nat, e.fr = fr ∧ fr < 4 := ⟨e.fr.toNat, by omega, by omega⟩
  have t0 : decide (0 ≤ (fr : Int)) = true := decide_eq_true (by omega)
  have t0' : (0 : Int) ≤ (fr : Int) := by omega
  have t1 : decide ((fr : Int) < 4) = true := decide_eq_true (by omega)
  have t1' : (fr : Int) < 4 := by omega
  have t2 : decide (fr < 4) = true := decide_eq_true hfr4
  have T4 := Lib.hid hfr4
  have HR := Lib.hid hfr0
  have HT0 := Lib.hid t0
  have HT1 := Lib.hid t1
  have HT2 := Lib.hid t2
  have HT3 := Lib.hid t0'
  have HT4 := Lib.hid t1'
  clear h2 r0 r1 hfr4 hfr0 t0 t1 t2 t0' t1'
  have HS := fun (w3 : World) (g' : Nat) (U : Nat → Nat) (q1 : MemG w3 g' M) (q2 : w.heap.size + 1 ≤ g') q3 (q4 : ∀ j, j < 2048 → U j = M j) => PutAt.start (e := e) H.out q1 q2 q3 q4
  have HA := Lib.hid (show Ent.arr e = Ent.arr e from rfl)
  unfold Ent.arr at HS ⊢
  go_enter Tryd.func21, Tryd.ntmps21
  go_wp2_with (at_builtin; refine wpList_copy rfl (.tmp 8) (.tmp 9) rfl (w.heap.size + 1) (w.heap.size + 1) g cap M rfl rfl (owns_empty _ _ _ (by simp) (by omega)) ((H.out.kp ((Kp.refl w).alloc _ _)).kp ((Kp.refl _).alloc _ _)) (by simp) ?_; intro g' cap' w3 hmg hg' hgr; have HG := Lib.hid (fun U q => HS _ _ U hmg hg' hgr q); clear hmg hg' hgr)
  clear HS
  go_loopw [6, 7, 13] (fun _ _ i wr => ∃ k : Nat, k ≤ 2048 ∧ i = .int .i64 k ∧ PutAt w wr e g g' M (mixM e M k)) (fun _ _ i _ => 2048 - (intOf i).toNat)
  case atStart => exact ⟨0, by omega, rfl, HG.out _ (fun j _ => mix_zero e M j)⟩
  case round =>
    obtain ⟨k, hk, rfl, hp⟩ := hrel
    obtain ⟨w4, rfl⟩ : ∃ w4, w4 = wr := ⟨_, rfl⟩
    have HP := Lib.hid hp
    clear hp
    by_cases hkl : k = 2048
    · subst hkl
      go_wp2
      go_ret
      exact ⟨g', cap', rfl, HP.out.1.congr (fun j hj => (mix_full e M j hj).symm), HP.out.2.2.2.1⟩
    · have hk1 : k < 2048 := by omega
      have i0 : (0 : Int) ≤ (k : Int) := by omega
      have i1 : (k : Int) < 2048 := by omega
      have HL := Lib.hid hk1
      have c0 := HP.out.2.1.cell 0
      have c1 := HP.out.2.1.cell 1
      have c2 := HP.out.2.1.cell 2
      have c3 := HP.out.2.1.cell 3
      have c4 := HP.out.2.1.cell 4
      unfold Ent.arr at c0 c1 c2 c3 c4
      obtain ⟨d, hd⟩ : ∃ d : Nat, k / 512 = d := ⟨_, rfl⟩
      have HD := Lib.hid hd
      clear hk1 hk hkl hd
      obtain ⟨f0, f1⟩ := HP.out.1.cell k HL.out
      have HF1 := HF.out k
      rw [HD.out] at HF1
      have hfr := HR.out
      have t0 := HT0.out
      have t1 := HT1.out
      have t2 := HT2.out
      have t3 := HT3.out
      have t4 := HT4.out
      rw [hfr] at c3
      rw [hfr, Int.toNat_natCast] at HF1
      have HF1 := Lib.hid HF1
      clear hfr
      obtain ⟨s0, s1⟩ := HP.out.2.2.1.cell (fr * 512 + k % 512) (by have := T4.out; have := HL.out; omega)
      by_cases hq : (d : Int) = e.fm
      · have q1 : (((k : Int) / 512) == e.fm) = true := beq_iff_eq.2 (by have := HD.out; omega)
        have HFk := Lib.hid (HF1.out.trans (if_pos hq))
        clear hq
        go_wp2
        go_roundw
        case rel => exact ⟨k + 1, by have := HL.out; omega, by go_num, HP.out.set hbox.out k _ HL.out (fun j _ => mix_set e M k _ HFk.out j)⟩
        case measure => have := HL.out; simp [intOf]; omega
      · have q1 : (((k : Int) / 512) == e.fm) = false := beq_false_of_ne (by have := HD.out; omega)
        have HFk := Lib.hid (HF1.out.trans (if_neg hq))
        clear hq
        go_wp2
        go_roundw
        case rel => exact ⟨k + 1, by have := HL.out; omega, by go_num, HP.out.keep (fun j _ => mix_keep e M k HFk.out j)⟩
        case measure => have := HL.out; simp [intOf]; omega

theorem put_any (M : Nat → Nat) (g cap : Nat) (e : Ent) (w : World) (h : MemG w g M) (hm : mayB e = true) (hf : e.fr < 4) :
    Calls Tryd.prog 21 #[.slice (some ⟨g, 0, none⟩) 2048 cap, .agg (Ent.arr e)] w fun r w' => ∃ g' cap', r = .returned (.slice (some ⟨g', 0, none⟩) 2048 cap') ∧ MemG w' g' (putF M e) ∧ Kp w w' := by
  rcases kinds hm with ⟨h0, _⟩ | h1 | ⟨h2, _⟩ | ⟨h3, q, _⟩
  · exact put_word M g cap e w h h0
  · exact put_none M g cap e w h (by omega) (by omega) (by omega)
  · exact put_zero M g cap e w h h2
  · exact put_copy M g cap e w h h3 q hf
end Go.Proofs.YtgjjbgijdgihcaaDoor
