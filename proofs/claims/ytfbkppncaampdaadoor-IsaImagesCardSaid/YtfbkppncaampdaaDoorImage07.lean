/-
  Image and the document's Image: rows of instructions as words. No condition but the tables.
-/
import Derived.Test.YtfbkppncaampdaaDoorLaws07
import Derived.Laws.MakeOwn
import Derived.OwnWalk
namespace Go.Proofs.YtfbkppncaampdaaDoor
open Go Go.RowKit

structure Ins where
  op : Int
  d : Int
  n : Int
  m : Int
  imm : Int
def Ins.ok (i : Ins) : Prop := OkA i.op i.d i.n i.m i.imm
instance (i : Ins) : Decidable i.ok := by unfold Ins.ok; infer_instance
def Ins.enc (i : Ins) : Nat := encN i.op i.d i.n i.m i.imm
def Ins.cells (i : Ins) : List Value := [.int .i8 i.op, .int .i8 i.d, .int .i8 i.n, .int .i8 i.m, .int .i64 i.imm]
/-- The argument's cells. -/
def InsAt (w : World) (b off : Nat) (L : List Ins) : Prop := ∀ k i, L[k]? = some i → (-128 ≤ i.op ∧ i.op < 128) ∧ ∀ j v, (Ins.cells i)[j]? = some v → w.cell? ⟨b, off + k * 5 + j, none⟩ = some v
theorem InsAt.kp {w w' : World} {b off : Nat} {L : List Ins} (h : InsAt w b off L) (hb : b < w.heap.size) (hk : Kp w w') : InsAt w' b off L := fun k i hi => ⟨(h k i hi).1, fun j v hv => (hk.cell hb).trans ((h k i hi).2 j v hv)⟩
def OwnsU (w : World) (B : Nat) (v : Value) (zs : List Nat) : Prop := w.ownsRow B 22 1 v zs.length (zs.map fun (z : Nat) => Value.int .u32 z)
theorem OwnsU.nil (w : World) (B : Nat) : OwnsU w B (.slice none 0 0) [] := World.ownsRow_nil w B _ _
theorem OwnsU.kp {w w' : World} {B : Nat} {v : Value} {ss : List Nat} (h : OwnsU w B v ss) (hk : Kp w w') : OwnsU w' B v ss := by
  refine ⟨h.1, ?_⟩
  rcases h.2 with h | ⟨g, cap, cur, rfl, hb, hg, hr⟩
  · exact .inl h
  · exact .inr ⟨g, cap, cur, rfl, hb, (Blk.kp (cs := cur) hg hk), hr⟩
theorem OwnsU.parts {w : World} {B : Nat} {v : Value} {ss : List Nat} (h : OwnsU w B v ss) :
    (v = .slice none 0 0 ∧ ss = []) ∨ ∃ g cap, v = .slice (some ⟨g, 0, none⟩) ss.length cap ∧ g < w.heap.size ∧ ss.length ≤ cap ∧ ∀ j z, ss[j]? = some z → w.cell? ⟨g, j, none⟩ = some (.int .u32 (z : Nat)) := by
  rcases h.2 with ⟨hv, hn⟩ | ⟨g, cap, cur, rfl, hb, hg, hn, hm, hs, ht⟩
  · exact .inl ⟨hv, List.eq_nil_of_length_eq_zero hn⟩
  · refine .inr ⟨g, cap, rfl, lt_of_block hg, hn, fun j z hj => ?_⟩
    have hb : Blk w g cur 22 := hg
    rw [hb.cell]
    have hj' : (ss.map fun (z : Nat) => Value.int .u32 z)[j]? = some (.int .u32 z) := by
      rw [List.getElem?_map, hj]; rfl
    have hlt := (List.getElem?_eq_some_iff.1 hj).1
    rw [← ht, List.getElem?_take] at hj'
    simpa [hlt] using hj'
theorem OwnsU.step {w w1 wz : World} {v v' : Value} {zs : List Nat} {a : Nat} (hz : Kp w wz) (ho : OwnsU wz w.heap.size v zs) (h1 : w1.ownsRow w.heap.size 22 1 v' (zs.length + 1) (zs.map (fun (z : Nat) => Value.int .u32 z) ++ [Value.int .u32 (a : Nat)])) (hg : wz.grownBy w1 v.ownBlock) :
    OwnsU w1 w.heap.size v' (zs ++ [a]) ∧ Kp w w1 := by
  refine ⟨?_, Kp.grown hz hg fun k e => (World.ownsRow.lt ho k e).1⟩
  unfold OwnsU
  rw [List.length_append, List.map_append]
  exact h1
theorem u32_info : (Tryd.prog.info? 22).map (fun i => (i.zero, i.size, i.bytes)) = some (some (.int .u32 0), 1, 4) := by kernel_rfl
theorem one_u32 (a : Nat) : ∀ u ∈ [Value.int .u32 (a : Nat)], u.oneCell' = true := by
  intro u hu
  simp at hu
  subst hu
  rfl
theorem fitsU {n : Nat} (h : n ≤ 2000) : n + 1 ≤ maxLen ∧ (n + 1) * 4 ≤ 140737488355328 := ⟨by unfold maxLen; omega, by omega⟩
/-- The answer: all words, or none. -/
def imgE (L : List Ins) : Int := if ∀ i ∈ L, i.ok then 0 else 60
def imgU (L : List Ins) : List Nat := if ∀ i ∈ L, i.ok then L.map Ins.enc else []
theorem enc_ok (i : Ins) (w : World) (hT : TAll w) (ho : -128 ≤ i.op ∧ i.op < 128) (h : i.ok) :
    Calls Tryd.prog 10 #[.agg #[.int .i8 i.op, .int .i8 i.d, .int .i8 i.n, .int .i8 i.m, .int .i64 i.imm]] w fun e w' => e = .returned (.tuple #[.int .u32 (i.enc : Nat), .int .i64 0]) ∧ Kp w w' := by
  have := encode_any i.op i.d i.n i.m i.imm w hT.1 hT.2.1.ok ho
  rw [show encR i.op i.d i.n i.m i.imm = i.enc from if_pos h, show encE i.op i.d i.n i.m i.imm = 0 from if_pos h] at this
  exact this
theorem enc_no (i : Ins) (w : World) (hT : TAll w) (ho : -128 ≤ i.op ∧ i.op < 128) (h : ¬ i.ok) :
    Calls Tryd.prog 10 #[.agg #[.int .i8 i.op, .int .i8 i.d, .int .i8 i.n, .int .i8 i.m, .int .i64 i.imm]] w fun e w' => e = .returned (.tuple #[.int .u32 0, .int .i64 60]) ∧ Kp w w' := by
  have := encode_any i.op i.d i.n i.m i.imm w hT.1 hT.2.1.ok ho
  rw [show encR i.op i.d i.n i.m i.imm = 0 from if_neg h, show encE i.op i.d i.n i.m i.imm = 60 from if_neg h] at this
  exact this
theorem renc_ok (i : Ins) (w : World) (h : i.ok) :
    Calls Tryd.prog 11 #[.agg #[.int .i8 i.op, .int .i8 i.d, .int .i8 i.n, .int .i8 i.m, .int .i64 i.imm]] w fun e w' => e = .returned (.tuple #[.int .u32 (i.enc : Nat), .int .i64 0]) ∧ Kp w w' := by
  have := rencode_any i.op i.d i.n i.m i.imm w
  rw [show encR i.op i.d i.n i.m i.imm = i.enc from if_pos h, show encE i.op i.d i.n i.m i.imm = 0 from if_pos h] at this
  exact this
theorem renc_no (i : Ins) (w : World) (h : ¬ i.ok) :
    Calls Tryd.prog 11 #[.agg #[.int .i8 i.op, .int .i8 i.d, .int .i8 i.n, .int .i8 i.m, .int .i64 i.imm]] w fun e w' => e = .returned (.tuple #[.int .u32 0, .int .i64 60]) ∧ Kp w w' := by
  have := rencode_any i.op i.d i.n i.m i.imm w
  rw [show encR i.op i.d i.n i.m i.imm = 0 from if_neg h, show encE i.op i.d i.n i.m i.imm = 60 from if_neg h] at this
  exact this
def firsts (L : List Ins) (k : Nat) : List Nat := (L.take k).map Ins.enc
theorem firsts_len {L : List Ins} {k : Nat} (h : k ≤ L.length) : (firsts L k).length = k := by simp [firsts]; omega
theorem firsts_succ {L : List Ins} {k : Nat} {i : Ins} (h : L[k]? = some i) : firsts L (k + 1) = firsts L k ++ [i.enc] := by
  unfold firsts
  rw [List.take_add_one, h]
  simp
def OkTo (L : List Ins) (k : Nat) : Prop := ∀ j i, j < k → L[j]? = some i → i.ok
theorem OkTo.succ {L : List Ins} {k : Nat} {i : Ins} (h : OkTo L k) (hi : L[k]? = some i) (ho : i.ok) : OkTo L (k + 1) := fun j x hj hx => by
  by_cases c : j = k
  · subst c
    rw [hi] at hx
    cases hx
    exact ho
  · exact h j x (by omega) hx
theorem OkTo.all {L : List Ins} (h : OkTo L L.length) : ∀ i ∈ L, i.ok := fun i hi => by
  obtain ⟨j, hj⟩ := List.getElem?_of_mem hi
  exact h j i (List.getElem?_eq_some_iff.1 hj).1 hj
theorem img_all {L : List Ins} (h : OkTo L L.length) : imgE L = 0 ∧ imgU L = firsts L L.length := by
  have h' := h.all
  refine ⟨if_pos h', (if_pos h').trans ?_⟩
  unfold firsts
  rw [List.take_length]
theorem img_bad {L : List Ins} {k : Nat} {i : Ins} (hi : L[k]? = some i) (ho : ¬ i.ok) : imgE L = 60 ∧ imgU L = [] := by
  have h' : ¬ ∀ i ∈ L, i.ok := fun h => ho (h i (List.mem_of_getElem? hi))
  exact ⟨if_neg h', if_neg h'⟩
/-! The walks. -/
set_option maxRecDepth 20000 in
set_option maxHeartbeats 2000000 in
theorem image_any (L : List Ins) (b off cap : Nat) (w : World) (hT : TAll w) (hL : InsAt w b off L) (hb : L ≠ [] → b < w.heap.size) (hn : L.length ≤ 1000) (a0 : Option Addr) (ha : L ≠ [] → a0 = some ⟨b, off, none⟩) :
    Calls Tryd.prog 14 #[.slice a0 L.length cap] w fun e w' => ∃ v, e = .returned (.tuple #[v, .int .i64 (imgE L)]) ∧ OwnsU w' w.heap.size v (imgU L) ∧ Kp w w' := by
  obtain ⟨ii0, hi0, hz0, hz1, hz2⟩ := info_parts u32_info
  have HT := Lib.hid hT
  have HL := Lib.hid hL
  have HB := Lib.hid hb
  have HN := Lib.hid hn
  have HA0 := Lib.hid ha
  obtain ⟨N, hN⟩ : ∃ N, N = L.length := ⟨_, rfl⟩
  rw [← hN]
  have HE := Lib.hid hN
  have hNI : (N : Int) ≤ 1000 := by omega
  clear hT hL hb hn hN ha
  go_enter Tryd.func14, Tryd.ntmps14
  go_wp2_with (at_make; refine wpList_make_own _ rfl _ _ 35 rfl w.heap.size 22 ii0 _ 1 Tryd.underlying35 hi0 hz0 hz1 _ _ _ N rfl rfl rfl (by rw [hz2]; have := HN.out; have := HE.out; omega) (by unfold maxLen; have := HN.out; have := HE.out; omega) (Nat.le_refl _) ?_; intro w1 hown hgrow; have HO1 : Hid (OwnsU w1 w.heap.size (.slice (some ⟨w.heap.size, 0, none⟩) 0 N) []) := Lib.hid hown; have HK1 : Hid (Kp w w1) := Lib.hid (Kp.grown (Kp.refl w) hgrow (fun k e => by cases e)); clear hown hgrow)
  go_loopw [4, 6, 7, 8, 14] (fun all s6 s7 s8 x wr => ∃ k : Nat, k ≤ N ∧ x = .int .i64 k ∧ OwnsU wr w.heap.size all (firsts L k) ∧ OkTo L k ∧ Kp w wr) (fun _ _ _ _ x _ => N - (intOf x).toNat)
  case atStart => exact ⟨0, by omega, rfl, HO1.out, fun j i hj => by omega, HK1.out⟩
  case round =>
    obtain ⟨k, hkN, rfl, hown, hok, hk⟩ := hrel
    obtain ⟨w3, rfl⟩ : ∃ w3, w3 = wr := ⟨_, rfl⟩
    have HOW := Lib.hid hown
    have HOT := Lib.hid hok
    have HK := Lib.hid hk
    clear hown hok hk
    by_cases hkN' : k = N
    · subst hkN'
      clear hkN
      go_wp2_with fail
      go_ret2
      have ht := HOT.out
      have ho := HOW.out
      rw [HE.out] at ht ho
      have hi := img_all ht
      exact ⟨u4, by rw [hi.1]; rfl, by rw [hi.2]; exact ho, HK.out⟩
    · have hkl : k < N := by omega
      have k0 : (0 : Int) ≤ (k : Int) := by omega
      have k1 : (k : Int) < (N : Int) := by omega
      have HKL := Lib.hid hkl
      have hne : L ≠ [] := fun h => by have := HE.out; rw [h] at this; simp at this; omega
      have hi : L[k]? = some (L[k]'(by have := HE.out; omega)) := List.getElem?_eq_getElem _
      generalize L[k]'(by have := HE.out; omega) = i at hi
      obtain ⟨hop, hcl⟩ := (HL.out.kp (HB.out hne) HK.out) k i hi
      have c0 : w3.cell? ⟨b, off + k * 5, none⟩ = some (.int .i8 i.op) := hcl 0 _ rfl
      have c1 : w3.cell? ⟨b, off + k * 5 + 1, none⟩ = some (.int .i8 i.d) := hcl 1 _ rfl
      have c2 : w3.cell? ⟨b, off + k * 5 + 2, none⟩ = some (.int .i8 i.n) := hcl 2 _ rfl
      have c3 : w3.cell? ⟨b, off + k * 5 + 3, none⟩ = some (.int .i8 i.m) := hcl 3 _ rfl
      have c4 : w3.cell? ⟨b, off + k * 5 + 4, none⟩ = some (.int .i64 i.imm) := hcl 4 _ rfl
      have HI := Lib.hid hi
      have HOP := Lib.hid hop
      have HM := Lib.hid (fitsU (n := (firsts L k).length) (by rw [firsts_len (by have := HE.out; omega)]; have := HN.out; have := HE.out; omega))
      obtain rfl := HA0.out hne
      have HK4 : Hid (Kp w (w3.alloc (.cells #[.int .i8 i.op, .int .i8 i.d, .int .i8 i.n, .int .i8 i.m, .int .i64 i.imm] 25))) := Lib.hid (HK.out.trans (kpA _ _ _))
      clear hkN hkN' hkl hne hi hop hcl
      by_cases ho : i.ok
      · have HOK := Lib.hid ho
        have HFS := Lib.hid (firsts_succ HI.out)
        clear ho
        go_wp2_with (first | (go_at_call 10; refine (enc_ok i _ (HT.out.kp HK4.out) HOP.out HOK.out).mono ?_; rintro e w4 ⟨rfl, hg⟩; have HK5 : Hid (Kp w (w4.alloc (.cells #[.int .u32 (i.enc : Nat)] 22))) := Lib.hid ((HK4.out.trans hg).alloc _ _); have HOW5 : Hid (OwnsU (w4.alloc (.cells #[.int .u32 (i.enc : Nat)] 22)) w.heap.size u4 (firsts L k)) := Lib.hid (HOW.out.kp (((kpA _ _ _).trans hg).alloc _ _)); clear hg) | (at_builtin; refine wpList_append_own_at _ rfl (.tmp 26) (.tmp 28) _ rfl w.heap.size 22 ii0 _ 1 4 Tryd.underlying35 hi0 hz0 hz1 hz2 rfl (by decide) _ _ _ rfl HOW5.out ⟨w4.heap.size, 0, none⟩ 1 1 [.int .u32 (i.enc : Nat)] rfl rfl (news_one (Blk.new w4 _ _)) (one_u32 _) HM.out.1 HM.out.2 HK5.out.size ?_; intro v' w5 hown1 hg1 hn1 hat1; have HA := Lib.hid (OwnsU.step HK5.out HOW5.out hown1 hg1); clear hown1 hg1 hn1 hat1))
        go_roundw
        case rel => exact ⟨k + 1, by have := HKL.out; omega, by go_num, HFS.out ▸ HA.out.1, HOT.out.succ HI.out HOK.out, HA.out.2⟩
        case measure => have := HKL.out; simp [intOf]; omega
      · have HOK := Lib.hid ho
        clear ho
        go_wp2_with (first | (go_at_call 10; refine (enc_no i _ (HT.out.kp HK4.out) HOP.out HOK.out).mono ?_; rintro e w4 ⟨rfl, hg⟩; have HK5 : Hid (Kp w w4) := Lib.hid (HK4.out.trans hg); clear hg))
        go_ret2
        have hb := img_bad HI.out HOK.out
        exact ⟨.slice none 0 0, by rw [hb.1]; rfl, by rw [hb.2]; exact OwnsU.nil _ _, HK5.out⟩
set_option maxRecDepth 20000 in
set_option maxHeartbeats 2000000 in
theorem rimage_any (L : List Ins) (b off cap : Nat) (w : World) (hL : InsAt w b off L) (hb : L ≠ [] → b < w.heap.size) (hn : L.length ≤ 1000) (a0 : Option Addr) (ha : L ≠ [] → a0 = some ⟨b, off, none⟩) :
    Calls Tryd.prog 15 #[.slice a0 L.length cap] w fun e w' => ∃ v, e = .returned (.tuple #[v, .int .i64 (imgE L)]) ∧ OwnsU w' w.heap.size v (imgU L) ∧ Kp w w' := by
  obtain ⟨ii0, hi0, hz0, hz1, hz2⟩ := info_parts u32_info
  have HL := Lib.hid hL
  have HB := Lib.hid hb
  have HN := Lib.hid hn
  have HA0 := Lib.hid ha
  obtain ⟨N, hN⟩ : ∃ N, N = L.length := ⟨_, rfl⟩
  rw [← hN]
  have HE := Lib.hid hN
  have hNI : (N : Int) ≤ 1000 := by omega
  clear hL hb hn hN ha
  go_enter Tryd.func15, Tryd.ntmps15
  go_wp2_with fail
  go_loopw [4, 5, 6, 7] (fun all x s6 s7 wr => ∃ k : Nat, k ≤ N ∧ x = .int .i64 k ∧ OwnsU wr w.heap.size all (firsts L k) ∧ OkTo L k ∧ Kp w wr) (fun _ x _ _ _ => N - (intOf x).toNat)
  case atStart => exact ⟨0, by omega, rfl, OwnsU.nil _ _, fun j i hj => by omega, Kp.refl _⟩
  case round =>
    obtain ⟨k, hkN, rfl, hown, hok, hk⟩ := hrel
    obtain ⟨w3, rfl⟩ : ∃ w3, w3 = wr := ⟨_, rfl⟩
    have HOW := Lib.hid hown
    have HOT := Lib.hid hok
    have HK := Lib.hid hk
    clear hown hok hk
    by_cases hkN' : k = N
    · subst hkN'
      clear hkN
      go_wp2_with fail
      go_ret2
      have ht := HOT.out
      have ho := HOW.out
      rw [HE.out] at ht ho
      have hi := img_all ht
      exact ⟨u4, by rw [hi.1]; rfl, by rw [hi.2]; exact ho, HK.out⟩
    · have hkl : k < N := by omega
      have k0 : (0 : Int) ≤ (k : Int) := by omega
      have k1 : (k : Int) < (N : Int) := by omega
      have HKL := Lib.hid hkl
      have hne : L ≠ [] := fun h => by have := HE.out; rw [h] at this; simp at this; omega
      have hi : L[k]? = some (L[k]'(by have := HE.out; omega)) := List.getElem?_eq_getElem _
      generalize L[k]'(by have := HE.out; omega) = i at hi
      obtain ⟨hop, hcl⟩ := (HL.out.kp (HB.out hne) HK.out) k i hi
      have c0 : w3.cell? ⟨b, off + k * 5, none⟩ = some (.int .i8 i.op) := hcl 0 _ rfl
      have c1 : w3.cell? ⟨b, off + k * 5 + 1, none⟩ = some (.int .i8 i.d) := hcl 1 _ rfl
      have c2 : w3.cell? ⟨b, off + k * 5 + 2, none⟩ = some (.int .i8 i.n) := hcl 2 _ rfl
      have c3 : w3.cell? ⟨b, off + k * 5 + 3, none⟩ = some (.int .i8 i.m) := hcl 3 _ rfl
      have c4 : w3.cell? ⟨b, off + k * 5 + 4, none⟩ = some (.int .i64 i.imm) := hcl 4 _ rfl
      have HI := Lib.hid hi
      have HOP := Lib.hid hop
      have HM := Lib.hid (fitsU (n := (firsts L k).length) (by rw [firsts_len (by have := HE.out; omega)]; have := HN.out; have := HE.out; omega))
      obtain rfl := HA0.out hne
      have HK4 : Hid (Kp w (w3)) := Lib.hid HK.out
      clear hkN hkN' hkl hne hi hop hcl
      by_cases ho : i.ok
      · have HOK := Lib.hid ho
        have HFS := Lib.hid (firsts_succ HI.out)
        clear ho
        go_wp2_with (first | (go_at_call 11; refine (renc_ok i _ HOK.out).mono ?_; rintro e w4 ⟨rfl, hg⟩; have HK5 : Hid (Kp w (w4.alloc (.cells #[.int .u32 (i.enc : Nat)] 22))) := Lib.hid ((HK4.out.trans hg).alloc _ _); have HOW5 : Hid (OwnsU (w4.alloc (.cells #[.int .u32 (i.enc : Nat)] 22)) w.heap.size u4 (firsts L k)) := Lib.hid (HOW.out.kp (hg.alloc _ _)); clear hg) | (at_builtin; refine wpList_append_own_at _ rfl (.tmp 25) (.tmp 27) _ rfl w.heap.size 22 ii0 _ 1 4 Tryd.underlying35 hi0 hz0 hz1 hz2 rfl (by decide) _ _ _ rfl HOW5.out ⟨w4.heap.size, 0, none⟩ 1 1 [.int .u32 (i.enc : Nat)] rfl rfl (news_one (Blk.new w4 _ _)) (one_u32 _) HM.out.1 HM.out.2 HK5.out.size ?_; intro v' w5 hown1 hg1 hn1 hat1; have HA := Lib.hid (OwnsU.step HK5.out HOW5.out hown1 hg1); clear hown1 hg1 hn1 hat1))
        go_roundw
        case rel => exact ⟨k + 1, by have := HKL.out; omega, by go_num, HFS.out ▸ HA.out.1, HOT.out.succ HI.out HOK.out, HA.out.2⟩
        case measure => have := HKL.out; simp [intOf]; omega
      · have HOK := Lib.hid ho
        clear ho
        go_wp2_with (first | (go_at_call 11; refine (renc_no i _ HOK.out).mono ?_; rintro e w4 ⟨rfl, hg⟩; have HK5 : Hid (Kp w w4) := Lib.hid (HK4.out.trans hg); clear hg))
        go_ret2
        have hb := img_bad HI.out HOK.out
        exact ⟨.slice none 0 0, by rw [hb.1]; rfl, by rw [hb.2]; exact OwnsU.nil _ _, HK5.out⟩
set_option maxRecDepth 20000 in
set_option maxHeartbeats 2000000 in
theorem images_any (L : List Ins) (b off cap : Nat) (w : World) (hT : TAll w) (hL : InsAt w b off L) (hb : L ≠ [] → b < w.heap.size) (hx : L.length ≤ 9223372036854775807) (a0 : Option Addr) (ha : L ≠ [] → a0 = some ⟨b, off, none⟩) :
    Calls Tryd.prog 5 #[.slice a0 L.length cap] w fun e w' => e = .returned (.bool true) ∧ Kp w w' := by
  by_cases hn : L.length ≤ 1000
  · have HT := Lib.hid hT
    have HI := Lib.hid (fun W (hk : Kp w W) => image_any L b off cap W (hT.kp hk) (fun k i hi => by
      refine ⟨(hL k i hi).1, fun j v hv => ?_⟩
      have hne : L ≠ [] := fun h => by rw [h] at hi; simp at hi
      exact (hk.cell (hb hne)).trans ((hL k i hi).2 j v hv)) (fun h => Nat.lt_of_lt_of_le (hb h) hk.size) hn a0 ha)
    have HJ := Lib.hid (fun W (hk : Kp w W) => rimage_any L b off cap W (fun k i hi => by
      refine ⟨(hL k i hi).1, fun j v hv => ?_⟩
      have hne : L ≠ [] := fun h => by rw [h] at hi; simp at hi
      exact (hk.cell (hb hne)).trans ((hL k i hi).2 j v hv)) (fun h => Nat.lt_of_lt_of_le (hb h) hk.size) hn a0 ha)
    have hUl : (imgU L).length ≤ 1000 := by
      unfold imgU
      split
      · simpa using hn
      · simp
    obtain ⟨N, hN⟩ : ∃ N, N = L.length := ⟨_, rfl⟩
    rw [← hN] at HI HJ ⊢
    have hNI : ¬ (1000 : Int) < (N : Int) := by omega
    generalize imgE L = E at HI HJ
    generalize imgU L = U at HI HJ hUl
    have HU := Lib.hid hUl
    clear hT hL hb hx ha hn hN hUl
    go_enter Tryd.func5, Tryd.ntmps5
    go_wp2_with fail
    refine (HI.out _ (Kp.refl _)).mono ?_
    rintro e w1 ⟨v1, rfl, ho1, hg⟩
    have HO1 := Lib.hid ho1
    have H1 := Lib.hid hg
    clear ho1 hg
    go_wp2_with fail
    refine (HJ.out _ H1.out).mono ?_
    rintro e w2 ⟨v2, rfl, ho2, hg⟩
    have HO2 := Lib.hid ho2
    have HO1' := Lib.hid (HO1.out.kp hg)
    have H2 := Lib.hid (H1.out.trans hg)
    clear ho2 hg HO1
    have HW := Lib.hid (fun W (hk : Kp w W) => wakes_any W (HT.out.kp hk))
    have HP1 := HO1'.out.parts
    have HP2 := HO2.out.parts
    clear HI HJ HO1' HO2
    cases U with
    | nil =>
      rcases HP1 with ⟨rfl, -⟩ | ⟨g1, cap1, rfl, -⟩
      · rcases HP2 with ⟨rfl, -⟩ | ⟨g2, cap2, rfl, -⟩
        · go_wp2_with fail
          refine wp_loop_rounds 1 ?_
          rw [rounds_succ]
          go_wp2_with (go_at_call 9; refine (HW.out _ H2.out).mono ?_; rintro e w4 ⟨rfl, hg⟩; have H4 := Lib.hid (H2.out.trans hg); clear hg)
          go_ret
          exact ⟨rfl, H4.out⟩
        · simp only [List.length_nil]
          go_wp2_with fail
          refine wp_loop_rounds 1 ?_
          rw [rounds_succ]
          go_wp2_with (go_at_call 9; refine (HW.out _ H2.out).mono ?_; rintro e w4 ⟨rfl, hg⟩; have H4 := Lib.hid (H2.out.trans hg); clear hg)
          go_ret
          exact ⟨rfl, H4.out⟩
      · rcases HP2 with ⟨rfl, -⟩ | ⟨g2, cap2, rfl, -⟩
        · simp only [List.length_nil]
          go_wp2_with fail
          refine wp_loop_rounds 1 ?_
          rw [rounds_succ]
          go_wp2_with (go_at_call 9; refine (HW.out _ H2.out).mono ?_; rintro e w4 ⟨rfl, hg⟩; have H4 := Lib.hid (H2.out.trans hg); clear hg)
          go_ret
          exact ⟨rfl, H4.out⟩
        · simp only [List.length_nil]
          go_wp2_with fail
          refine wp_loop_rounds 1 ?_
          rw [rounds_succ]
          go_wp2_with (go_at_call 9; refine (HW.out _ H2.out).mono ?_; rintro e w4 ⟨rfl, hg⟩; have H4 := Lib.hid (H2.out.trans hg); clear hg)
          go_ret
          exact ⟨rfl, H4.out⟩
    | cons u0 ur =>
      rcases HP1 with ⟨-, h⟩ | ⟨g1, cap1, rfl, hg1, -, hc1⟩
      · cases h
      rcases HP2 with ⟨-, h⟩ | ⟨g2, cap2, rfl, hg2, -, hc2⟩
      · cases h
      have HC := Lib.hid (And.intro hc1 hc2)
      have HG := Lib.hid (And.intro hg1 hg2)
      clear hc1 hc2 hg1 hg2
      generalize u0 :: ur = U at HC HU ⊢
      obtain ⟨nn, hnn⟩ : ∃ nn, nn = U.length := ⟨_, rfl⟩
      rw [← hnn]
      have HNN := Lib.hid hnn
      clear hnn
      go_wp2_with fail
      go_loopw [7] (fun x wr => ∃ k : Nat, k ≤ nn ∧ x = .int .i64 k ∧ Kp w2 wr) (fun x _ => nn - (intOf x).toNat)
      case atStart => exact ⟨0, by omega, rfl, Kp.refl _⟩
      case round =>
        obtain ⟨k, hk, rfl, hkp⟩ := hrel
        obtain ⟨w3, rfl⟩ : ∃ w3, w3 = wr := ⟨_, rfl⟩
        have HK := Lib.hid hkp
        clear hkp
        by_cases hkn : k = nn
        · subst hkn
          clear hk
          go_wp2_with (go_at_call 9; refine (HW.out _ (H2.out.trans HK.out)).mono ?_; rintro e w4 ⟨rfl, hg⟩; have H4 := Lib.hid (H2.out.trans (HK.out.trans hg)); clear hg)
          go_ret
          exact ⟨rfl, H4.out⟩
        · have hkl : k < nn := by omega
          have k0 : (0 : Int) ≤ (k : Int) := by omega
          have k1 : (k : Int) < (nn : Int) := by omega
          have hU : U[k]? = some (U[k]'(by have := HNN.out; omega)) := List.getElem?_eq_getElem _
          have c1 := (HK.out.cell HG.out.1).trans (HC.out.1 k _ hU)
          have c2 := (HK.out.cell HG.out.2).trans (HC.out.2 k _ hU)
          generalize U[k]'(by have := HNN.out; omega) = z at c1 c2
          have nb : (nn : Int) ≤ 1000 := by have := HNN.out; have := HU.out; omega
          have HKL := Lib.hid hkl
          clear hk hkn hkl hU
          go_wp2_with fail
          go_region
          go_wp2_with fail
          go_roundw
          case rel => exact ⟨k + 1, by have := HKL.out; omega, by go_num, HK.out.trans (Kp.refl _).drew⟩
          case measure => have := HKL.out; simp [intOf]; omega
  · have HT := Lib.hid hT
    obtain ⟨N, hN⟩ : ∃ N, N = L.length := ⟨_, rfl⟩
    rw [← hN] at hn hx ⊢
    have hNI : (1000 : Int) < (N : Int) := by omega
    clear hT hL hb hx ha hn hN
    go_enter Tryd.func5, Tryd.ntmps5
    go_wp2_with fail
    refine (wakes_any _ HT.out).mono ?_
    rintro e w1 ⟨rfl, hg⟩
    have H1 := Lib.hid hg
    clear hg
    go_wp2
    go_ret
    exact ⟨rfl, H1.out⟩
end Go.Proofs.YtfbkppncaampdaaDoor
