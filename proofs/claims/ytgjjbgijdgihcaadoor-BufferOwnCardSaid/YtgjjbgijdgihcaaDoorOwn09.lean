/-
  In whatever order entries reach memory it comes to be what it would be in their own order: BufferOwn returns true. No condition but the table.
-/
import Derived.Test.YtgjjbgijdgihcaaDoorBar09
namespace Go.Proofs.YtgjjbgijdgihcaaDoor
open Go Go.RowKit

theorem and_low (n : Int) : bits .and .i64 n 65535 = n % 65536 := by
  have h1 : (BitVec.ofInt 64 65535).toNat = 2 ^ 16 - 1 := by decide
  have key : (BitVec.ofInt 64 n &&& BitVec.ofInt 64 65535).toNat = (n % ((2 ^ 64 : Nat) : Int)).toNat % 2 ^ 16 := by
    rw [BitVec.toNat_and, BitVec.toNat_ofInt, h1, Nat.and_two_pow_sub_one_eq_mod]
  show IntKind.i64.wrap ((BitVec.ofInt 64 n &&& BitVec.ofInt 64 65535).toNat : Nat) = n % 65536
  rw [key, IntKind.wrap_i64]
  omega
/-! Rows of numbers that the call owns. -/
def OwnsN (w : World) (B : Nat) (v : Value) (zs : List Int) : Prop := w.ownsRow B 3 1 v zs.length (zs.map (Value.int .i64))
theorem OwnsN.nil (w : World) (B : Nat) : OwnsN w B (.slice none 0 0) [] := World.ownsRow_nil w B _ _
theorem OwnsN.kp {w w' : World} {B : Nat} {v : Value} {zs : List Int} (h : OwnsN w B v zs) (g : Kp w w') : OwnsN w' B v zs := by
  refine ⟨h.1, ?_⟩
  rcases h.2 with hn | ⟨g', cap, cur, e, hb, hg, r⟩
  · exact .inl hn
  · exact .inr ⟨g', cap, cur, e, hb, (Below.block g g' (lt_of_block hg)).trans hg, r⟩
theorem OwnsN.row {w : World} {B : Nat} {v : Value} {zs : List Int} (h : OwnsN w B v zs) : ∃ a0 cap, v = .slice a0 zs.length cap ∧ ∀ (k : Nat) (z : Int), zs[k]? = some z → ∃ g, a0 = some ⟨g, 0, none⟩ ∧ w.cell? ⟨g, k, none⟩ = some (.int .i64 z) := by
  rcases h.2 with ⟨hv, hn⟩ | ⟨g, cap, cur, rfl, hb, hg, hn, hm, hs, ht⟩
  · have := List.eq_nil_of_length_eq_zero hn
    subst this
    exact ⟨none, 0, hv, fun k z hk => by simp at hk⟩
  · refine ⟨_, cap, rfl, fun k z hk => ⟨g, rfl, ?_⟩⟩
    have hB : Blk w g cur 3 := hg
    have hlt := (List.getElem?_eq_some_iff.1 hk).1
    have q : (zs.map (Value.int .i64))[k]? = some (.int .i64 z) := by rw [List.getElem?_map, hk]; rfl
    rw [← ht, List.getElem?_take, if_pos (by omega)] at q
    rw [hB.cell]
    simpa using q
theorem int_info : (Tryd.prog.info? 3).map (fun i => (i.zero, i.size, i.bytes)) = some (some (.int .i64 0), 1, 8) := by kernel_rfl
theorem fitsN {n : Nat} (h : n ≤ 1000) : n + 1 ≤ maxLen ∧ (n + 1) * 8 ≤ 140737488355328 := ⟨by unfold maxLen; omega, by omega⟩
theorem news_int (w : World) (z : Int) (t : TypeId) : ∀ j u, [Value.int .i64 z][j]? = some u → (w.alloc (.cells #[.int .i64 z] t)).cell? ((⟨w.heap.size, 0, none⟩ : Addr).add j) = some u := by
  intro j u h
  have q : (⟨w.heap.size, 0, none⟩ : Addr).add j = ⟨w.heap.size, j, none⟩ := by unfold Addr.add; split <;> simp_all
  rw [q, (Blk.new w _ t).cell]
  simpa using h
theorem OwnsN.next {w0 w w1 : World} {o : Obj} {v v' : Value} {zs : List Int} {z : Int} (h : OwnsN w w0.heap.size v zs) (hk : Kp w0 w) (h1 : w1.ownsRow w0.heap.size 3 1 v' (zs.length + 1) (zs.map (Value.int .i64) ++ [.int .i64 z])) (hg : (w.alloc o).grownBy w1 v.ownBlock) :
    OwnsN w1 w0.heap.size v' (zs ++ [z]) ∧ Kp w0 w1 := by
  refine ⟨?_, Kp.grown (Below.alloc hk hk.size o) hg fun j e => (World.ownsRow.lt h j e).1⟩
  unfold OwnsN
  rw [List.map_append, List.length_append]
  simpa using h1
def mays (R : List Ent) (k : Nat) : List Int := ((List.range k).filter fun i => mayAt R (i : Nat)).map fun (i : Nat) => (i : Int)
theorem mays_yes {R : List Ent} {k : Nat} (h : mayAt R (k : Nat) = true) : mays R (k + 1) = mays R k ++ [(k : Int)] := by simp [mays, List.range_succ, h]
theorem mays_no {R : List Ent} {k : Nat} (h : mayAt R (k : Nat) = false) : mays R (k + 1) = mays R k := by simp [mays, List.range_succ, h]
theorem mays_len (R : List Ent) (k : Nat) : (mays R k).length ≤ k := by
  unfold mays
  rw [List.length_map]
  have := List.length_filter_le (fun i => mayAt R (i : Nat)) (List.range k)
  rwa [List.length_range] at this
theorem mays_mem {R : List Ent} {k : Nat} {z : Int} (h : z ∈ mays R k) : ∃ i : Nat, z = (i : Int) ∧ i < k ∧ mayAt R (i : Nat) = true := by
  unfold mays at h
  rw [List.mem_map] at h
  obtain ⟨i, h1, rfl⟩ := h
  rw [List.mem_filter, List.mem_range] at h1
  exact ⟨i, rfl, h1.1, h1.2⟩
theorem mays_pos {R : List Ent} (h : okB R = true) (hn : R ≠ []) : 0 < (mays R R.length).length := by
  have h0 : 0 < R.length := List.length_pos_iff.2 hn
  have : (0 : Int) ∈ mays R R.length := by
    unfold mays
    rw [List.mem_map]
    exact ⟨0, by rw [List.mem_filter, List.mem_range]; exact ⟨h0, some_may h hn⟩, rfl⟩
  exact List.length_pos_iff.2 (fun q => by rw [q] at this; simp at this)
/-- A row of numbers that came in. -/
def Picks (w : World) (qa : Option Addr) (P : Nat) : Prop := ∀ k, k < P → ∃ b off z, qa = some ⟨b, off, none⟩ ∧ b < w.heap.size ∧ w.cell? ⟨b, off + k, none⟩ = some (.int .i64 z)
theorem Picks.kp {w w' : World} {qa : Option Addr} {P : Nat} (h : Picks w qa P) (g : Kp w w') : Picks w' qa P := fun k hk => by
  obtain ⟨b, off, z, h1, h2, h3⟩ := h k hk
  exact ⟨b, off, z, h1, Nat.lt_of_lt_of_le h2 g.size, (g.cell h2).trans h3⟩
theorem picks_of {L : List (List Value)} {b off : Nat} {qa : Option Addr} {w : World} (hs : L ≠ [] → qa = some ⟨b, off, none⟩) (hr : RowsIn w b off 1 [some .i64] L) (hb : L ≠ [] → b < w.heap.size) : Picks w qa L.length := fun k hk => by
  have hn : L ≠ [] := fun q => by rw [q] at hk; simp at hk
  obtain ⟨h1, h2⟩ := hr k _ (List.getElem?_eq_getElem hk)
  generalize L[k] = cs at h1 h2
  obtain ⟨_, _, rfl, ⟨z, rfl, -⟩, rfl⟩ := h1
  refine ⟨b, off, z, hs hn, hb hn, ?_⟩
  have := h2 0 _ rfl
  simpa using this
theorem own_bad (a0 : Option Addr) (cap N : Nat) (L : List Ent) (qa : Option Addr) (pc P : Nat) (w : World) (hT : TabsOk w) (hN : N = L.length) (h : RowE w a0 cap L) (hw : ∀ e ∈ L, e.wf) (hb : okB L = false ∨ 100 < P) :
    Calls Tryd.prog 4 #[.slice a0 N cap, .slice qa P pc] w fun r w' => r = .returned (.bool true) ∧ Kp w w' := by
  have HC := Lib.hid (pcheck_any a0 cap N L w hT hN h hw)
  have HWk := Lib.hid (fun w1 (g : Kp w w1) => wakes_any w1 (hT.kp g))
  clear hT hN h hw
  cases ho : okB L with
  | false =>
    rw [ho, if_neg (by decide)] at HC
    clear ho hb
    go_enter Tryd.func4, Tryd.ntmps4
    go_wp2_with fail
    refine HC.out.mono ?_; rintro r w1 ⟨rfl, hg⟩; have K1 := Lib.hid hg; clear hg
    go_wp2_with fail
    refine (HWk.out _ K1.out).mono ?_; rintro r w2 ⟨rfl, hg⟩; have K2 := Lib.hid (Kp.trans K1.out hg); clear hg
    go_wp2_with fail
    go_ret
    exact ⟨rfl, K2.out⟩
  | true =>
    rw [ho, if_pos rfl] at HC
    have hP : 100 < P := by rcases hb with q | q; (rw [ho] at q; cases q); exact q
    have d0 : decide ((100 : Int) < (P : Int)) = true := decide_eq_true (by omega)
    have d1 : decide (100 < P) = true := decide_eq_true hP
    clear ho hb hP
    go_enter Tryd.func4, Tryd.ntmps4
    go_wp2_with fail
    refine HC.out.mono ?_; rintro r w1 ⟨rfl, hg⟩; have K1 := Lib.hid hg; clear hg
    go_wp2_with fail
    refine (HWk.out _ K1.out).mono ?_; rintro r w2 ⟨rfl, hg⟩; have K2 := Lib.hid (Kp.trans K1.out hg); clear hg
    go_wp2_with fail
    go_ret
    exact ⟨rfl, K2.out⟩
def idM (k : Nat) : Nat → Nat := fun i => if i < k then i else 0
theorem idM_next (k : Nat) (j : Nat) : idM (k + 1) j = updM (idM k) k k j := by
  show (if j < k + 1 then j else 0) = if j = k then k else if j < k then j else 0
  by_cases c : j = k
  · subst c; simp
  · rw [if_neg c]
    by_cases d : j < k
    · rw [if_pos d, if_pos (by omega)]
    · rw [if_neg d, if_neg (by omega)]
def ID : Nat → Nat := idM 2048
def smallB (e : Ent) : Bool := decide (e.w < 2048) && decide (e.fm < 4) && decide (e.fr < 4)
/-- What the loop that takes them holds. -/
def OwnD (w wr : World) (L R : List Ent) (a1 : Option Addr) (c1 RN g1 g2 n : Nat) (M : Nat → Nat) : Prop := RN = R.length ∧ RowE wr a1 c1 R ∧ okB R = true ∧ (∀ e ∈ R, e.wf ∧ e.fr < 4) ∧ n + RN ≤ L.length ∧ putAll M R = putAll ID L ∧ MemG wr g1 M ∧ MemG wr g2 (putAll ID L) ∧ Kp w wr
def lenV : Value → Nat
  | .slice _ n _ => n
  | _ => 0
theorem OwnD.next {w wr wx : World} {L R : List Ent} {a1 a2 : Option Addr} {c1 RN X g1 g3 g2 n K : Nat} {M : Nat → Nat} {e : Ent} (h : OwnD w wr L R a1 c1 RN g1 g2 n M) (hm : mayAt R (K : Nat) = true) (he : R[K]? = some e) (hX : X = (firstL (R.eraseIdx K)).length) (hr : RowE wx a2 X (firstL (R.eraseIdx K))) (hg : MemG wx g3 (putF M e)) (hk : Kp wr wx) : OwnD w wx L (firstL (R.eraseIdx K)) a2 X X g3 g2 (n + 1) (putF M e) := by
  obtain ⟨h1, h2, h3, h4, h5, h6, h7, h8, h9⟩ := h
  have hK := (List.getElem?_eq_some_iff.1 he).1
  have hl := len_take hK
  exact ⟨hX, hr, okB_take h3 K, fun a ha => h4 a (List.mem_of_mem_eraseIdx (firstL_sub _ a ha)), by omega, by rw [own_step hm he M]; exact h6, hg, h8.kp hk, h9.trans hk⟩
theorem take_is (a0 : Option Addr) (cap N : Nat) (L : List Ent) (K : Nat) (e : Ent) (w : World) (hT : TabsOk w) (hN : N = L.length) (h : RowE w a0 cap L) (hw : ∀ e ∈ L, e.wf) (ho : okB L = true) (hm : mayAt L (K : Nat) = true) (he : L[K]? = some e) :
    Calls Tryd.prog 10 #[.slice a0 N cap, .int .i64 K] w fun r w' => ∃ a1, r = .returned (.tuple #[.slice a1 (firstL (L.eraseIdx K)).length (firstL (L.eraseIdx K)).length, .agg (Ent.arr e), .int .i64 0]) ∧ RowE w' a1 (firstL (L.eraseIdx K)).length (firstL (L.eraseIdx K)) ∧ Kp w w' := by
  have hK := (List.getElem?_eq_some_iff.1 he).1
  have q := ptake_any a0 cap N L K w hT hN h hw
  have e1 : takeB L K = (firstL (L.eraseIdx K), e, 0) := by unfold takeB; rw [ho, if_pos rfl, if_pos (by omega), hm, if_pos rfl, Int.toNat_natCast, List.getD_eq_getElem?_getD, he]; rfl
  rw [e1] at q
  exact q
theorem check_is (a0 : Option Addr) (cap N : Nat) (L : List Ent) (w : World) (hT : TabsOk w) (hN : N = L.length) (h : RowE w a0 cap L) (hw : ∀ e ∈ L, e.wf) (ho : okB L = true) :
    Calls Tryd.prog 15 #[.slice a0 N cap] w fun r w' => r = .returned (.int .i64 0) ∧ Kp w w' := by
  have q := pcheck_any a0 cap N L w hT hN h hw
  rwa [if_pos ho] at q
set_option maxRecDepth 20000 in
set_option maxHeartbeats 16000000 in
theorem own_ok (a0 : Option Addr) (cap N : Nat) (L : List Ent) (qa : Option Addr) (pc P : Nat) (w : World) (hT : TabsOk w) (hN : N = L.length) (h : RowE w a0 cap L) (hw : ∀ e ∈ L, e.wf) (hp : Picks w qa P) (ho : okB L = true) (hP : P ≤ 100) :
    Calls Tryd.prog 4 #[.slice a0 N cap, .slice qa P pc] w fun r w' => r = .returned (.bool true) ∧ Kp w w' := by
  have HC := Lib.hid (pcheck_any a0 cap N L w hT hN h hw)
  have HWk := Lib.hid (fun w1 (g : Kp w w1) => wakes_any w1 (hT.kp g))
  rw [ho, if_pos rfl] at HC
  have HT := Lib.hid hT
  have HE := Lib.hid hN
  have H := Lib.hid h
  have HW := Lib.hid hw
  have HO := Lib.hid ho
  have HPk := Lib.hid hp
  have HP := Lib.hid hP
  have hN8 : (N : Int) ≤ 8 := by have := (okB_parts ho).1; omega
  have d0 : decide ((100 : Int) < (P : Int)) = false := decide_eq_false (by omega)
  have d1 : decide (100 < P) = false := decide_eq_false (by omega)
  obtain ⟨Z, hZ, hmk⟩ := make_zero
  clear hT hN h hw ho hp hP
  go_enter Tryd.func4, Tryd.ntmps4
  go_wp2_with fail
  refine HC.out.mono ?_; rintro r w1 ⟨rfl, hg⟩
  have hM0 : MemG (w1.alloc (.cells Z 24)) w1.heap.size (idM 0) := ⟨Z, Blk.new w1 _ _, hZ.1, fun i hi => by rw [hZ.2 i hi]; rfl⟩
  have K1 := Lib.hid hg; clear hg
  have hsz : w.heap.size ≤ w1.heap.size := K1.out.size
  have HSz := Lib.hid hsz
  clear hsz hZ
  go_wp2_with fail
  clear hmk
  generalize hgg : w1.heap.size = g at *
  go_loopw [31] (fun i wr => ∃ (z : Int) (k : Nat), i = .int .i64 z ∧ z = (k : Int) ∧ k ≤ 2048 ∧ MemG wr g (idM k) ∧ Kp w wr) (fun i _ => 2048 - (intOf i).toNat)
  case atStart => exact ⟨0, 0, rfl, rfl, Nat.zero_le _, hM0, K1.out.alloc _ _⟩
  case round =>
    obtain ⟨z, k, rfl, hz, hk2, hG, hk⟩ := hrel
    obtain ⟨w3, rfl⟩ : ∃ w3, w3 = wr := ⟨_, rfl⟩
    have HK := Lib.hid hk
    have HG := Lib.hid hG
    clear hk hG hM0
    by_cases hkl : k = 2048
    · subst hkl
      obtain rfl : z = 2048 := hz
      clear hk2
      go_wp2_with fail
      have hg2 : MemG w3 g (putAll ID (L.take 0)) := HG.out
      go_loopw [7, 43] (fun s7 i wr => ∃ j g2 c2 : Nat, s7 = .slice (some ⟨g2, 0, none⟩) 2048 c2 ∧ i = .int .i64 j ∧ j ≤ N ∧ (∀ a ∈ L.take j, a.fr < 4) ∧ MemG wr g2 (putAll ID (L.take j)) ∧ MemG wr g ID ∧ Kp w wr) (fun _ i _ => N - (intOf i).toNat)
      case atStart => exact ⟨0, g, _, rfl, rfl, Nat.zero_le _, (fun a ha => by simp at ha), hg2, HG.out, HK.out⟩
      case round =>
        obtain ⟨j, g2, c2, rfl, rfl, hjN, hfr, hG2, hGi, hk⟩ := hrel
        obtain ⟨w4, rfl⟩ : ∃ w4, w4 = wr := ⟨_, rfl⟩
        have K4 := Lib.hid hk
        have HG2 := Lib.hid hG2
        have HGi := Lib.hid hGi
        have HFr := Lib.hid hfr
        clear hk hG2 hGi hg2 hfr HK HG
        by_cases hjl : j = N
        · subst hjl
          clear hjN
          have ht : L.take j = L := by rw [HE.out]; exact List.take_length
          rw [ht] at HG2 HFr
          go_wp2_with fail
          have hD0 : OwnD w w4 L L a0 cap j g g2 0 ID := ⟨HE.out, H.out.kp K4.out, HO.out, fun e he => ⟨HW.out e he, HFr.out e he⟩, by have := HE.out; omega, rfl, HGi.out, HG2.out, K4.out⟩
          go_loopw [5, 10, 11] (fun s5 s10 s11 wr => ∃ (n : Nat) (R : List Ent) (a1 : Option Addr) (c1 RN g1 cc : Nat) (M : Nat → Nat), s5 = .slice (some ⟨g1, 0, none⟩) 2048 cc ∧ s10 = .slice a1 RN c1 ∧ s11 = .int .i64 n ∧ OwnD w wr L R a1 c1 RN g1 g2 n M) (fun _ s10 _ _ => lenV s10)
          case atStart => exact ⟨0, L, a0, cap, j, g, _, ID, rfl, rfl, rfl, hD0⟩
          case round =>
            obtain ⟨n, R, a1, c1, RN, g1, cc, M, rfl, rfl, rfl, hD⟩ := hrel
            obtain ⟨w5, rfl⟩ : ∃ w5, w5 = wr := ⟨_, rfl⟩
            have HD := Lib.hid hD
            clear hD hD0
            by_cases hR0 : RN = 0
            · subst hR0
              have hRn : R = [] := List.eq_nil_of_length_eq_zero HD.out.1.symm
              have hM : M = putAll ID L := by have := HD.out.2.2.2.2.2.1; rw [hRn] at this; exact this
              have G1 := Lib.hid HD.out.2.2.2.2.2.2.1
              have G2 := Lib.hid HD.out.2.2.2.2.2.2.2.1
              have KD := Lib.hid HD.out.2.2.2.2.2.2.2.2
              rw [hM] at G1
              clear hRn hM HD
              go_wp2_with fail
              go_loopw [133] (fun i wr => ∃ q : Nat, i = .int .i64 q ∧ q ≤ 2048 ∧ Kp w5 wr) (fun i _ => 2048 - (intOf i).toNat)
              case atStart => exact ⟨0, rfl, Nat.zero_le _, Kp.refl _⟩
              case round =>
                obtain ⟨q, rfl, hq2, hk⟩ := hrel
                obtain ⟨w6, rfl⟩ : ∃ w6, w6 = wr := ⟨_, rfl⟩
                have K6 := Lib.hid hk
                clear hk
                by_cases hql : q = 2048
                · subst hql
                  go_wp2_with fail
                  refine (HWk.out _ (Kp.trans KD.out K6.out)).mono ?_; rintro r w7 ⟨rfl, hg⟩
                  have K7 := Lib.hid (Kp.trans (Kp.trans KD.out K6.out) hg); clear hg
                  go_wp2_with fail
                  go_ret
                  exact ⟨rfl, K7.out⟩
                have hql' : q < 2048 := by omega
                have q0 : (0 : Int) ≤ (q : Int) := by omega
                have q1 : (q : Int) < 2048 := by omega
                have e1 := ((G1.out.kp K6.out).cell q hql').1
                have e2 := ((G2.out.kp K6.out).cell q hql').1
                have HL := Lib.hid hql'
                generalize putAll ID L q = X at e1 e2
                clear hql hql' hq2
                go_wp2_with fail
                go_region
                all_goals
                  go_wp2_with fail
                  go_roundw
                  case rel => exact ⟨q + 1, by go_num, HL.out, K6.out.drew⟩
                  case measure => have := HL.out; simp [intOf]; omega
            have hRp : (0 : Int) < (RN : Int) := by omega
            have hRq : decide (0 < RN) = true := decide_eq_true (by omega)
            have hn8 : decide ((8 : Int) < (n : Int)) = false := decide_eq_false (by have := HD.out.2.2.2.2.1; have := HE.out; omega)
            have hn8' : decide (8 < n) = false := decide_eq_false (by have := HD.out.2.2.2.2.1; have := HE.out; omega)
            have hn9 : (n : Int) < 8 := by have := HD.out.2.2.2.2.1; have := HE.out; omega
            have hnn : (0 : Int) ≤ (n : Int) := by omega
            have hR8 : (RN : Int) ≤ 8 := by have := HD.out.2.2.2.2.1; have := HE.out; omega
            have HMy := Lib.hid (fun w7 (g7 : Kp w5 w7) (k : Nat) (v : Bool) (hv : mayAt R (k : Nat) = v) => may_is a1 c1 RN R k v w7 (HT.out.kp (Kp.trans HD.out.2.2.2.2.2.2.2.2 g7)) HD.out.1 (HD.out.2.1.kp g7) (fun e he => (HD.out.2.2.2.1 e he).1) hv)
            have HR0 := Lib.hid hR0
            clear hR0
            obtain ⟨i0, hi0, hz0, hz1, hz2⟩ := info_parts int_info
            go_wp2_with fail
            go_loopw [12, 75] (fun s12 i wi => ∃ k : Nat, i = .int .i64 k ∧ k ≤ RN ∧ OwnsN wi w5.heap.size s12 (mays R k) ∧ Kp w5 wi) (fun _ i _ => RN - (intOf i).toNat)
            case atStart => exact ⟨0, rfl, Nat.zero_le _, OwnsN.nil _ _, Kp.refl _⟩
            case round =>
              obtain ⟨k, rfl, hkR, hon, hk⟩ := hrel
              obtain ⟨w6, rfl⟩ : ∃ w6, w6 = wr := ⟨_, rfl⟩
              have K6 := Lib.hid hk
              have HOn6 := Lib.hid hon
              obtain ⟨am, cm, rfl, hrow⟩ := hon.row
              clear hk hon
              by_cases hkl : k = RN
              · subst hkl
                have HRow := Lib.hid hrow
                clear hkR hrow
                have hRne : R ≠ [] := fun q => HR0.out (by rw [HD.out.1, q]; rfl)
                have hML : 0 < (mays R k).length := by rw [HD.out.1]; exact mays_pos HD.out.2.2.1 hRne
                obtain ⟨ML, hMl⟩ : ∃ ML, (mays R k).length = ML := ⟨_, rfl⟩
                rw [hMl] at hML ⊢
                have hM0 : ((ML : Int) == 0) = false := by simp; omega
                have hMp : (0 : Int) < (ML : Int) := by omega
                have HMl := Lib.hid hMl
                have HTail : Hid (∀ t : Nat, t < ML → ∃ (K : Nat) (e : Ent) (gm : Nat), am = some ⟨gm, 0, none⟩ ∧ w6.cell? ⟨gm, t, none⟩ = some (.int .i64 (K : Nat)) ∧ mayAt R (K : Nat) = true ∧ R[K]? = some e) := Lib.hid (fun t ht => by
                  have hz : (mays R k)[t]? = some ((mays R k)[t]'(by omega)) := List.getElem?_eq_getElem _
                  generalize (mays R k)[t]'(by omega) = zt at hz
                  obtain ⟨K, rfl, hKl, hmK⟩ := mays_mem (List.mem_of_getElem? hz)
                  obtain ⟨gm, hgm, hcell⟩ := HRow.out t _ hz
                  have hKR : K < R.length := by rw [← HD.out.1]; exact hKl
                  exact ⟨K, R[K]'hKR, gm, hgm, hcell, hmK, List.getElem?_eq_getElem _⟩)
                clear hRne hMl
                by_cases hP0 : P = 0
                · have hPa : decide ((0 : Int) < (P : Int)) = false := decide_eq_false (by omega)
                  have hPb : decide (0 < P) = false := decide_eq_false (by omega)
                  clear hP0
                  obtain ⟨K, e, gm, rfl, hcell, hmK, heK⟩ := HTail.out 0 hML
                  have HmK := Lib.hid hmK
                  have HeK := Lib.hid heK
                  have HTk := Lib.hid (take_is a1 c1 k R K e w6 (HT.out.kp (Kp.trans HD.out.2.2.2.2.2.2.2.2 K6.out)) HD.out.1 (HD.out.2.1.kp K6.out) (fun a ha => (HD.out.2.2.2.1 a ha).1) HD.out.2.2.1 hmK heK)
                  unfold Ent.arr at HTk
                  have hXl : (firstL (R.eraseIdx K)).length < k := by rw [HD.out.1]; exact len_take (List.getElem?_eq_some_iff.1 heK).1
                  have hok' := okB_take HD.out.2.2.1 K
                  have hwf' : ∀ a ∈ firstL (R.eraseIdx K), a.wf := fun a ha => (HD.out.2.2.2.1 a (List.mem_of_mem_eraseIdx (firstL_sub _ a ha))).1
                  obtain ⟨R', hR'⟩ : ∃ R', firstL (R.eraseIdx K) = R' := ⟨_, rfl⟩
                  have HR' := Lib.hid hR'
                  rw [hR'] at HTk hXl hok' hwf'
                  obtain ⟨X, hX⟩ : ∃ X, R'.length = X := ⟨_, rfl⟩
                  have HX := Lib.hid hX
                  rw [hX] at HTk hXl
                  have HOk' := Lib.hid hok'
                  have HWf' := Lib.hid hwf'
                  have HXl := Lib.hid hXl
                  have x0 : decide ((k : Int) ≤ (X : Int)) = false := decide_eq_false (by omega)
                  have x1 : decide (k ≤ X) = false := decide_eq_false (by omega)
                  clear hmK heK hXl hok' hwf' hR' hX hML
                  go_wp2_with fail
                  refine HTk.out.mono ?_; rintro r w7 ⟨a2, rfl, hr, hg⟩
                  have kb := kpA w7 #[.int .i8 e.k, .int .u64 e.w, .int .u64 e.x, .int .i64 e.fr, .int .i64 e.fm] 26
                  have K7 := Lib.hid (Kp.trans (Kp.trans K6.out hg) kb)
                  have BX := Lib.hid (Blk.new w7 #[.int .i8 e.k, .int .u64 e.w, .int .u64 e.x, .int .i64 e.fr, .int .i64 e.fm] 26)
                  have HR2 := Lib.hid (hr.kp kb)
                  clear hr hg kb hcell
                  go_wp2_with fail
                  refine (check_is a2 X X R' _ (HT.out.kp (Kp.trans HD.out.2.2.2.2.2.2.2.2 K7.out)) HX.out.symm HR2.out HWf'.out HOk'.out).mono ?_; rintro r w8 ⟨rfl, hg⟩
                  have K8 := Lib.hid (Kp.trans K7.out hg)
                  have HR3 := Lib.hid (HR2.out.kp hg)
                  obtain ⟨y0, y1, y2, y3, y4⟩ := Ent.five (BX.out.kp hg)
                  clear hg
                  go_wp2_with fail
                  refine (put_any M g1 cc e _ (HD.out.2.2.2.2.2.2.1.kp K8.out) ((okB_parts HD.out.2.2.1).2.1 e (List.mem_of_getElem? HeK.out)) (HD.out.2.2.2.1 e (List.mem_of_getElem? HeK.out)).2).mono ?_; rintro r w9 ⟨g9, c9, rfl, hG9, hg⟩
                  have K9 := Lib.hid (Kp.trans K8.out hg)
                  have HR4 := Lib.hid (HR3.out.kp hg)
                  have G9 := Lib.hid hG9
                  clear hg hG9 y0 y1 y2 y3 y4
                  go_wp2_with fail
                  go_roundw
                  case rel => exact ⟨n + 1, R', a2, X, X, g9, c9, putF M e, rfl, rfl, by go_num, by
                    have q := OwnD.next (X := X) (wx := w9) (a2 := a2) (g3 := g9) HD.out HmK.out HeK.out (by rw [HR'.out, HX.out]) (by rw [HR'.out]; exact HR4.out) G9.out K9.out
                    rw [HR'.out] at q
                    exact q⟩
                  case measure => exact HXl.out
                · have hPp : (0 : Int) < (P : Int) := by omega
                  have hPq : decide (0 < P) = true := decide_eq_true (by omega)
                  obtain ⟨m, hm⟩ : ∃ m : Nat, (n : Int) % (P : Int) = (m : Int) := ⟨n % P, by omega⟩
                  have hmP : m < P := by have := Int.emod_lt_of_pos (n : Int) hPp; omega
                  obtain ⟨bp, offp, zp, rfl, hbp, hzp⟩ := (HPk.out.kp (Kp.trans HD.out.2.2.2.2.2.2.2.2 K6.out)) m hmP
                  obtain ⟨q, hq⟩ : ∃ q : Nat, bits .and .i64 zp 65535 = (q : Int) := ⟨(zp % 65536).toNat, by rw [and_low]; omega⟩
                  obtain ⟨t, ht⟩ : ∃ t : Nat, (q : Int) % (ML : Int) = (t : Int) := ⟨q % ML, by omega⟩
                  have htM : t < ML := by have := Int.emod_lt_of_pos (q : Int) hMp; omega
                  obtain ⟨K, e, gm, rfl, hcell, hmK, heK⟩ := HTail.out t htM
                  have m0 : (0 : Int) ≤ (m : Int) := by omega
                  have m1 : (m : Int) < (P : Int) := by omega
                  have q0 : (0 : Int) ≤ (q : Int) := by omega
                  have t0 : (0 : Int) ≤ (t : Int) := by omega
                  have t1 : (t : Int) < (ML : Int) := by omega
                  clear hmP hbp htM
                  have HmK := Lib.hid hmK
                  have HeK := Lib.hid heK
                  have HTk := Lib.hid (take_is a1 c1 k R K e w6 (HT.out.kp (Kp.trans HD.out.2.2.2.2.2.2.2.2 K6.out)) HD.out.1 (HD.out.2.1.kp K6.out) (fun a ha => (HD.out.2.2.2.1 a ha).1) HD.out.2.2.1 hmK heK)
                  unfold Ent.arr at HTk
                  have hXl : (firstL (R.eraseIdx K)).length < k := by rw [HD.out.1]; exact len_take (List.getElem?_eq_some_iff.1 heK).1
                  have hok' := okB_take HD.out.2.2.1 K
                  have hwf' : ∀ a ∈ firstL (R.eraseIdx K), a.wf := fun a ha => (HD.out.2.2.2.1 a (List.mem_of_mem_eraseIdx (firstL_sub _ a ha))).1
                  obtain ⟨R', hR'⟩ : ∃ R', firstL (R.eraseIdx K) = R' := ⟨_, rfl⟩
                  have HR' := Lib.hid hR'
                  rw [hR'] at HTk hXl hok' hwf'
                  obtain ⟨X, hX⟩ : ∃ X, R'.length = X := ⟨_, rfl⟩
                  have HX := Lib.hid hX
                  rw [hX] at HTk hXl
                  have HOk' := Lib.hid hok'
                  have HWf' := Lib.hid hwf'
                  have HXl := Lib.hid hXl
                  have x0 : decide ((k : Int) ≤ (X : Int)) = false := decide_eq_false (by omega)
                  have x1 : decide (k ≤ X) = false := decide_eq_false (by omega)
                  clear hmK heK hXl hok' hwf' hR' hX hML
                  go_wp2_with fail
                  refine HTk.out.mono ?_; rintro r w7 ⟨a2, rfl, hr, hg⟩
                  have kb := kpA w7 #[.int .i8 e.k, .int .u64 e.w, .int .u64 e.x, .int .i64 e.fr, .int .i64 e.fm] 26
                  have K7 := Lib.hid (Kp.trans (Kp.trans K6.out hg) kb)
                  have BX := Lib.hid (Blk.new w7 #[.int .i8 e.k, .int .u64 e.w, .int .u64 e.x, .int .i64 e.fr, .int .i64 e.fm] 26)
                  have HR2 := Lib.hid (hr.kp kb)
                  clear hr hg kb hcell
                  go_wp2_with fail
                  refine (check_is a2 X X R' _ (HT.out.kp (Kp.trans HD.out.2.2.2.2.2.2.2.2 K7.out)) HX.out.symm HR2.out HWf'.out HOk'.out).mono ?_; rintro r w8 ⟨rfl, hg⟩
                  have K8 := Lib.hid (Kp.trans K7.out hg)
                  have HR3 := Lib.hid (HR2.out.kp hg)
                  obtain ⟨y0, y1, y2, y3, y4⟩ := Ent.five (BX.out.kp hg)
                  clear hg
                  go_wp2_with fail
                  refine (put_any M g1 cc e _ (HD.out.2.2.2.2.2.2.1.kp K8.out) ((okB_parts HD.out.2.2.1).2.1 e (List.mem_of_getElem? HeK.out)) (HD.out.2.2.2.1 e (List.mem_of_getElem? HeK.out)).2).mono ?_; rintro r w9 ⟨g9, c9, rfl, hG9, hg⟩
                  have K9 := Lib.hid (Kp.trans K8.out hg)
                  have HR4 := Lib.hid (HR3.out.kp hg)
                  have G9 := Lib.hid hG9
                  clear hg hG9 y0 y1 y2 y3 y4
                  go_wp2_with fail
                  go_roundw
                  case rel => exact ⟨n + 1, R', a2, X, X, g9, c9, putF M e, rfl, rfl, by go_num, by
                    have q := OwnD.next (X := X) (wx := w9) (a2 := a2) (g3 := g9) HD.out HmK.out HeK.out (by rw [HR'.out, HX.out]) (by rw [HR'.out]; exact HR4.out) G9.out K9.out
                    rw [HR'.out] at q
                    exact q⟩
                  case measure => exact HXl.out
              have hkl' : k < RN := by omega
              have k0 : (0 : Int) ≤ (k : Int) := by omega
              have k1 : (k : Int) < (RN : Int) := by omega
              have HL := Lib.hid hkl'
              have HFt := Lib.hid (fitsN (n := (mays R k).length) (by have := mays_len R k; omega))
              clear hkl hkl' hkR hrow
              cases hv : mayAt R (k : Nat) with
              | false =>
                have HV := Lib.hid hv
                clear hv
                go_wp2_with fail
                refine (HMy.out _ K6.out k false HV.out).mono ?_; rintro r w7 ⟨rfl, hg⟩
                have K7 := Lib.hid (Kp.trans K6.out hg)
                have HOn := Lib.hid (HOn6.out.kp hg)
                clear hg
                go_wp2_with fail
                go_roundw
                case rel => exact ⟨k + 1, by go_num, HL.out, by rw [mays_no HV.out]; exact HOn.out, K7.out⟩
                case measure => have := HL.out; simp [intOf]; omega
              | true =>
                have HV := Lib.hid hv
                clear hv
                go_wp2_with fail
                refine (HMy.out _ K6.out k true HV.out).mono ?_; rintro r w7 ⟨rfl, hg⟩
                have K7 := Lib.hid (Kp.trans K6.out hg)
                have HOn := Lib.hid (HOn6.out.kp hg)
                have HZ : Hid (w5.heap.size ≤ (w7.alloc (.cells #[.int .i64 (k : Nat)] 3)).heap.size) := Lib.hid ((K7.out.alloc _ _).size)
                clear hg
                go_wp2_with (at_builtin; refine wpList_append_own_at _ rfl (.tmp 81) (.tmp 83) _ rfl w5.heap.size 3 i0 _ 1 8 Tryd.underlying40 hi0 hz0 hz1 hz2 rfl (by decide) _ _ _ rfl (World.ownsRow.alloc HOn.out _) ⟨w7.heap.size, 0, none⟩ 1 1 [.int .i64 (k : Nat)] rfl rfl (news_int w7 k 3) (by simp [Value.oneCell']) HFt.out.1 HFt.out.2 HZ.out ?_; intro v8 w8 hown hgr _ _; have HA := Lib.hid (OwnsN.next HOn.out K7.out hown hgr); clear hown hgr)
                go_roundw
                case rel => exact ⟨k + 1, by go_num, HL.out, by rw [mays_yes HV.out]; exact HA.out.1, HA.out.2⟩
                case measure => have := HL.out; simp [intOf]; omega
        have hjN' : j < N := by omega
        have j0 : (0 : Int) ≤ (j : Int) := by omega
        have j1 : (j : Int) < (N : Int) := by omega
        have hx : L[j]? = some (L[j]'(by have := HE.out; omega)) := List.getElem?_eq_getElem _
        generalize L[j]'(by have := HE.out; omega) = e at hx
        have ht : L.take (j + 1) = L.take j ++ [e] := by rw [List.take_add_one, hx]; rfl
        have HTk := Lib.hid ht
        obtain ⟨b, off, rfl, hlt, hcc⟩ := (H.out.kp K4.out).at hx
        obtain ⟨x0, x1, x2, x3, x4⟩ := hcc j e hx
        have HJ := Lib.hid hjN'
        have HMe := Lib.hid ((okB_parts HO.out).2.1 e (List.mem_of_getElem? hx))
        have kb := kpA w4 #[.int .i8 e.k, .int .u64 e.w, .int .u64 e.x, .int .i64 e.fr, .int .i64 e.fm] 26
        have KB := Lib.hid (Kp.trans K4.out kb); have GB := Lib.hid (HG2.out.kp kb); have GBi := Lib.hid (HGi.out.kp kb)
        clear hcc hlt hx hjN hjl hjN' ht kb
        cases b0 : decide ((2048 : Int) ≤ (e.w : Int)) with
        | true =>
          go_wp2_with fail
          refine (HWk.out _ KB.out).mono ?_; rintro r w5 ⟨rfl, hg⟩
          have K5 := Lib.hid (Kp.trans KB.out hg); clear hg
          go_wp2_with fail
          go_ret
          exact ⟨rfl, K5.out⟩
        | false =>
          cases b1 : decide ((4 : Int) ≤ e.fm) with
          | true =>
            go_wp2_with fail
            refine (HWk.out _ KB.out).mono ?_; rintro r w5 ⟨rfl, hg⟩
            have K5 := Lib.hid (Kp.trans KB.out hg); clear hg
            go_wp2_with fail
            go_ret
            exact ⟨rfl, K5.out⟩
          | false =>
            cases b2 : decide ((4 : Int) ≤ e.fr) with
            | true =>
              go_wp2_with fail
              refine (HWk.out _ KB.out).mono ?_; rintro r w5 ⟨rfl, hg⟩
              have K5 := Lib.hid (Kp.trans KB.out hg); clear hg
              go_wp2_with fail
              go_ret
              exact ⟨rfl, K5.out⟩
            | false =>
              have hf4 : e.fr < 4 := by have := of_decide_eq_false b2; omega
              have HF4 := Lib.hid hf4
              clear hf4
              go_wp2_with fail
              refine (put_any (putAll ID (L.take j)) g2 c2 e _ GB.out HMe.out HF4.out).mono ?_; rintro r w5 ⟨g5, c5, rfl, hG5, hg⟩
              have K5 := Lib.hid (Kp.trans KB.out hg); have G5 := Lib.hid hG5; have G5i := Lib.hid (GBi.out.kp hg); clear hg hG5
              go_wp2_with fail
              go_roundw
              case rel => exact ⟨j + 1, g5, c5, rfl, by go_num, HJ.out, (fun a ha => by
                rw [HTk.out, List.mem_append] at ha
                rcases ha with ha | ha
                · exact HFr.out a ha
                · rw [List.mem_singleton] at ha; rw [ha]; exact HF4.out), by rw [HTk.out, putAll_append]; exact G5.out, G5i.out, K5.out⟩
              case measure => have := HJ.out; simp [intOf]; omega
    subst hz
    have hkl' : k < 2048 := by omega
    have k0 : (0 : Int) ≤ (k : Int) := by omega
    have k1 : (k : Int) < 2048 := by omega
    have hc := HG.out.cell k hkl'
    obtain ⟨c0, f0⟩ := hc
    have HL := Lib.hid hkl'
    clear hkl hkl' hk2
    go_wp2_with fail
    go_roundw
    case rel => exact ⟨(k : Int) + 1, k + 1, by go_num, by omega, HL.out, (HG.out.set k k HL.out).congr (fun j _ => idM_next k j), HK.out.setCell (by exact HSz.out) _⟩
    case measure => have := HL.out; simp [intOf]; omega
theorem own_any (a0 : Option Addr) (cap N : Nat) (L : List Ent) (qa : Option Addr) (pc P : Nat) (w : World) (hT : TabsOk w) (hN : N = L.length) (h : RowE w a0 cap L) (hw : ∀ e ∈ L, e.wf) (hp : Picks w qa P) :
    Calls Tryd.prog 4 #[.slice a0 N cap, .slice qa P pc] w fun r w' => r = .returned (.bool true) ∧ Kp w w' := by
  by_cases hb : okB L = false ∨ 100 < P
  · exact own_bad a0 cap N L qa pc P w hT hN h hw hb
  · have h1 : okB L = true := by cases q : okB L with | true => rfl | false => exact absurd (.inl q) hb
    exact own_ok a0 cap N L qa pc P w hT hN h hw hp h1 (by omega)
end Go.Proofs.YtgjjbgijdgihcaaDoor
