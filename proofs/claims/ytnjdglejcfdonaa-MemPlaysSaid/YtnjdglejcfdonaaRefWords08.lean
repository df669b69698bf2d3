/-
  The document's memory: the words of a frame that are not nought. No condition.
-/
import Derived.Test.YtnjdglejcfdonaaRefCopy08
import Derived.Maps.AppendAt
import Derived.Laws.OwnMore
import Derived.OwnWalk
namespace Go.Proofs.Ytnjdglejcfdonaa
open Go Go.RowKit

def cwl (U : Nat → Nat) (k : Nat) : List Nat := (List.range k).filter fun p => U p != 0
def cwC (U : Nat → Nat) (k : Nat) : List Value := (cwl U k).flatMap fun (p : Nat) => [.int .i64 (p : Int), .int .u64 (U p : Nat)]
theorem cwl_yes (U : Nat → Nat) (k : Nat) (h : U k ≠ 0) : cwl U (k + 1) = cwl U k ++ [k] := by simp [cwl, List.range_succ, h]
theorem cwl_no (U : Nat → Nat) (k : Nat) (h : U k = 0) : cwl U (k + 1) = cwl U k := by simp [cwl, List.range_succ, h]
theorem cwC_yes (U : Nat → Nat) (k : Nat) (h : U k ≠ 0) : cwC U (k + 1) = cwC U k ++ [.int .i64 k, .int .u64 (U k)] := by simp [cwC, cwl_yes U k h]
theorem cwC_no (U : Nat → Nat) (k : Nat) (h : U k = 0) : cwC U (k + 1) = cwC U k := by simp [cwC, cwl_no U k h]
theorem cwl_len (U : Nat → Nat) (k : Nat) : (cwl U k).length ≤ k := by
  have h := List.length_filter_le (fun p => U p != 0) (List.range k)
  simpa [cwl] using h
theorem cwl_nil (U : Nat → Nat) (k : Nat) (h : ∀ p, p < k → U p = 0) : cwl U k = [] := by
  unfold cwl
  rw [List.filter_eq_nil_iff]
  intro p hp
  simp [h p (List.mem_range.1 hp)]
theorem cw_info : (Try.prog.info? 66).map (fun i => (i.zero, i.size, i.bytes)) = some (some (.agg #[.int .i64 0, .int .u64 0]), 2, 16) := by kernel_rfl
theorem news_at2 (W : World) (cs : Array Value) (t : TypeId) : ∀ j u, cs.toList[j]? = some u → (W.alloc (.cells cs t)).cell? ((⟨W.heap.size, 0, none⟩ : Addr).add j) = some u := by
  intro j u h
  have e : (⟨W.heap.size, 0, none⟩ : Addr).add j = ⟨W.heap.size, j, none⟩ := by unfold Addr.add; split <;> simp_all
  rw [e, (Blk.new W cs t).cell]
  simpa using h
theorem one2 (a b : Int) : ∀ u ∈ (#[.int .i64 a, .int .u64 b] : Array Value).toList, u.oneCell' = true := by
  intro u hu
  simp at hu
  rcases hu with rfl | rfl <;> rfl
theorem fits2 {n : Nat} (h : n ≤ 512) : n + 1 ≤ maxLen ∧ (n + 1) * 16 ≤ 140737488355328 := ⟨by unfold maxLen; omega, by omega⟩
def OwnsC (w : World) (B : Nat) (v : Value) (U : Nat → Nat) (k : Nat) : Prop := w.ownsRow B 66 2 v (cwl U k).length (cwC U k)
theorem OwnsC.next {w wr w1 : World} {o : Obj} {v v' : Value} {U : Nat → Nat} {k : Nat} (h : OwnsC wr w.heap.size v U k) (hk : Kp w wr) (hz : U k ≠ 0) (h1 : w1.ownsRow w.heap.size 66 2 v' ((cwl U k).length + 1) (cwC U k ++ [.int .i64 k, .int .u64 (U k)])) (hg : (wr.alloc o).grownBy w1 v.ownBlock) :
    OwnsC w1 w.heap.size v' U (k + 1) ∧ Kp w w1 := by
  refine ⟨?_, Kp.grown (Below.alloc hk hk.size o) hg fun j e => (World.ownsRow.lt h j e).1⟩
  unfold OwnsC
  rw [cwC_yes U k hz, cwl_yes U k hz, List.length_append]
  exact h1
theorem OwnsC.stay {w : World} {B : Nat} {v : Value} {U : Nat → Nat} {k : Nat} (h : OwnsC w B v U k) (hz : U k = 0) : OwnsC w B v U (k + 1) := by
  unfold OwnsC
  rw [cwC_no U k hz, cwl_no U k hz]
  exact h
theorem rwords_no (x : Int) (w : World) (S : Nat → Prop) (b n : Nat) (V : Nat → Nat → Nat) (h : RMem w S b n V) (hx : okF n x = false) :
    Calls Try.prog 15 #[.pointer (some ⟨b, 0, none⟩), .int .i64 x] w fun e w' => e = .returned (.slice none 0 0) ∧ Kp w w' := by
  obtain ⟨lb, L, h, -⟩ := h
  have HC := Lib.hid (rframe_any x w b lb n L V h)
  unfold okF at hx
  rw [hx] at HC
  clear h hx
  go_enter Try.func15, Try.ntmps15
  go_wp2_with fail
  refine (HC.out).mono ?_; rintro e w1 ⟨rfl, hg⟩
  have H1 := Lib.hid hg; clear hg
  go_wp2
  go_ret
  exact ⟨rfl, H1.out⟩
set_option maxRecDepth 20000 in
set_option maxHeartbeats 1000000 in
theorem rwords_yes (f : Nat) (w : World) (S : Nat → Prop) (b n : Nat) (V : Nat → Nat → Nat) (h : RMem w S b n V) (hf : f < n) :
    Calls Try.prog 15 #[.pointer (some ⟨b, 0, none⟩), .int .i64 f] w fun e w' => ∃ v, e = .returned v ∧ OwnsC w' w.heap.size v (V f) 512 ∧ Kp w w' := by
  obtain ⟨lb, L, h, -⟩ := h
  have HC : Hid (Calls Try.prog 26 #[.pointer (some ⟨b, 0, none⟩), .int .i64 f] w fun e w' => e = .returned (.bool true) ∧ Kp _ w') := Lib.hid (by
    have q := rframe_any f _ b lb n L V h
    rwa [show (decide (0 ≤ (f : Int)) && decide ((f : Int) < n)) = true by simp; omega] at q)
  have HH := Lib.hid h
  have HF := Lib.hid hf
  have fi : (f : Int) < (n : Int) := by omega
  obtain ⟨i0, hi0, hz0, hz1, hz2⟩ := info_parts cw_info
  clear h hf
  cases hL : L f with
  | none =>
    go_enter Try.func15, Try.ntmps15
    go_wp2_with fail
    refine (HC.out).mono ?_; rintro e w1 ⟨rfl, hg⟩
    have H1 := Lib.hid hg; clear hg
    have HR := Lib.hid (HH.out.kp H1.out)
    have d0 := HR.out.hb.cell 0
    have d1 := (HR.out.hl.cell f).trans (rowsA_at L n f HF.out)
    rw [hL] at d1
    unfold rowV at d1
    go_wp2_with fail
    refine wp_loop_rounds 1 ?_
    rw [rounds_succ]
    go_wp2_with fail
    go_ret
    refine ⟨_, rfl, ?_, H1.out⟩
    unfold OwnsC cwC
    rw [cwl_nil (V f) 512 (fun p hp => HH.out.no f HF.out hL p hp)]
    exact World.ownsRow_nil _ _ _ _
  | some q =>
    obtain ⟨g, o, cp⟩ := q
    have HRow := Lib.hid (HH.out.row f g o cp HF.out hL).2.2.2
    go_enter Try.func15, Try.ntmps15
    go_wp2_with fail
    refine (HC.out).mono ?_; rintro e w2 ⟨rfl, hg⟩
    have H2 := Lib.hid hg; clear hg
    have HR := Lib.hid (HH.out.kp H2.out)
    have d0 := HR.out.hb.cell 0
    have d1 := (HR.out.hl.cell f).trans (rowsA_at L n f HF.out)
    rw [hL] at d1
    unfold rowV at d1
    go_wp2_with fail
    clear d0 d1
    go_loopw [5, 7] (fun l i wr => ∃ k : Nat, k ≤ 512 ∧ i = .int .i64 k ∧ OwnsC wr w.heap.size l (V f) k ∧ Kp w wr) (fun _ i _ => 512 - (intOf i).toNat)
    case atStart => exact ⟨0, by omega, rfl, show World.ownsRow _ _ _ _ _ 0 [] from World.ownsRow_nil _ _ _ _, H2.out⟩
    case round =>
      obtain ⟨k, hk512, rfl, hown, hk⟩ := hrel
      by_cases h5 : k = 512
      · subst h5
        go_wp2_with fail
        go_ret
        exact ⟨_, rfl, hown, hk⟩
      · have hk5 : k < 512 := by omega
        have k0 : (0 : Int) ≤ (k : Int) := by omega
        have k1 : (k : Int) < 512 := by omega
        have c0 := (HRow.out.kp hk k hk5).1
        have HK5 := Lib.hid hk5
        clear hk512 h5 hk5
        by_cases hz : V f k = 0
        · have HO := Lib.hid (OwnsC.stay hown hz)
          have HK := Lib.hid hk
          rw [hz] at c0
          clear hown hk hz
          go_wp2_with fail
          go_roundw
          case rel => exact ⟨k + 1, HK5.out, by go_num, HO.out, HK.out⟩
          case measure => simp [intOf]; omega
        · have d : (((V f k : Nat) : Int) != 0) = true := by simp; omega
          have HM := Lib.hid (fits2 (n := (cwl (V f) k).length) (Nat.le_trans (cwl_len _ _) (by omega)))
          have HZ : Hid (w.heap.size ≤ (wr.alloc (.cells #[.int .i64 k, .int .u64 (V f k : Nat)] 66)).heap.size) := Lib.hid ((hk.alloc _ _).size)
          have HK := Lib.hid hk
          have HO := Lib.hid hown
          have HNZ := Lib.hid hz
          clear hown hk hz
          go_wp2_with (at_builtin; refine wpList_append_own_at _ rfl (.tmp 30) (.tmp 37) _ rfl w.heap.size 66 i0 _ 2 16 Try.underlying41 hi0 hz0 hz1 hz2 rfl (by decide) _ _ _ rfl (World.ownsRow.alloc HO.out _) ⟨wr.heap.size, 0, none⟩ 1 1 (#[.int .i64 k, .int .u64 (V f k : Nat)] : Array Value).toList rfl rfl (news_at2 wr _ _) (one2 _ _) HM.out.1 HM.out.2 HZ.out ?_; intro v' w9 hown1 hg1 hn1 hat1; have HA := Lib.hid (OwnsC.next HO.out HK.out HNZ.out hown1 hg1); clear hown1 hg1 hn1 hat1)
          go_roundw
          case rel => exact ⟨k + 1, HK5.out, by go_num, HA.out.1, HA.out.2⟩
          case measure => simp [intOf]; omega
end Go.Proofs.Ytnjdglejcfdonaa
