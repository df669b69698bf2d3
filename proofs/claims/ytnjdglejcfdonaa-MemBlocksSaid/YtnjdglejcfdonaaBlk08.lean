/-
  The law on frames that were copied. No condition.
-/
import Derived.Test.YtnjdglejcfdonaaOrder08
import Derived.Test.YtnjdglejcfdonaaOpenL
namespace Go.Proofs.Ytnjdglejcfdonaa
open Go Go.RowKit Go.Maps

/-! A row of words kept beside a memory. -/
def RowP (v : Value) (U : Nat → Nat) : MemP := fun w T => (∃ B, OwnsC w B v U 512) ∧ T = fun k => v.ownBlock = some k
theorem OwnsC.off' {S : Nat → Prop} {w w' : World} {B : Nat} {v : Value} {U : Nat → Nat} {k : Nat} (h : OwnsC w B v U k) (g : Off S w w') (hS : ∀ i, v.ownBlock = some i → ¬ S i) : OwnsC w' B v U k := by
  refine ⟨h.1, ?_⟩
  rcases h.2 with hn | ⟨g', cap, cur, e, hb, hg, r⟩
  · exact .inl hn
  · exact .inr ⟨g', cap, cur, e, hb, (g.block g' (lt_of_block hg) (hS g' (by rw [e]; rfl))).trans hg, r⟩
theorem row_stable (v : Value) (U : Nat → Nat) : Stable (RowP v U) := ⟨fun ⟨⟨_, h⟩, e⟩ k hk => by subst e; exact (World.ownsRow.lt h k hk).2, fun ⟨⟨B, h⟩, e⟩ g d => ⟨⟨B, h.off' g (fun i hi => d i (by subst e; exact hi))⟩, e⟩⟩
theorem setF_same (V : Nat → Nat → Nat) (f : Nat) (U : Nat → Nat) : setF V f U f = U := by funext p; exact if_pos rfl
theorem setF_other (V : Nat → Nat → Nat) (f : Nat) (U : Nat → Nat) (g : Nat) (h : g ≠ f) : setF V f U g = V g := by funext p; exact if_neg h
theorem putV_row (V : Nat → Nat → Nat) (f p x g : Nat) (h : g ≠ f) : putV V f p x g = V g := by funext q; exact if_neg (fun e => h e.1)
theorem own_write8 (A X : Nat) (w0 w : World) (b : Nat) (V : Nat → Nat → Nat) (h : OM b 8 V w0 w) (hA : A < 4096) (hX : X < 18446744073709551616) :
    Calls Try.prog 12 #[.pointer (some ⟨b, 0, none⟩), .int .u64 A, .int .u64 X] w fun e w' => e = .returned (.int .i64 0) ∧ OM b 8 (putV V (A / 512) (A % 512) X) w0 w' := by
  have q := own_write A X w0 w b 8 V h (by omega) hX
  rwa [if_pos (by omega), if_pos (by omega)] at q
/-- The words of a frame of a memory of the call's own, and the two side by side from then on. -/
theorem was_words (f : Nat) (hf : f < 8) (w0 w : World) (b : Nat) (V : Nat → Nat → Nat) (h : OM b 8 V w0 w) :
    Calls Try.prog 14 #[.pointer (some ⟨b, 0, none⟩), .int .i64 f] w fun e w' => ∃ v S1 S2, e = .returned v ∧ Two (PP b 8 V) (RowP v (V f)) S1 S2 w' w' ∧ (∀ k, S1 k → w0.heap.size ≤ k) ∧ (∀ k, S2 k → w0.heap.size ≤ k) ∧ Kp w0 w' := by
  obtain ⟨T, p, l, k⟩ := h
  refine (pwords_any f w T b 8 V p (by omega)).mono ?_
  rintro e w' ⟨v, rfl, ho, hk⟩
  unfold atV at ho
  rw [if_pos (okF_yes hf)] at ho
  refine ⟨v, T, fun k => v.ownBlock = some k, rfl, Two.start (P := PP b 8 V) (Q := RowP v (V f)) (p.kp hk) ⟨⟨_, ho⟩, rfl⟩ (fun j h1 h2 => ?_), l, fun j h2 => ?_, k.trans hk⟩
  · have := p.lt h1
    have := (World.ownsRow.lt ho j h2).1
    omega
  · have := (World.ownsRow.lt ho j h2).1
    have := k.size
    omega
section
variable {S1 S2 : Nat → Prop} {wb : World} {b : Nat} {v : Value} {U : Nat → Nat}
theorem tb_reach (k : Int) (W X : Nat) (fr fm : Int) (E : Int) (V V' : Nat → Nat → Nat) (w : World) (h : Two (PP b 8 V) (RowP v U) S1 S2 wb w) (hW : W < 18446744073709551616) (hX : X < 18446744073709551616) (hi : -128 ≤ k ∧ k < 128) (hE : rE 8 k W fr fm = E) (hV : rV 8 V k W X fr fm = V') :
    Calls Try.prog 19 #[.pointer (some ⟨b, 0, none⟩), .agg (entV k W X fr fm)] w fun e w' => e = .returned (.int .i64 E) ∧ Two (PP b 8 V') (RowP v U) S1 S2 wb w' := by
  subst hE hV
  obtain ⟨T, p, f⟩ := h.fst (P' := PP b 8 (rV 8 V k W X fr fm)) (row_stable _ _)
  exact (preach_any k W X fr fm w T b 8 V p hW hX hi).mono fun _ _ q => ⟨q.1, f _ q.2⟩
theorem tb_copy (f t : Nat) (hf : f < 8) (ht : t < 8) (V : Nat → Nat → Nat) (w : World) (h : Two (PP b 8 V) (RowP v U) S1 S2 wb w) :
    Calls Try.prog 19 #[.pointer (some ⟨b, 0, none⟩), .agg #[.int .i8 3, .int .u64 0, .int .u64 0, .int .i64 f, .int .i64 t]] w fun e w' => e = .returned (.int .i64 0) ∧ Two (PP b 8 (setF V t (V f))) (RowP v U) S1 S2 wb w' :=
  tb_reach 3 0 0 f t 0 V (setF V t (V f)) w h (by decide) (by decide) (by decide) (by unfold rE; rw [if_neg (by decide), if_neg (by decide), if_neg (by decide), if_pos rfl, if_pos ⟨okF_yes ht, okF_yes hf⟩])
    (by unfold rV; rw [if_neg (by decide), if_neg (by decide), if_neg (by decide), if_pos rfl, if_pos ⟨okF_yes ht, okF_yes hf⟩]; rfl)
theorem tb_zero (t : Nat) (ht : t < 8) (V : Nat → Nat → Nat) (w : World) (h : Two (PP b 8 V) (RowP v U) S1 S2 wb w) :
    Calls Try.prog 19 #[.pointer (some ⟨b, 0, none⟩), .agg #[.int .i8 2, .int .u64 0, .int .u64 0, .int .i64 0, .int .i64 t]] w fun e w' => e = .returned (.int .i64 0) ∧ Two (PP b 8 (setF V t fun _ => 0)) (RowP v U) S1 S2 wb w' :=
  tb_reach 2 0 0 0 t 0 V (setF V t fun _ => 0) w h (by decide) (by decide) (by decide) (by unfold rE; rw [if_neg (by decide), if_neg (by decide), if_pos rfl, if_pos (okF_yes ht)])
    (by unfold rV; rw [if_neg (by decide), if_neg (by decide), if_pos rfl, if_pos (okF_yes ht)]; rfl)
theorem tb_write (A X : Nat) (hA : A < 4096) (hX : X < 18446744073709551616) (V : Nat → Nat → Nat) (w : World) (h : Two (PP b 8 V) (RowP v U) S1 S2 wb w) :
    Calls Try.prog 12 #[.pointer (some ⟨b, 0, none⟩), .int .u64 A, .int .u64 X] w fun e w' => e = .returned (.int .i64 0) ∧ Two (PP b 8 (putV V (A / 512) (A % 512) X)) (RowP v U) S1 S2 wb w' := by
  obtain ⟨T, p, f⟩ := h.fst (P' := PP b 8 (putV V (A / 512) (A % 512) X)) (row_stable _ _)
  have q := pwrite_any A X w T b 8 V p (by omega) hX
  rw [if_pos (by omega), if_pos (by omega)] at q
  exact q.mono fun _ _ q => ⟨q.1, f _ q.2⟩
theorem tb_words (x : Nat) (hx : x < 8) (V : Nat → Nat → Nat) (X : Nat → Nat) (w : World) (h : Two (PP b 8 V) (RowP v U) S1 S2 wb w) (hX : V x = X) :
    Calls Try.prog 14 #[.pointer (some ⟨b, 0, none⟩), .int .i64 x] w fun e w' => ∃ v2, e = .returned v2 ∧ (∃ B, OwnsC w' B v2 X 512) ∧ Two (PP b 8 V) (RowP v U) S1 S2 wb w' := by
  subst hX
  have h' := h
  obtain ⟨T1, T2, p, r⟩ := h
  refine (pwords_any x w T1 b 8 V p (by omega)).mono ?_
  rintro e w' ⟨v2, rfl, ho, hk⟩
  unfold atV at ho
  rw [if_pos (okF_yes hx)] at ho
  exact ⟨v2, rfl, ⟨_, ho⟩, h'.kp (pm_stable _ _ _) (row_stable _ _) hk⟩
theorem tb_same (v2 : Value) (V : Nat → Nat → Nat) (w : World) (h : Two (PP b 8 V) (RowP v U) S1 S2 wb w) (h2 : ∃ B, OwnsC w B v2 U 512) :
    Calls Try.prog 13 #[v2, v] w fun e w' => e = .returned (.bool true) ∧ Two (PP b 8 V) (RowP v U) S1 S2 wb w' := by
  have h' := h
  obtain ⟨T1, T2, p, ⟨⟨B, r⟩, _⟩, _⟩ := h
  obtain ⟨B2, h2⟩ := h2
  exact (same_rows v2 v w B2 B 512 U h2 r (Nat.le_refl _)).mono fun _ _ q => ⟨q.1, h'.kp (pm_stable _ _ _) (row_stable _ _) q.2⟩
theorem tb_none (x : Nat) (hx : x < 8) (V : Nat → Nat → Nat) (w : World) (h : Two (PP b 8 V) (RowP v U) S1 S2 wb w) (hX : V x = fun _ => 0) :
    Calls Try.prog 14 #[.pointer (some ⟨b, 0, none⟩), .int .i64 x] w fun e w' => ∃ a cap, e = .returned (.slice a 0 cap) ∧ Two (PP b 8 V) (RowP v U) S1 S2 wb w' := by
  refine (tb_words x hx V _ w h hX).mono ?_
  rintro e w' ⟨v2, rfl, ⟨B, ho⟩, ht⟩
  have hn := cwl_nil (fun _ => 0) 512 (fun _ _ => rfl)
  rcases ho.parts with ⟨rfl, _⟩ | ⟨g, cap, rfl, _⟩
  · exact ⟨_, _, rfl, ht⟩
  · rw [hn]
    exact ⟨_, _, rfl, ht⟩
theorem tb_some (x : Nat) (hx : x < 8) (V : Nat → Nat → Nat) (w : World) (h : Two (PP b 8 V) (RowP v U) S1 S2 wb w) (p : Nat) (hp : p < 512) (hX : V x p ≠ 0) :
    Calls Try.prog 14 #[.pointer (some ⟨b, 0, none⟩), .int .i64 x] w fun e w' => ∃ a m cap, e = .returned (.slice a (m : Nat) cap) ∧ 0 < m ∧ Two (PP b 8 V) (RowP v U) S1 S2 wb w' := by
  refine (tb_words x hx V _ w h rfl).mono ?_
  rintro e w' ⟨v2, rfl, ⟨B, ho⟩, ht⟩
  have hm : p ∈ cwl (V x) 512 := by
    unfold cwl
    rw [List.mem_filter]
    exact ⟨List.mem_range.2 hp, by simpa using hX⟩
  have hpos : 0 < (cwl (V x) 512).length := List.length_pos_iff.2 (fun e => by rw [e] at hm; cases hm)
  rcases ho.parts with ⟨rfl, e⟩ | ⟨g, cap, rfl, _⟩
  · rw [e] at hpos; cases hpos
  · exact ⟨_, _, _, rfl, hpos, ht⟩
end
set_option maxRecDepth 20000 in
set_option maxHeartbeats 4000000 in
theorem blocks_same (a c : Int) (g d f : Nat) (L : List (List Value)) (b off cap : Nat) (qa : Option Addr) (w : World) (hl : L.length ≤ 60) (hs : L ≠ [] → qa = some ⟨b, off, none⟩) (hr : RowsIn w b off 1 [some .u64] L) (hb : L ≠ [] → b < w.heap.size)
    (ha : (wrap64 (a.tmod 8 + 8)).tmod 8 = (f : Int)) (hc : (wrap64 (c.tmod 8 + 8)).tmod 8 = (f : Int)) (hf : f < 8) (hdl : d < 18446744073709551616) :
    Calls Try.prog 6 #[.slice qa L.length cap, .int .i64 a, .int .i64 c, .int .u64 g, .int .u64 d] w fun e w' => e = .returned (.bool true) ∧ Kp w w' := by
  obtain ⟨N, hN⟩ : ∃ N, N = L.length := ⟨_, rfl⟩
  rw [← hN]
  have hNI : (N : Int) ≤ 60 := by omega
  have HE := Lib.hid hN
  have HS := Lib.hid hs
  have HR := Lib.hid hr
  have HB := Lib.hid hb
  have HF : Hid (f < 8 ∧ f < 8) := Lib.hid ⟨hf, hf⟩
  have HD := Lib.hid hdl
  have eF : IntKind.u64.wrap (f : Int) = (f : Int) := by rw [show IntKind.u64.wrap (f : Int) = (f : Int) % 18446744073709551616 from IntKind.wrap_u64 _]; omega
  have eM : IntKind.u64.wrap ((f : Int) * 512) = ((f * 512 : Nat) : Int) := by rw [show IntKind.u64.wrap ((f : Int) * 512) = ((f : Int) * 512) % 18446744073709551616 from IntKind.wrap_u64 _]; omega
  have eG : (g : Int) % 512 = ((g % 512 : Nat) : Int) := by omega
  have eA : IntKind.u64.wrap (((f * 512 : Nat) : Int) + ((g % 512 : Nat) : Int)) = ((f * 512 + g % 512 : Nat) : Int) := by rw [show IntKind.u64.wrap (((f * 512 : Nat) : Int) + ((g % 512 : Nat) : Int)) = (((f * 512 : Nat) : Int) + ((g % 512 : Nat) : Int)) % 18446744073709551616 from IntKind.wrap_u64 _]; omega
  have HA : Hid (f * 512 + g % 512 < 4096 ∧ (f * 512 + g % 512) / 512 = f ∧ (f * 512 + g % 512) % 512 = g % 512 ∧ g % 512 < 512) := Lib.hid ⟨by omega, by omega, by omega, by omega⟩
  have eN : ((f : Int) != (f : Int)) = false := by simp
  have eQ : ((f : Int) == (f : Int)) = true := by simp
  clear hl hN hs hr hb hf hdl
  generalize hG : f * 512 + g % 512 = A at *
  generalize g % 512 = q at *
  generalize f * 512 = M at *
  clear hG
  go_enter Try.func6, Try.ntmps6
  go_wp2_with (first
    | (go_at_call 8; refine (own_new 8 _ (by decide) (by decide)).mono ?_; rintro e w1 ⟨bm, rfl, ho⟩; have H1 := Lib.hid ho; clear ho))
  go_loopw [13] (fun i wr => ∃ k : Nat, ∃ V, k ≤ N ∧ i = .int .i64 k ∧ OM bm 8 V w wr) (fun i _ => N - (intOf i).toNat)
  case atStart => exact ⟨0, _, by omega, rfl, H1.out⟩
  case round =>
    obtain ⟨k, V, hkN, rfl, ho⟩ := hrel
    have HO := Lib.hid ho
    clear ho H1
    by_cases h : k = N
    · subst h
      clear hkN
      go_wp2_with (first
        | (go_at_call 7; refine (wakes_any _).mono ?_; rintro e vz ⟨rfl, hg⟩; have HZ0 := Lib.hid hg; clear hg)
        | (go_at_call 14; refine (tb_none f HF.out.2 _ _ T9.out (setF_same _ _ _)).mono ?_; rintro e v10 ⟨qx, cx, rfl, ht⟩; have T10 := Lib.hid ht; clear ht)
        | (go_at_call 19; refine (tb_zero f HF.out.2 _ _ T6.out).mono ?_; rintro e v9 ⟨rfl, ht⟩; have T9 := Lib.hid ht; clear ht)
        | (go_at_call 12; refine (tb_write A d HA.out.1 HD.out _ _ T5.out).mono ?_; rintro e v6 ⟨rfl, ht⟩; have T6 := Lib.hid ht; clear ht)
        | (go_at_call 13; refine (tb_same r4 _ _ T4.out O4.out).mono ?_; rintro e v5 ⟨rfl, ht⟩; have T5 := Lib.hid ht; clear ht)
        | (go_at_call 14; refine (tb_words f HF.out.1 _ (V f) _ T3.out (setF_same _ _ _)).mono ?_; rintro e v4 ⟨r4, rfl, ho4, ht⟩; have T4 := Lib.hid ht; have O4 := Lib.hid ho4; clear ht ho4)
        | (go_at_call 13; refine (tb_same r2 _ _ T2.out O2.out).mono ?_; rintro e v3 ⟨rfl, ht⟩; have T3 := Lib.hid ht; clear ht)
        | (go_at_call 14; refine (tb_words f HF.out.2 _ (V f) _ T1.out (setF_same _ _ _)).mono ?_; rintro e v2 ⟨r2, rfl, ho2, ht⟩; have T2 := Lib.hid ht; have O2 := Lib.hid ho2; clear ht ho2)
        | (go_at_call 19; refine (tb_copy f f HF.out.1 HF.out.2 V _ T0.out).mono ?_; rintro e v1 ⟨rfl, ht⟩; have T1 := Lib.hid ht; clear ht)
        | (go_at_call 14; refine (was_words f HF.out.1 w _ bm V HO.out).mono ?_; rintro e v0 ⟨rv, S1, S2, rfl, ht, l1, l2, hk0⟩; have T0 := Lib.hid ht; have HL := Lib.hid (And.intro l1 (And.intro l2 hk0)); clear ht l1 l2 hk0))
      go_ret
      exact ⟨rfl, (T10.out.below HL.out.2.2 HL.out.1 HL.out.2.1).trans HZ0.out⟩
    · have hkl : k < N := by omega
      have i0 : (0 : Int) ≤ (k : Int) := by omega
      have i1 : (k : Int) < (N : Int) := by omega
      have hx : L[k]? = some (L[k]'(by have := HE.out; omega)) := List.getElem?_eq_getElem _
      generalize L[k]'(by have := HE.out; omega) = cs at hx
      have hcs := HR.out k cs hx
      obtain ⟨⟨_, _, rfl, ⟨x, rfl, wx⟩, rfl⟩, hce⟩ := hcs
      obtain ⟨X, rfl, hX⟩ := nat_of x wx
      have hne : L ≠ [] := fun e => by rw [e] at hx; simp at hx
      obtain rfl := HS.out hne
      have cx : wr.cell? ⟨b, off + k, none⟩ = some (.int .u64 (X : Int)) := by
        have := HO.out.below.cell (o := off + k * 1 + 0) (HB.out hne)
        rw [hce 0 _ rfl] at this
        simpa using this
      have eX : (X : Int) % 4096 = ((X % 4096 : Nat) : Int) := by omega
      have eK : IntKind.u64.wrap (k : Int) = (k : Int) := by rw [show IntKind.u64.wrap (k : Int) = (k : Int) % 18446744073709551616 from IntKind.wrap_u64 _]; omega
      have HXA : Hid (X % 4096 < 4096) := Lib.hid (Nat.mod_lt _ (by decide))
      have HK := Lib.hid hkl
      have HKX : Hid (k < 18446744073709551616) := Lib.hid (by omega)
      clear hkN h hkl hx hce wx hX hne
      generalize X % 4096 = Y at *
      go_wp2_with (go_at_call 12; refine (own_write8 Y k w _ bm V HO.out HXA.out HKX.out).mono ?_; rintro e w2 ⟨rfl, ho⟩; have HO2 := Lib.hid ho; clear ho)
      go_roundw
      case rel => exact ⟨k + 1, _, HK.out, by go_num, HO2.out⟩
      case measure => have := HK.out; simp [intOf]; omega
set_option maxRecDepth 20000 in
set_option maxHeartbeats 4000000 in
theorem blocks_none (a c : Int) (g d f t : Nat) (L : List (List Value)) (b off cap : Nat) (qa : Option Addr) (w : World) (hl : L.length ≤ 60) (hs : L ≠ [] → qa = some ⟨b, off, none⟩) (hr : RowsIn w b off 1 [some .u64] L) (hb : L ≠ [] → b < w.heap.size)
    (ha : (wrap64 (a.tmod 8 + 8)).tmod 8 = (f : Int)) (hc : (wrap64 (c.tmod 8 + 8)).tmod 8 = (t : Int)) (hf : f < 8) (ht : t < 8) (hne : f ≠ t) (hdl : d < 18446744073709551616) (hd : d = 0) :
    Calls Try.prog 6 #[.slice qa L.length cap, .int .i64 a, .int .i64 c, .int .u64 g, .int .u64 d] w fun e w' => e = .returned (.bool true) ∧ Kp w w' := by
  obtain ⟨N, hN⟩ : ∃ N, N = L.length := ⟨_, rfl⟩
  rw [← hN]
  have hNI : (N : Int) ≤ 60 := by omega
  have HE := Lib.hid hN
  have HS := Lib.hid hs
  have HR := Lib.hid hr
  have HB := Lib.hid hb
  have HF : Hid (f < 8 ∧ t < 8) := Lib.hid ⟨hf, ht⟩
  have HD := Lib.hid hdl
  have eF : IntKind.u64.wrap (f : Int) = (f : Int) := by rw [show IntKind.u64.wrap (f : Int) = (f : Int) % 18446744073709551616 from IntKind.wrap_u64 _]; omega
  have eM : IntKind.u64.wrap ((f : Int) * 512) = ((f * 512 : Nat) : Int) := by rw [show IntKind.u64.wrap ((f : Int) * 512) = ((f : Int) * 512) % 18446744073709551616 from IntKind.wrap_u64 _]; omega
  have eG : (g : Int) % 512 = ((g % 512 : Nat) : Int) := by omega
  have eA : IntKind.u64.wrap (((f * 512 : Nat) : Int) + ((g % 512 : Nat) : Int)) = ((f * 512 + g % 512 : Nat) : Int) := by rw [show IntKind.u64.wrap (((f * 512 : Nat) : Int) + ((g % 512 : Nat) : Int)) = (((f * 512 : Nat) : Int) + ((g % 512 : Nat) : Int)) % 18446744073709551616 from IntKind.wrap_u64 _]; omega
  have HA : Hid (f * 512 + g % 512 < 4096 ∧ (f * 512 + g % 512) / 512 = f ∧ (f * 512 + g % 512) % 512 = g % 512 ∧ g % 512 < 512) := Lib.hid ⟨by omega, by omega, by omega, by omega⟩
  have eN : ((f : Int) != (t : Int)) = true := by simp; omega
  have eQ : ((f : Int) == (t : Int)) = false := by simp; omega
  have HN := Lib.hid hne
  have eD : ((d : Int) == 0) = true := by simp; omega
  clear hl hN hs hr hb hf ht hne hdl hd
  generalize hG : f * 512 + g % 512 = A at *
  generalize g % 512 = q at *
  generalize f * 512 = M at *
  clear hG
  go_enter Try.func6, Try.ntmps6
  go_wp2_with (first
    | (go_at_call 8; refine (own_new 8 _ (by decide) (by decide)).mono ?_; rintro e w1 ⟨bm, rfl, ho⟩; have H1 := Lib.hid ho; clear ho))
  go_loopw [13] (fun i wr => ∃ k : Nat, ∃ V, k ≤ N ∧ i = .int .i64 k ∧ OM bm 8 V w wr) (fun i _ => N - (intOf i).toNat)
  case atStart => exact ⟨0, _, by omega, rfl, H1.out⟩
  case round =>
    obtain ⟨k, V, hkN, rfl, ho⟩ := hrel
    have HO := Lib.hid ho
    clear ho H1
    by_cases h : k = N
    · subst h
      clear hkN
      go_wp2_with (first
        | (go_at_call 7; refine (wakes_any _).mono ?_; rintro e vz ⟨rfl, hg⟩; have HZ0 := Lib.hid hg; clear hg)
        | (go_at_call 14; refine (tb_none t HF.out.2 _ _ T9.out (setF_same _ _ _)).mono ?_; rintro e v10 ⟨qx, cx, rfl, ht⟩; have T10 := Lib.hid ht; clear ht)
        | (go_at_call 19; refine (tb_zero t HF.out.2 _ _ T8.out).mono ?_; rintro e v9 ⟨rfl, ht⟩; have T9 := Lib.hid ht; clear ht)
        | (go_at_call 13; refine (tb_same r7 _ _ T7.out O7.out).mono ?_; rintro e v8 ⟨rfl, ht⟩; have T8 := Lib.hid ht; clear ht)
        | (go_at_call 14; refine (tb_words t HF.out.2 _ (V f) _ T6.out ((putV_row _ _ _ _ _ (by rw [HA.out.2.1]; exact fun e => HN.out e.symm)).trans (setF_same _ _ _))).mono ?_; rintro e v7 ⟨r7, rfl, ho7, ht⟩; have T7 := Lib.hid ht; have O7 := Lib.hid ho7; clear ht ho7)
        | (go_at_call 12; refine (tb_write A d HA.out.1 HD.out _ _ T5.out).mono ?_; rintro e v6 ⟨rfl, ht⟩; have T6 := Lib.hid ht; clear ht)
        | (go_at_call 13; refine (tb_same r4 _ _ T4.out O4.out).mono ?_; rintro e v5 ⟨rfl, ht⟩; have T5 := Lib.hid ht; clear ht)
        | (go_at_call 14; refine (tb_words f HF.out.1 _ (V f) _ T3.out (setF_other _ _ _ _ HN.out)).mono ?_; rintro e v4 ⟨r4, rfl, ho4, ht⟩; have T4 := Lib.hid ht; have O4 := Lib.hid ho4; clear ht ho4)
        | (go_at_call 13; refine (tb_same r2 _ _ T2.out O2.out).mono ?_; rintro e v3 ⟨rfl, ht⟩; have T3 := Lib.hid ht; clear ht)
        | (go_at_call 14; refine (tb_words t HF.out.2 _ (V f) _ T1.out (setF_same _ _ _)).mono ?_; rintro e v2 ⟨r2, rfl, ho2, ht⟩; have T2 := Lib.hid ht; have O2 := Lib.hid ho2; clear ht ho2)
        | (go_at_call 19; refine (tb_copy f t HF.out.1 HF.out.2 V _ T0.out).mono ?_; rintro e v1 ⟨rfl, ht⟩; have T1 := Lib.hid ht; clear ht)
        | (go_at_call 14; refine (was_words f HF.out.1 w _ bm V HO.out).mono ?_; rintro e v0 ⟨rv, S1, S2, rfl, ht, l1, l2, hk0⟩; have T0 := Lib.hid ht; have HL := Lib.hid (And.intro l1 (And.intro l2 hk0)); clear ht l1 l2 hk0))
      go_ret
      exact ⟨rfl, (T10.out.below HL.out.2.2 HL.out.1 HL.out.2.1).trans HZ0.out⟩
    · have hkl : k < N := by omega
      have i0 : (0 : Int) ≤ (k : Int) := by omega
      have i1 : (k : Int) < (N : Int) := by omega
      have hx : L[k]? = some (L[k]'(by have := HE.out; omega)) := List.getElem?_eq_getElem _
      generalize L[k]'(by have := HE.out; omega) = cs at hx
      have hcs := HR.out k cs hx
      obtain ⟨⟨_, _, rfl, ⟨x, rfl, wx⟩, rfl⟩, hce⟩ := hcs
      obtain ⟨X, rfl, hX⟩ := nat_of x wx
      have hne : L ≠ [] := fun e => by rw [e] at hx; simp at hx
      obtain rfl := HS.out hne
      have cx : wr.cell? ⟨b, off + k, none⟩ = some (.int .u64 (X : Int)) := by
        have := HO.out.below.cell (o := off + k * 1 + 0) (HB.out hne)
        rw [hce 0 _ rfl] at this
        simpa using this
      have eX : (X : Int) % 4096 = ((X % 4096 : Nat) : Int) := by omega
      have eK : IntKind.u64.wrap (k : Int) = (k : Int) := by rw [show IntKind.u64.wrap (k : Int) = (k : Int) % 18446744073709551616 from IntKind.wrap_u64 _]; omega
      have HXA : Hid (X % 4096 < 4096) := Lib.hid (Nat.mod_lt _ (by decide))
      have HK := Lib.hid hkl
      have HKX : Hid (k < 18446744073709551616) := Lib.hid (by omega)
      clear hkN h hkl hx hce wx hX hne
      generalize X % 4096 = Y at *
      go_wp2_with (go_at_call 12; refine (own_write8 Y k w _ bm V HO.out HXA.out HKX.out).mono ?_; rintro e w2 ⟨rfl, ho⟩; have HO2 := Lib.hid ho; clear ho)
      go_roundw
      case rel => exact ⟨k + 1, _, HK.out, by go_num, HO2.out⟩
      case measure => have := HK.out; simp [intOf]; omega
set_option maxRecDepth 20000 in
set_option maxHeartbeats 4000000 in
theorem blocks_some (a c : Int) (g d f t : Nat) (L : List (List Value)) (b off cap : Nat) (qa : Option Addr) (w : World) (hl : L.length ≤ 60) (hs : L ≠ [] → qa = some ⟨b, off, none⟩) (hr : RowsIn w b off 1 [some .u64] L) (hb : L ≠ [] → b < w.heap.size)
    (ha : (wrap64 (a.tmod 8 + 8)).tmod 8 = (f : Int)) (hc : (wrap64 (c.tmod 8 + 8)).tmod 8 = (t : Int)) (hf : f < 8) (ht : t < 8) (hne : f ≠ t) (hdl : d < 18446744073709551616) (hd : d ≠ 0) :
    Calls Try.prog 6 #[.slice qa L.length cap, .int .i64 a, .int .i64 c, .int .u64 g, .int .u64 d] w fun e w' => e = .returned (.bool true) ∧ Kp w w' := by
  obtain ⟨N, hN⟩ : ∃ N, N = L.length := ⟨_, rfl⟩
  rw [← hN]
  have hNI : (N : Int) ≤ 60 := by omega
  have HE := Lib.hid hN
  have HS := Lib.hid hs
  have HR := Lib.hid hr
  have HB := Lib.hid hb
  have HF : Hid (f < 8 ∧ t < 8) := Lib.hid ⟨hf, ht⟩
  have HD := Lib.hid hdl
  have eF : IntKind.u64.wrap (f : Int) = (f : Int) := by rw [show IntKind.u64.wrap (f : Int) = (f : Int) % 18446744073709551616 from IntKind.wrap_u64 _]; omega
  have eM : IntKind.u64.wrap ((f : Int) * 512) = ((f * 512 : Nat) : Int) := by rw [show IntKind.u64.wrap ((f : Int) * 512) = ((f : Int) * 512) % 18446744073709551616 from IntKind.wrap_u64 _]; omega
  have eG : (g : Int) % 512 = ((g % 512 : Nat) : Int) := by omega
  have eA : IntKind.u64.wrap (((f * 512 : Nat) : Int) + ((g % 512 : Nat) : Int)) = ((f * 512 + g % 512 : Nat) : Int) := by rw [show IntKind.u64.wrap (((f * 512 : Nat) : Int) + ((g % 512 : Nat) : Int)) = (((f * 512 : Nat) : Int) + ((g % 512 : Nat) : Int)) % 18446744073709551616 from IntKind.wrap_u64 _]; omega
  have HA : Hid (f * 512 + g % 512 < 4096 ∧ (f * 512 + g % 512) / 512 = f ∧ (f * 512 + g % 512) % 512 = g % 512 ∧ g % 512 < 512) := Lib.hid ⟨by omega, by omega, by omega, by omega⟩
  have eN : ((f : Int) != (t : Int)) = true := by simp; omega
  have eQ : ((f : Int) == (t : Int)) = false := by simp; omega
  have HN := Lib.hid hne
  have eD : ((d : Int) == 0) = false := by simp; omega
  have HZ := Lib.hid hd
  clear hl hN hs hr hb hf ht hne hdl hd
  generalize hG : f * 512 + g % 512 = A at *
  generalize g % 512 = q at *
  generalize f * 512 = M at *
  clear hG
  go_enter Try.func6, Try.ntmps6
  go_wp2_with (first
    | (go_at_call 8; refine (own_new 8 _ (by decide) (by decide)).mono ?_; rintro e w1 ⟨bm, rfl, ho⟩; have H1 := Lib.hid ho; clear ho))
  go_loopw [13] (fun i wr => ∃ k : Nat, ∃ V, k ≤ N ∧ i = .int .i64 k ∧ OM bm 8 V w wr) (fun i _ => N - (intOf i).toNat)
  case atStart => exact ⟨0, _, by omega, rfl, H1.out⟩
  case round =>
    obtain ⟨k, V, hkN, rfl, ho⟩ := hrel
    have HO := Lib.hid ho
    clear ho H1
    by_cases h : k = N
    · subst h
      clear hkN
      go_wp2_with (first
        | (go_at_call 7; refine (wakes_any _).mono ?_; rintro e vz ⟨rfl, hg⟩; have HZ0 := Lib.hid hg; clear hg)
        | (go_at_call 14; refine (tb_some f HF.out.1 _ _ T10.out q HA.out.2.2.2 (by rw [setF_other _ _ _ _ HN.out, HA.out.2.1, HA.out.2.2.1, putV_same]; exact HZ.out)).mono ?_; rintro e v11 ⟨qy, m, cy, rfl, hm, ht⟩; have em : decide ((0 : Int) < (m : Int)) = true := decide_eq_true (by omega); have em2 : decide (0 < m) = true := decide_eq_true hm; have T11 := Lib.hid ht; clear ht)
        | (go_at_call 14; refine (tb_none t HF.out.2 _ _ T9.out (setF_same _ _ _)).mono ?_; rintro e v10 ⟨qx, cx, rfl, ht⟩; have T10 := Lib.hid ht; clear ht)
        | (go_at_call 19; refine (tb_zero t HF.out.2 _ _ T8.out).mono ?_; rintro e v9 ⟨rfl, ht⟩; have T9 := Lib.hid ht; clear ht)
        | (go_at_call 13; refine (tb_same r7 _ _ T7.out O7.out).mono ?_; rintro e v8 ⟨rfl, ht⟩; have T8 := Lib.hid ht; clear ht)
        | (go_at_call 14; refine (tb_words t HF.out.2 _ (V f) _ T6.out ((putV_row _ _ _ _ _ (by rw [HA.out.2.1]; exact fun e => HN.out e.symm)).trans (setF_same _ _ _))).mono ?_; rintro e v7 ⟨r7, rfl, ho7, ht⟩; have T7 := Lib.hid ht; have O7 := Lib.hid ho7; clear ht ho7)
        | (go_at_call 12; refine (tb_write A d HA.out.1 HD.out _ _ T5.out).mono ?_; rintro e v6 ⟨rfl, ht⟩; have T6 := Lib.hid ht; clear ht)
        | (go_at_call 13; refine (tb_same r4 _ _ T4.out O4.out).mono ?_; rintro e v5 ⟨rfl, ht⟩; have T5 := Lib.hid ht; clear ht)
        | (go_at_call 14; refine (tb_words f HF.out.1 _ (V f) _ T3.out (setF_other _ _ _ _ HN.out)).mono ?_; rintro e v4 ⟨r4, rfl, ho4, ht⟩; have T4 := Lib.hid ht; have O4 := Lib.hid ho4; clear ht ho4)
        | (go_at_call 13; refine (tb_same r2 _ _ T2.out O2.out).mono ?_; rintro e v3 ⟨rfl, ht⟩; have T3 := Lib.hid ht; clear ht)
        | (go_at_call 14; refine (tb_words t HF.out.2 _ (V f) _ T1.out (setF_same _ _ _)).mono ?_; rintro e v2 ⟨r2, rfl, ho2, ht⟩; have T2 := Lib.hid ht; have O2 := Lib.hid ho2; clear ht ho2)
        | (go_at_call 19; refine (tb_copy f t HF.out.1 HF.out.2 V _ T0.out).mono ?_; rintro e v1 ⟨rfl, ht⟩; have T1 := Lib.hid ht; clear ht)
        | (go_at_call 14; refine (was_words f HF.out.1 w _ bm V HO.out).mono ?_; rintro e v0 ⟨rv, S1, S2, rfl, ht, l1, l2, hk0⟩; have T0 := Lib.hid ht; have HL := Lib.hid (And.intro l1 (And.intro l2 hk0)); clear ht l1 l2 hk0))
      go_ret
      exact ⟨rfl, (T11.out.below HL.out.2.2 HL.out.1 HL.out.2.1).trans HZ0.out⟩
    · have hkl : k < N := by omega
      have i0 : (0 : Int) ≤ (k : Int) := by omega
      have i1 : (k : Int) < (N : Int) := by omega
      have hx : L[k]? = some (L[k]'(by have := HE.out; omega)) := List.getElem?_eq_getElem _
      generalize L[k]'(by have := HE.out; omega) = cs at hx
      have hcs := HR.out k cs hx
      obtain ⟨⟨_, _, rfl, ⟨x, rfl, wx⟩, rfl⟩, hce⟩ := hcs
      obtain ⟨X, rfl, hX⟩ := nat_of x wx
      have hne : L ≠ [] := fun e => by rw [e] at hx; simp at hx
      obtain rfl := HS.out hne
      have cx : wr.cell? ⟨b, off + k, none⟩ = some (.int .u64 (X : Int)) := by
        have := HO.out.below.cell (o := off + k * 1 + 0) (HB.out hne)
        rw [hce 0 _ rfl] at this
        simpa using this
      have eX : (X : Int) % 4096 = ((X % 4096 : Nat) : Int) := by omega
      have eK : IntKind.u64.wrap (k : Int) = (k : Int) := by rw [show IntKind.u64.wrap (k : Int) = (k : Int) % 18446744073709551616 from IntKind.wrap_u64 _]; omega
      have HXA : Hid (X % 4096 < 4096) := Lib.hid (Nat.mod_lt _ (by decide))
      have HK := Lib.hid hkl
      have HKX : Hid (k < 18446744073709551616) := Lib.hid (by omega)
      clear hkN h hkl hx hce wx hX hne
      generalize X % 4096 = Y at *
      go_wp2_with (go_at_call 12; refine (own_write8 Y k w _ bm V HO.out HXA.out HKX.out).mono ?_; rintro e w2 ⟨rfl, ho⟩; have HO2 := Lib.hid ho; clear ho)
      go_roundw
      case rel => exact ⟨k + 1, _, HK.out, by go_num, HO2.out⟩
      case measure => have := HK.out; simp [intOf]; omega
theorem mod8 (a : Int) : ∃ f : Nat, f < 8 ∧ (wrap64 (a.tmod 8 + 8)).tmod 8 = (f : Int) := by
  have h1 : (a.tmod 8).natAbs = a.natAbs % 8 := Int.natAbs_tmod a 8
  have h2 : wrap64 (a.tmod 8 + 8) = a.tmod 8 + 8 := by unfold wrap64; omega
  rw [h2, Int.tmod_eq_emod_of_nonneg (by omega)]
  exact ⟨((a.tmod 8 + 8) % 8).toNat, by omega, by omega⟩
theorem blocks_over (a c : Int) (g d : Nat) (L : List (List Value)) (cap : Nat) (qa : Option Addr) (w : World) (hl : 60 < L.length) :
    Calls Try.prog 6 #[.slice qa L.length cap, .int .i64 a, .int .i64 c, .int .u64 g, .int .u64 d] w fun e w' => e = .returned (.bool true) ∧ Kp w w' := by
  have e1 : decide ((60 : Int) < (L.length : Int)) = true := decide_eq_true (by omega)
  have e2 : decide (60 < L.length) = true := decide_eq_true hl
  go_enter Try.func6, Try.ntmps6
  go_wp2_with (go_at_call 7; refine (wakes_any _).mono ?_; rintro e vz ⟨rfl, hg⟩; have HZ0 := Lib.hid hg; clear hg)
  go_ret
  exact ⟨rfl, HZ0.out⟩
theorem blocks_any (a c : Int) (g d : Nat) (L : List (List Value)) (b off cap : Nat) (qa : Option Addr) (w : World) (hs : L ≠ [] → qa = some ⟨b, off, none⟩) (hr : RowsIn w b off 1 [some .u64] L) (hb : L ≠ [] → b < w.heap.size) (hdl : d < 18446744073709551616) :
    Calls Try.prog 6 #[.slice qa L.length cap, .int .i64 a, .int .i64 c, .int .u64 g, .int .u64 d] w fun e w' => e = .returned (.bool true) ∧ Kp w w' := by
  by_cases hl : 60 < L.length
  · exact blocks_over a c g d L cap qa w hl
  obtain ⟨f, hf, ha⟩ := mod8 a
  obtain ⟨t, ht, hc⟩ := mod8 c
  by_cases hne : f = t
  · subst hne
    exact blocks_same a c g d f L b off cap qa w (by omega) hs hr hb ha hc hf hdl
  by_cases hd : d = 0
  · exact blocks_none a c g d f t L b off cap qa w (by omega) hs hr hb ha hc hf ht hne hdl hd
  · exact blocks_some a c g d f t L b off cap qa w (by omega) hs hr hb ha hc hf ht hne hdl hd
end Go.Proofs.Ytnjdglejcfdonaa
