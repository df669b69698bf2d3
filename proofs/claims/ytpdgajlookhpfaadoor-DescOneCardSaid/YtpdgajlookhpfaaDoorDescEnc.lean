/-
  The contract of package desc's Encode, for every descriptor, where the tables hold what the program's text lays. No condition.
-/
import Derived.Test.YtpdgajlookhpfaaDoorDescRead
namespace Go.Proofs.YtpdgajlookhpfaaDoor
open Go Go.RowKit

/-! What it comes to. -/
def bare (af ro us ng : Bool) : Prop := af = false ∧ ro = false ∧ us = false ∧ ng = false
instance (af ro us ng : Bool) : Decidable (bare af ro us ng) := by unfold bare; infer_instance
def DOk (k f : Int) (af ro us ng : Bool) : Prop := (k = 0 ∧ f = 0 ∧ bare af ro us ng) ∨ (k = 1 ∧ 0 ≤ f ∧ f < 64 ∧ bare af ro us ng) ∨ (k = 2 ∧ 0 ≤ f ∧ f < 64)
instance (k f : Int) (af ro us ng : Bool) : Decidable (DOk k f af ro us ng) := by unfold DOk; infer_instance
def bN (b : Bool) : Nat := if b then 1 else 0
def encN (k f : Int) (af ro us ng : Bool) : Nat := if k = 0 then 0 else 3 + 64 * bN us + 128 * bN ro + 1024 * bN af + 2048 * bN ng + 4096 * f.toNat
def encW (k f : Int) (af ro us ng : Bool) : BitVec 64 := if DOk k f af ro us ng then BitVec.ofNat 64 (encN k f af ro us ng) else 0#64
def encE (k f : Int) (af ro us ng : Bool) : Int := if DOk k f af ro us ng then 0 else 30
theorem enc_no (k f : Int) (af ro us ng : Bool) (h : ¬ DOk k f af ro us ng) : encW k f af ro us ng = 0#64 ∧ encE k f af ro us ng = 30 := ⟨if_neg h, if_neg h⟩

/-! The loop's rounds. -/
def vk (f : Int) (af ro us ng : Bool) : Nat → BitVec 64
  | 0 => vF f
  | 1 => bB us
  | 2 => bB ro
  | 3 => bB af
  | _ => bB ng
def mk : Nat → Nat → Nat
  | 1, 0 => 63
  | 2, 0 => 63
  | 2, _ => 1
  | _, _ => 0
def tk : Nat → BitVec 64
  | 0 => 0#64
  | _ => 3#64
def acc (t v0 v1 v2 v3 v4 : BitVec 64) : Nat → BitVec 64
  | 0 => t
  | 1 => t ||| v0 <<< 12
  | 2 => t ||| v0 <<< 12 ||| v1 <<< 6
  | 3 => t ||| v0 <<< 12 ||| v1 <<< 6 ||| v2 <<< 7
  | 4 => t ||| v0 <<< 12 ||| v1 <<< 6 ||| v2 <<< 7 ||| v3 <<< 10
  | _ => t ||| v0 <<< 12 ||| v1 <<< 6 ||| v2 <<< 7 ||| v3 <<< 10 ||| v4 <<< 11
def accD (K : Nat) (f : Int) (af ro us ng : Bool) (j : Nat) : BitVec 64 := acc (tk K) (vF f) (bB us) (bB ro) (bB af) (bB ng) j
theorem or_shl (x v : BitVec 64) (V C : Int) (n : Nat) (hn : n ≤ 63) (hC : C = 2 ^ n) (hV : V = (v.toNat : Int)) : bits BinOp.or IntKind.u64 (x.toNat : Int) (IntKind.u64.wrap (V * C)) = ((x ||| v <<< n).toNat : Int) := by
  subst hV hC
  rw [shl_num v n hn, bv_or]
theorem acc_fin : ∀ (f : Fin 64) (af ro us ng : Bool), acc 3#64 (BitVec.ofNat 64 f.val) (bB us) (bB ro) (bB af) (bB ng) 5 = BitVec.ofNat 64 (3 + 64 * bN us + 128 * bN ro + 1024 * bN af + 2048 * bN ng + 4096 * f.val) := by decide +kernel
theorem bB_le (b : Bool) : (bB b).toNat ≤ 1 := by cases b <;> decide
theorem bB_0 (b : Bool) (h : (bB b).toNat ≤ 0) : b = false := by cases b <;> simp_all [bB]
theorem vF_nat (f : Int) (h0 : 0 ≤ f) (h1 : f < 18446744073709551616) : vF f = BitVec.ofNat 64 f.toNat := by
  obtain ⟨n, rfl⟩ := Int.eq_ofNat_of_zero_le h0
  rfl
theorem vF_le (f : Int) (hf : (Lit.int .i64 f).wf = true) (h : (vF f).toNat ≤ 63) : 0 ≤ f ∧ f < 64 := by
  have := i64_of f hf
  unfold vF at h
  rw [BitVec.toNat_ofInt] at h
  omega
theorem enc_yes (K : Nat) (hK : K < 3) (f : Int) (af ro us ng : Bool) (hf : (Lit.int .i64 f).wf = true) (h : ∀ j, j < 5 → (vk f af ro us ng j).toNat ≤ mk K j) :
    accD K f af ro us ng 5 = encW K f af ro us ng ∧ encE K f af ro us ng = 0 := by
  have h0 := h 0 (by decide)
  have h1 := h 1 (by decide)
  have h2 := h 2 (by decide)
  have h3 := h 3 (by decide)
  have h4 := h 4 (by decide)
  clear h
  obtain rfl | rfl | rfl : K = 0 ∨ K = 1 ∨ K = 2 := by omega
  · simp only [vk, mk] at h0 h1 h2 h3 h4
    obtain rfl := bB_0 _ h1
    obtain rfl := bB_0 _ h2
    obtain rfl := bB_0 _ h3
    obtain rfl := bB_0 _ h4
    obtain ⟨a, b⟩ := vF_le f hf (by omega)
    have hz : f = 0 := by
      rw [vF_nat f a (by omega), ofN _ (by omega)] at h0
      omega
    subst hz
    exact ⟨by decide, by decide⟩
  · simp only [vk, mk] at h0 h1 h2 h3 h4
    obtain rfl := bB_0 _ h1
    obtain rfl := bB_0 _ h2
    obtain rfl := bB_0 _ h3
    obtain rfl := bB_0 _ h4
    obtain ⟨a, b⟩ := vF_le f hf h0
    have g : DOk 1 f false false false false := .inr (.inl ⟨rfl, a, b, rfl, rfl, rfl, rfl⟩)
    have e : encW 1 f false false false false = BitVec.ofNat 64 (encN 1 f false false false false) := if_pos g
    have := acc_fin ⟨f.toNat, by omega⟩ false false false false
    refine ⟨?_, if_pos g⟩
    show accD 1 f false false false false 5 = encW 1 f false false false false
    rw [e]
    show acc 3#64 (vF f) (bB false) (bB false) (bB false) (bB false) 5 = _
    rw [vF_nat f a (by omega), this]
    rfl
  · simp only [vk, mk] at h0
    obtain ⟨a, b⟩ := vF_le f hf h0
    have g : DOk 2 f af ro us ng := .inr (.inr ⟨rfl, a, b⟩)
    have e : encW 2 f af ro us ng = BitVec.ofNat 64 (encN 2 f af ro us ng) := if_pos g
    have := acc_fin ⟨f.toNat, by omega⟩ af ro us ng
    refine ⟨?_, if_pos g⟩
    show accD 2 f af ro us ng 5 = encW 2 f af ro us ng
    rw [e]
    show acc 3#64 (vF f) (bB us) (bB ro) (bB af) (bB ng) 5 = _
    rw [vF_nat f a (by omega), this]
    rfl
theorem pass_next {p : Nat → Prop} {j : Nat} (h : ∀ i, i < j → p i) (c : p j) : ∀ i, i < j + 1 → p i := fun i hi => by
  rcases Nat.lt_or_ge i j with g | g
  · exact h i g
  · obtain rfl : i = j := by omega
    exact c
theorem enc_over (K j : Nat) (hK : K < 3) (hj : j < 5) (f : Int) (af ro us ng : Bool) (h : mk K j < (vk f af ro us ng j).toNat) : encW K f af ro us ng = 0#64 ∧ encE K f af ro us ng = 30 := by
  apply enc_no
  intro g
  have b1 : (bB true).toNat = 1 := rfl
  have b0 : (bB false).toNat = 0 := rfl
  obtain rfl | rfl | rfl : K = 0 ∨ K = 1 ∨ K = 2 := by omega
  · obtain ⟨-, rfl, rfl, rfl, rfl, rfl⟩ : ((0 : Nat) : Int) = 0 ∧ f = 0 ∧ bare af ro us ng := by
      rcases g with g | g | g
      · exact g
      · have := g.1; omega
      · have := g.1; omega
    obtain rfl | rfl | rfl | rfl | rfl : j = 0 ∨ j = 1 ∨ j = 2 ∨ j = 3 ∨ j = 4 := by omega
    all_goals exact absurd h (by decide)
  · obtain ⟨-, a, b, rfl, rfl, rfl, rfl⟩ : ((1 : Nat) : Int) = 1 ∧ 0 ≤ f ∧ f < 64 ∧ bare af ro us ng := by
      rcases g with g | g | g
      · have := g.1; omega
      · exact g
      · have := g.1; omega
    obtain rfl | rfl | rfl | rfl | rfl : j = 0 ∨ j = 1 ∨ j = 2 ∨ j = 3 ∨ j = 4 := by omega
    · simp only [vk, mk] at h
      rw [vF_nat f a (by omega), ofN _ (by omega)] at h
      omega
    all_goals exact absurd h (by simp [vk, mk, bB])
  · obtain ⟨-, a, b⟩ : ((2 : Nat) : Int) = 2 ∧ 0 ≤ f ∧ f < 64 := by
      rcases g with g | g | g
      · have := g.1; omega
      · have := g.1; omega
      · exact g
    obtain rfl | rfl | rfl | rfl | rfl : j = 0 ∨ j = 1 ∨ j = 2 ∨ j = 3 ∨ j = 4 := by omega
    · simp only [vk, mk] at h
      rw [vF_nat f a (by omega), ofN _ (by omega)] at h
      omega
    all_goals
      simp only [vk, mk] at h
    · have := bB_le us; omega
    · have := bB_le ro; omega
    · have := bB_le af; omega
    · have := bB_le ng; omega

theorem TabsOk.kinds {w : World} (h : TabsOk w) (i : Nat) (v : Value) (hv : kindsL[i]? = some v) : w.cell? ⟨0, i, none⟩ = some v := h.2.1.at i v hv
theorem i8_of (a : Int) (h : (Lit.int .i8 a).wf = true) : -128 ≤ a ∧ a < 128 := by
  simp [Lit.wf, IntKind.min, IntKind.max, IntKind.bits, IntKind.signed] at h
  omega
theorem encode_low (k f : Int) (af ro us ng : Bool) (w : World) (h : k < 0) :
    Calls Tryd.prog 7 #[.agg #[.int .i8 k, .int .i64 f, .bool af, .bool ro, .bool us, .bool ng]] w fun e w' => e = .returned (.tuple #[.int .u64 (encW k f af ro us ng).toNat, .int .i64 (encE k f af ro us ng)]) ∧ Kp w w' := by
  have hn := enc_no k f af ro us ng (by intro g; unfold DOk at g; omega)
  rw [hn.1, hn.2]; clear hn
  go_enter Tryd.func7, Tryd.ntmps7
  go_wp2_with fail
  go_ret2
  exact ⟨rfl, (Kp.refl _).alloc _ _⟩
theorem encode_high (k f : Int) (af ro us ng : Bool) (w : World) (h : 3 ≤ k) (hk : k < 128) :
    Calls Tryd.prog 7 #[.agg #[.int .i8 k, .int .i64 f, .bool af, .bool ro, .bool us, .bool ng]] w fun e w' => e = .returned (.tuple #[.int .u64 (encW k f af ro us ng).toNat, .int .i64 (encE k f af ro us ng)]) ∧ Kp w w' := by
  have hn := enc_no k f af ro us ng (by intro g; unfold DOk at g; omega)
  rw [hn.1, hn.2]; clear hn
  go_enter Tryd.func7, Tryd.ntmps7
  go_wp2_with fail
  go_ret2
  exact ⟨rfl, (Kp.refl _).alloc _ _⟩
set_option maxHeartbeats 1000000 in
theorem encode_0 (f : Int) (af ro us ng : Bool) (w : World) (hT : TabsOk w) (hf : (Lit.int .i64 f).wf = true) :
    Calls Tryd.prog 7 #[.agg #[.int .i8 0, .int .i64 f, .bool af, .bool ro, .bool us, .bool ng]] w fun e w' => e = .returned (.tuple #[.int .u64 (encW 0 f af ro us ng).toNat, .int .i64 (encE 0 f af ro us ng)]) ∧ Kp w w' := by
  have HF := Lib.hid hf; clear hf
  have k0 := (hT.kp ((Kp.refl _).alloc #[.int .i8 0, .int .i64 f, .bool af, .bool ro, .bool us, .bool ng] 24)).kinds 0 _ rfl
  go_enter Tryd.func7, Tryd.ntmps7
  go_wp2_with fail
  refine (values_any 0 f af ro us ng _).mono ?_; rintro e w1 ⟨rfl, hg⟩
  have hB : Blk w1 w.heap.size #[.int .i8 0, .int .i64 f, .bool af, .bool ro, .bool us, .bool ng] 24 := (Blk.new _ _ _).kp hg
  have hT1 := hT.kp (Kp.trans ((Kp.refl w).alloc _ _) hg)
  have HG := Lib.hid (Kp.trans ((Kp.refl w).alloc _ _) hg)
  clear hg hT
  have c0 := hB.cell 0
  simp at c0
  clear k0
  have k1 := hT1.kinds 1 _ rfl
  have k2 := hT1.kinds 2 _ rfl
  have k3 := hT1.kinds 3 _ rfl
  have k4 := hT1.kinds 4 _ rfl
  have k5 := hT1.kinds 5 _ rfl
  have s0 := hT1.spots 1 _ rfl
  have s1 := hT1.spots 3 _ rfl
  have s2 := hT1.spots 5 _ rfl
  have s3 := hT1.spots 7 _ rfl
  have s4 := hT1.spots 9 _ rfl
  clear hT1 hB
  have e0 : (0 : Int) = ((accD 0 f af ro us ng 0).toNat : Int) := rfl
  have E0 := Lib.hid e0; clear e0
  go_wp2
  go_loop [4, 23] (fun v i => ∃ j : Nat, j ≤ 5 ∧ i = .int .i64 j ∧ v = .int .u64 (accD 0 f af ro us ng j).toNat ∧ Hid (∀ i, i < j → (vk f af ro us ng i).toNat ≤ mk 0 i)) (fun _ i => 5 - (intOf i).toNat)
  case atStart => exact ⟨0, by omega, rfl, by rw [← E0.out], Lib.hid fun i hi => by omega⟩
  case round =>
    obtain ⟨j, hj, rfl, rfl, hp⟩ := hrel
    by_cases h5 : j = 5
    · subst h5
      have HE := Lib.hid (enc_yes 0 (by decide) f af ro us ng HF.out hp.out)
      clear hp hj
      go_wp2_with fail
      go_ret2
      exact ⟨ret_pair (congrArg (fun x : BitVec 64 => (x.toNat : Int)) HE.out.1) HE.out.2.symm, HG.out⟩
    · obtain rfl | rfl | rfl | rfl | rfl : j = 0 ∨ j = 1 ∨ j = 2 ∨ j = 3 ∨ j = 4 := by omega
      · obtain ⟨V, hV⟩ : ∃ V : Int, V = ((vF f).toNat : Int) := ⟨_, rfl⟩
        have HS := Lib.hid (or_shl (accD 0 f af ro us ng 0) (vF f) V 4096 12 (by decide) (by decide) hV)
        have HV := Lib.hid hV
        have ix : ∀ w' : World, (Instr.index 38 (.agg #[.int .u64 (vF f).toNat, .int .u64 (bB us).toNat, .int .u64 (bB ro).toNat, .int .u64 (bB af).toNat, .int .u64 (bB ng).toNat]) (.int .i64 0)).run Tryd.prog w' = .ok (.int .u64 V) w' :=
          index_one Tryd.underlying38 Tryd.underlying25 rfl (by kernel_rfl) _ 0 rfl (by decide) (by rw [hV]; rfl)
        clear hV
        by_cases c : V ≤ 0
        · have HP : Hid (∀ i, i < 0 + 1 → (vk f af ro us ng i).toNat ≤ mk 0 i) := Lib.hid (pass_next hp.out (by
            show (vF f).toNat ≤ 0
            have := HV.out
            omega))
          clear hp HV h5 hj
          go_wp2_with fail
          go_round
          case rel => exact ⟨1, by omega, by go_num, by rw [HS.out]; rfl, HP⟩
          case measure => simp [intOf]
        · have c' : 0 < V := by omega
          have HE := Lib.hid (enc_over 0 0 (by decide) (by decide) f af ro us ng (by
            show 0 < (vF f).toNat
            have := HV.out
            omega))
          clear hp HV h5 hj c
          go_wp2_with fail
          go_ret2
          exact ⟨ret_pair (congrArg (fun x : BitVec 64 => (x.toNat : Int)) HE.out.1.symm) HE.out.2.symm, HG.out⟩
      · obtain ⟨V, hV⟩ : ∃ V : Int, V = ((bB us).toNat : Int) := ⟨_, rfl⟩
        have HS := Lib.hid (or_shl (accD 0 f af ro us ng 1) (bB us) V 64 6 (by decide) (by decide) hV)
        have HV := Lib.hid hV
        have ix : ∀ w' : World, (Instr.index 38 (.agg #[.int .u64 (vF f).toNat, .int .u64 (bB us).toNat, .int .u64 (bB ro).toNat, .int .u64 (bB af).toNat, .int .u64 (bB ng).toNat]) (.int .i64 1)).run Tryd.prog w' = .ok (.int .u64 V) w' :=
          index_one Tryd.underlying38 Tryd.underlying25 rfl (by kernel_rfl) _ 1 rfl (by decide) (by rw [hV]; rfl)
        clear hV
        by_cases c : V ≤ 0
        · have HP : Hid (∀ i, i < 1 + 1 → (vk f af ro us ng i).toNat ≤ mk 0 i) := Lib.hid (pass_next hp.out (by
            show (bB us).toNat ≤ 0
            have := HV.out
            omega))
          clear hp HV h5 hj
          go_wp2_with fail
          go_round
          case rel => exact ⟨2, by omega, by go_num, by rw [HS.out]; rfl, HP⟩
          case measure => simp [intOf]
        · have c' : 0 < V := by omega
          have HE := Lib.hid (enc_over 0 1 (by decide) (by decide) f af ro us ng (by
            show 0 < (bB us).toNat
            have := HV.out
            omega))
          clear hp HV h5 hj c
          go_wp2_with fail
          go_ret2
          exact ⟨ret_pair (congrArg (fun x : BitVec 64 => (x.toNat : Int)) HE.out.1.symm) HE.out.2.symm, HG.out⟩
      · obtain ⟨V, hV⟩ : ∃ V : Int, V = ((bB ro).toNat : Int) := ⟨_, rfl⟩
        have HS := Lib.hid (or_shl (accD 0 f af ro us ng 2) (bB ro) V 128 7 (by decide) (by decide) hV)
        have HV := Lib.hid hV
        have ix : ∀ w' : World, (Instr.index 38 (.agg #[.int .u64 (vF f).toNat, .int .u64 (bB us).toNat, .int .u64 (bB ro).toNat, .int .u64 (bB af).toNat, .int .u64 (bB ng).toNat]) (.int .i64 2)).run Tryd.prog w' = .ok (.int .u64 V) w' :=
          index_one Tryd.underlying38 Tryd.underlying25 rfl (by kernel_rfl) _ 2 rfl (by decide) (by rw [hV]; rfl)
        clear hV
        by_cases c : V ≤ 0
        · have HP : Hid (∀ i, i < 2 + 1 → (vk f af ro us ng i).toNat ≤ mk 0 i) := Lib.hid (pass_next hp.out (by
            show (bB ro).toNat ≤ 0
            have := HV.out
            omega))
          clear hp HV h5 hj
          go_wp2_with fail
          go_round
          case rel => exact ⟨3, by omega, by go_num, by rw [HS.out]; rfl, HP⟩
          case measure => simp [intOf]
        · have c' : 0 < V := by omega
          have HE := Lib.hid (enc_over 0 2 (by decide) (by decide) f af ro us ng (by
            show 0 < (bB ro).toNat
            have := HV.out
            omega))
          clear hp HV h5 hj c
          go_wp2_with fail
          go_ret2
          exact ⟨ret_pair (congrArg (fun x : BitVec 64 => (x.toNat : Int)) HE.out.1.symm) HE.out.2.symm, HG.out⟩
      · obtain ⟨V, hV⟩ : ∃ V : Int, V = ((bB af).toNat : Int) := ⟨_, rfl⟩
        have HS := Lib.hid (or_shl (accD 0 f af ro us ng 3) (bB af) V 1024 10 (by decide) (by decide) hV)
        have HV := Lib.hid hV
        have ix : ∀ w' : World, (Instr.index 38 (.agg #[.int .u64 (vF f).toNat, .int .u64 (bB us).toNat, .int .u64 (bB ro).toNat, .int .u64 (bB af).toNat, .int .u64 (bB ng).toNat]) (.int .i64 3)).run Tryd.prog w' = .ok (.int .u64 V) w' :=
          index_one Tryd.underlying38 Tryd.underlying25 rfl (by kernel_rfl) _ 3 rfl (by decide) (by rw [hV]; rfl)
        clear hV
        by_cases c : V ≤ 0
        · have HP : Hid (∀ i, i < 3 + 1 → (vk f af ro us ng i).toNat ≤ mk 0 i) := Lib.hid (pass_next hp.out (by
            show (bB af).toNat ≤ 0
            have := HV.out
            omega))
          clear hp HV h5 hj
          go_wp2_with fail
          go_round
          case rel => exact ⟨4, by omega, by go_num, by rw [HS.out]; rfl, HP⟩
          case measure => simp [intOf]
        · have c' : 0 < V := by omega
          have HE := Lib.hid (enc_over 0 3 (by decide) (by decide) f af ro us ng (by
            show 0 < (bB af).toNat
            have := HV.out
            omega))
          clear hp HV h5 hj c
          go_wp2_with fail
          go_ret2
          exact ⟨ret_pair (congrArg (fun x : BitVec 64 => (x.toNat : Int)) HE.out.1.symm) HE.out.2.symm, HG.out⟩
      · obtain ⟨V, hV⟩ : ∃ V : Int, V = ((bB ng).toNat : Int) := ⟨_, rfl⟩
        have HS := Lib.hid (or_shl (accD 0 f af ro us ng 4) (bB ng) V 2048 11 (by decide) (by decide) hV)
        have HV := Lib.hid hV
        have ix : ∀ w' : World, (Instr.index 38 (.agg #[.int .u64 (vF f).toNat, .int .u64 (bB us).toNat, .int .u64 (bB ro).toNat, .int .u64 (bB af).toNat, .int .u64 (bB ng).toNat]) (.int .i64 4)).run Tryd.prog w' = .ok (.int .u64 V) w' :=
          index_one Tryd.underlying38 Tryd.underlying25 rfl (by kernel_rfl) _ 4 rfl (by decide) (by rw [hV]; rfl)
        clear hV
        by_cases c : V ≤ 0
        · have HP : Hid (∀ i, i < 4 + 1 → (vk f af ro us ng i).toNat ≤ mk 0 i) := Lib.hid (pass_next hp.out (by
            show (bB ng).toNat ≤ 0
            have := HV.out
            omega))
          clear hp HV h5 hj
          go_wp2_with fail
          go_round
          case rel => exact ⟨5, by omega, by go_num, by rw [HS.out]; rfl, HP⟩
          case measure => simp [intOf]
        · have c' : 0 < V := by omega
          have HE := Lib.hid (enc_over 0 4 (by decide) (by decide) f af ro us ng (by
            show 0 < (bB ng).toNat
            have := HV.out
            omega))
          clear hp HV h5 hj c
          go_wp2_with fail
          go_ret2
          exact ⟨ret_pair (congrArg (fun x : BitVec 64 => (x.toNat : Int)) HE.out.1.symm) HE.out.2.symm, HG.out⟩
set_option maxHeartbeats 1000000 in
theorem encode_1 (f : Int) (af ro us ng : Bool) (w : World) (hT : TabsOk w) (hf : (Lit.int .i64 f).wf = true) :
    Calls Tryd.prog 7 #[.agg #[.int .i8 1, .int .i64 f, .bool af, .bool ro, .bool us, .bool ng]] w fun e w' => e = .returned (.tuple #[.int .u64 (encW 1 f af ro us ng).toNat, .int .i64 (encE 1 f af ro us ng)]) ∧ Kp w w' := by
  have HF := Lib.hid hf; clear hf
  have k0 := (hT.kp ((Kp.refl _).alloc #[.int .i8 1, .int .i64 f, .bool af, .bool ro, .bool us, .bool ng] 24)).kinds 6 _ rfl
  go_enter Tryd.func7, Tryd.ntmps7
  go_wp2_with fail
  refine (values_any 1 f af ro us ng _).mono ?_; rintro e w1 ⟨rfl, hg⟩
  have hB : Blk w1 w.heap.size #[.int .i8 1, .int .i64 f, .bool af, .bool ro, .bool us, .bool ng] 24 := (Blk.new _ _ _).kp hg
  have hT1 := hT.kp (Kp.trans ((Kp.refl w).alloc _ _) hg)
  have HG := Lib.hid (Kp.trans ((Kp.refl w).alloc _ _) hg)
  clear hg hT
  have c0 := hB.cell 0
  simp at c0
  clear k0
  have k1 := hT1.kinds 7 _ rfl
  have k2 := hT1.kinds 8 _ rfl
  have k3 := hT1.kinds 9 _ rfl
  have k4 := hT1.kinds 10 _ rfl
  have k5 := hT1.kinds 11 _ rfl
  have s0 := hT1.spots 1 _ rfl
  have s1 := hT1.spots 3 _ rfl
  have s2 := hT1.spots 5 _ rfl
  have s3 := hT1.spots 7 _ rfl
  have s4 := hT1.spots 9 _ rfl
  clear hT1 hB
  have e0 : (3 : Int) = ((accD 1 f af ro us ng 0).toNat : Int) := rfl
  have E0 := Lib.hid e0; clear e0
  go_wp2
  go_loop [4, 23] (fun v i => ∃ j : Nat, j ≤ 5 ∧ i = .int .i64 j ∧ v = .int .u64 (accD 1 f af ro us ng j).toNat ∧ Hid (∀ i, i < j → (vk f af ro us ng i).toNat ≤ mk 1 i)) (fun _ i => 5 - (intOf i).toNat)
  case atStart => exact ⟨0, by omega, rfl, by rw [← E0.out], Lib.hid fun i hi => by omega⟩
  case round =>
    obtain ⟨j, hj, rfl, rfl, hp⟩ := hrel
    by_cases h5 : j = 5
    · subst h5
      have HE := Lib.hid (enc_yes 1 (by decide) f af ro us ng HF.out hp.out)
      clear hp hj
      go_wp2_with fail
      go_ret2
      exact ⟨ret_pair (congrArg (fun x : BitVec 64 => (x.toNat : Int)) HE.out.1) HE.out.2.symm, HG.out⟩
    · obtain rfl | rfl | rfl | rfl | rfl : j = 0 ∨ j = 1 ∨ j = 2 ∨ j = 3 ∨ j = 4 := by omega
      · obtain ⟨V, hV⟩ : ∃ V : Int, V = ((vF f).toNat : Int) := ⟨_, rfl⟩
        have HS := Lib.hid (or_shl (accD 1 f af ro us ng 0) (vF f) V 4096 12 (by decide) (by decide) hV)
        have HV := Lib.hid hV
        have ix : ∀ w' : World, (Instr.index 38 (.agg #[.int .u64 (vF f).toNat, .int .u64 (bB us).toNat, .int .u64 (bB ro).toNat, .int .u64 (bB af).toNat, .int .u64 (bB ng).toNat]) (.int .i64 0)).run Tryd.prog w' = .ok (.int .u64 V) w' :=
          index_one Tryd.underlying38 Tryd.underlying25 rfl (by kernel_rfl) _ 0 rfl (by decide) (by rw [hV]; rfl)
        clear hV
        by_cases c : V ≤ 63
        · have HP : Hid (∀ i, i < 0 + 1 → (vk f af ro us ng i).toNat ≤ mk 1 i) := Lib.hid (pass_next hp.out (by
            show (vF f).toNat ≤ 63
            have := HV.out
            omega))
          clear hp HV h5 hj
          go_wp2_with fail
          go_round
          case rel => exact ⟨1, by omega, by go_num, by rw [HS.out]; rfl, HP⟩
          case measure => simp [intOf]
        · have c' : 63 < V := by omega
          have HE := Lib.hid (enc_over 1 0 (by decide) (by decide) f af ro us ng (by
            show 63 < (vF f).toNat
            have := HV.out
            omega))
          clear hp HV h5 hj c
          go_wp2_with fail
          go_ret2
          exact ⟨ret_pair (congrArg (fun x : BitVec 64 => (x.toNat : Int)) HE.out.1.symm) HE.out.2.symm, HG.out⟩
      · obtain ⟨V, hV⟩ : ∃ V : Int, V = ((bB us).toNat : Int) := ⟨_, rfl⟩
        have HS := Lib.hid (or_shl (accD 1 f af ro us ng 1) (bB us) V 64 6 (by decide) (by decide) hV)
        have HV := Lib.hid hV
        have ix : ∀ w' : World, (Instr.index 38 (.agg #[.int .u64 (vF f).toNat, .int .u64 (bB us).toNat, .int .u64 (bB ro).toNat, .int .u64 (bB af).toNat, .int .u64 (bB ng).toNat]) (.int .i64 1)).run Tryd.prog w' = .ok (.int .u64 V) w' :=
          index_one Tryd.underlying38 Tryd.underlying25 rfl (by kernel_rfl) _ 1 rfl (by decide) (by rw [hV]; rfl)
        clear hV
        by_cases c : V ≤ 0
        · have HP : Hid (∀ i, i < 1 + 1 → (vk f af ro us ng i).toNat ≤ mk 1 i) := Lib.hid (pass_next hp.out (by
            show (bB us).toNat ≤ 0
            have := HV.out
            omega))
          clear hp HV h5 hj
          go_wp2_with fail
          go_round
          case rel => exact ⟨2, by omega, by go_num, by rw [HS.out]; rfl, HP⟩
          case measure => simp [intOf]
        · have c' : 0 < V := by omega
          have HE := Lib.hid (enc_over 1 1 (by decide) (by decide) f af ro us ng (by
            show 0 < (bB us).toNat
            have := HV.out
            omega))
          clear hp HV h5 hj c
          go_wp2_with fail
          go_ret2
          exact ⟨ret_pair (congrArg (fun x : BitVec 64 => (x.toNat : Int)) HE.out.1.symm) HE.out.2.symm, HG.out⟩
      · obtain ⟨V, hV⟩ : ∃ V : Int, V = ((bB ro).toNat : Int) := ⟨_, rfl⟩
        have HS := Lib.hid (or_shl (accD 1 f af ro us ng 2) (bB ro) V 128 7 (by decide) (by decide) hV)
        have HV := Lib.hid hV
        have ix : ∀ w' : World, (Instr.index 38 (.agg #[.int .u64 (vF f).toNat, .int .u64 (bB us).toNat, .int .u64 (bB ro).toNat, .int .u64 (bB af).toNat, .int .u64 (bB ng).toNat]) (.int .i64 2)).run Tryd.prog w' = .ok (.int .u64 V) w' :=
          index_one Tryd.underlying38 Tryd.underlying25 rfl (by kernel_rfl) _ 2 rfl (by decide) (by rw [hV]; rfl)
        clear hV
        by_cases c : V ≤ 0
        · have HP : Hid (∀ i, i < 2 + 1 → (vk f af ro us ng i).toNat ≤ mk 1 i) := Lib.hid (pass_next hp.out (by
            show (bB ro).toNat ≤ 0
            have := HV.out
            omega))
          clear hp HV h5 hj
          go_wp2_with fail
          go_round
          case rel => exact ⟨3, by omega, by go_num, by rw [HS.out]; rfl, HP⟩
          case measure => simp [intOf]
        · have c' : 0 < V := by omega
          have HE := Lib.hid (enc_over 1 2 (by decide) (by decide) f af ro us ng (by
            show 0 < (bB ro).toNat
            have := HV.out
            omega))
          clear hp HV h5 hj c
          go_wp2_with fail
          go_ret2
          exact ⟨ret_pair (congrArg (fun x : BitVec 64 => (x.toNat : Int)) HE.out.1.symm) HE.out.2.symm, HG.out⟩
      · obtain ⟨V, hV⟩ : ∃ V : Int, V = ((bB af).toNat : Int) := ⟨_, rfl⟩
        have HS := Lib.hid (or_shl (accD 1 f af ro us ng 3) (bB af) V 1024 10 (by decide) (by decide) hV)
        have HV := Lib.hid hV
        have ix : ∀ w' : World, (Instr.index 38 (.agg #[.int .u64 (vF f).toNat, .int .u64 (bB us).toNat, .int .u64 (bB ro).toNat, .int .u64 (bB af).toNat, .int .u64 (bB ng).toNat]) (.int .i64 3)).run Tryd.prog w' = .ok (.int .u64 V) w' :=
          index_one Tryd.underlying38 Tryd.underlying25 rfl (by kernel_rfl) _ 3 rfl (by decide) (by rw [hV]; rfl)
        clear hV
        by_cases c : V ≤ 0
        · have HP : Hid (∀ i, i < 3 + 1 → (vk f af ro us ng i).toNat ≤ mk 1 i) := Lib.hid (pass_next hp.out (by
            show (bB af).toNat ≤ 0
            have := HV.out
            omega))
          clear hp HV h5 hj
          go_wp2_with fail
          go_round
          case rel => exact ⟨4, by omega, by go_num, by rw [HS.out]; rfl, HP⟩
          case measure => simp [intOf]
        · have c' : 0 < V := by omega
          have HE := Lib.hid (enc_over 1 3 (by decide) (by decide) f af ro us ng (by
            show 0 < (bB af).toNat
            have := HV.out
            omega))
          clear hp HV h5 hj c
          go_wp2_with fail
          go_ret2
          exact ⟨ret_pair (congrArg (fun x : BitVec 64 => (x.toNat : Int)) HE.out.1.symm) HE.out.2.symm, HG.out⟩
      · obtain ⟨V, hV⟩ : ∃ V : Int, V = ((bB ng).toNat : Int) := ⟨_, rfl⟩
        have HS := Lib.hid (or_shl (accD 1 f af ro us ng 4) (bB ng) V 2048 11 (by decide) (by decide) hV)
        have HV := Lib.hid hV
        have ix : ∀ w' : World, (Instr.index 38 (.agg #[.int .u64 (vF f).toNat, .int .u64 (bB us).toNat, .int .u64 (bB ro).toNat, .int .u64 (bB af).toNat, .int .u64 (bB ng).toNat]) (.int .i64 4)).run Tryd.prog w' = .ok (.int .u64 V) w' :=
          index_one Tryd.underlying38 Tryd.underlying25 rfl (by kernel_rfl) _ 4 rfl (by decide) (by rw [hV]; rfl)
        clear hV
        by_cases c : V ≤ 0
        · have HP : Hid (∀ i, i < 4 + 1 → (vk f af ro us ng i).toNat ≤ mk 1 i) := Lib.hid (pass_next hp.out (by
            show (bB ng).toNat ≤ 0
            have := HV.out
            omega))
          clear hp HV h5 hj
          go_wp2_with fail
          go_round
          case rel => exact ⟨5, by omega, by go_num, by rw [HS.out]; rfl, HP⟩
          case measure => simp [intOf]
        · have c' : 0 < V := by omega
          have HE := Lib.hid (enc_over 1 4 (by decide) (by decide) f af ro us ng (by
            show 0 < (bB ng).toNat
            have := HV.out
            omega))
          clear hp HV h5 hj c
          go_wp2_with fail
          go_ret2
          exact ⟨ret_pair (congrArg (fun x : BitVec 64 => (x.toNat : Int)) HE.out.1.symm) HE.out.2.symm, HG.out⟩
set_option maxHeartbeats 1000000 in
theorem encode_2 (f : Int) (af ro us ng : Bool) (w : World) (hT : TabsOk w) (hf : (Lit.int .i64 f).wf = true) :
    Calls Tryd.prog 7 #[.agg #[.int .i8 2, .int .i64 f, .bool af, .bool ro, .bool us, .bool ng]] w fun e w' => e = .returned (.tuple #[.int .u64 (encW 2 f af ro us ng).toNat, .int .i64 (encE 2 f af ro us ng)]) ∧ Kp w w' := by
  have HF := Lib.hid hf; clear hf
  have k0 := (hT.kp ((Kp.refl _).alloc #[.int .i8 2, .int .i64 f, .bool af, .bool ro, .bool us, .bool ng] 24)).kinds 12 _ rfl
  go_enter Tryd.func7, Tryd.ntmps7
  go_wp2_with fail
  refine (values_any 2 f af ro us ng _).mono ?_; rintro e w1 ⟨rfl, hg⟩
  have hB : Blk w1 w.heap.size #[.int .i8 2, .int .i64 f, .bool af, .bool ro, .bool us, .bool ng] 24 := (Blk.new _ _ _).kp hg
  have hT1 := hT.kp (Kp.trans ((Kp.refl w).alloc _ _) hg)
  have HG := Lib.hid (Kp.trans ((Kp.refl w).alloc _ _) hg)
  clear hg hT
  have c0 := hB.cell 0
  simp at c0
  clear k0
  have k1 := hT1.kinds 13 _ rfl
  have k2 := hT1.kinds 14 _ rfl
  have k3 := hT1.kinds 15 _ rfl
  have k4 := hT1.kinds 16 _ rfl
  have k5 := hT1.kinds 17 _ rfl
  have s0 := hT1.spots 1 _ rfl
  have s1 := hT1.spots 3 _ rfl
  have s2 := hT1.spots 5 _ rfl
  have s3 := hT1.spots 7 _ rfl
  have s4 := hT1.spots 9 _ rfl
  clear hT1 hB
  have e0 : (3 : Int) = ((accD 2 f af ro us ng 0).toNat : Int) := rfl
  have E0 := Lib.hid e0; clear e0
  go_wp2
  go_loop [4, 23] (fun v i => ∃ j : Nat, j ≤ 5 ∧ i = .int .i64 j ∧ v = .int .u64 (accD 2 f af ro us ng j).toNat ∧ Hid (∀ i, i < j → (vk f af ro us ng i).toNat ≤ mk 2 i)) (fun _ i => 5 - (intOf i).toNat)
  case atStart => exact ⟨0, by omega, rfl, by rw [← E0.out], Lib.hid fun i hi => by omega⟩
  case round =>
    obtain ⟨j, hj, rfl, rfl, hp⟩ := hrel
    by_cases h5 : j = 5
    · subst h5
      have HE := Lib.hid (enc_yes 2 (by decide) f af ro us ng HF.out hp.out)
      clear hp hj
      go_wp2_with fail
      go_ret2
      exact ⟨ret_pair (congrArg (fun x : BitVec 64 => (x.toNat : Int)) HE.out.1) HE.out.2.symm, HG.out⟩
    · obtain rfl | rfl | rfl | rfl | rfl : j = 0 ∨ j = 1 ∨ j = 2 ∨ j = 3 ∨ j = 4 := by omega
      · obtain ⟨V, hV⟩ : ∃ V : Int, V = ((vF f).toNat : Int) := ⟨_, rfl⟩
        have HS := Lib.hid (or_shl (accD 2 f af ro us ng 0) (vF f) V 4096 12 (by decide) (by decide) hV)
        have HV := Lib.hid hV
        have ix : ∀ w' : World, (Instr.index 38 (.agg #[.int .u64 (vF f).toNat, .int .u64 (bB us).toNat, .int .u64 (bB ro).toNat, .int .u64 (bB af).toNat, .int .u64 (bB ng).toNat]) (.int .i64 0)).run Tryd.prog w' = .ok (.int .u64 V) w' :=
          index_one Tryd.underlying38 Tryd.underlying25 rfl (by kernel_rfl) _ 0 rfl (by decide) (by rw [hV]; rfl)
        clear hV
        by_cases c : V ≤ 63
        · have HP : Hid (∀ i, i < 0 + 1 → (vk f af ro us ng i).toNat ≤ mk 2 i) := Lib.hid (pass_next hp.out (by
            show (vF f).toNat ≤ 63
            have := HV.out
            omega))
          clear hp HV h5 hj
          go_wp2_with fail
          go_round
          case rel => exact ⟨1, by omega, by go_num, by rw [HS.out]; rfl, HP⟩
          case measure => simp [intOf]
        · have c' : 63 < V := by omega
          have HE := Lib.hid (enc_over 2 0 (by decide) (by decide) f af ro us ng (by
            show 63 < (vF f).toNat
            have := HV.out
            omega))
          clear hp HV h5 hj c
          go_wp2_with fail
          go_ret2
          exact ⟨ret_pair (congrArg (fun x : BitVec 64 => (x.toNat : Int)) HE.out.1.symm) HE.out.2.symm, HG.out⟩
      · obtain ⟨V, hV⟩ : ∃ V : Int, V = ((bB us).toNat : Int) := ⟨_, rfl⟩
        have HS := Lib.hid (or_shl (accD 2 f af ro us ng 1) (bB us) V 64 6 (by decide) (by decide) hV)
        have HV := Lib.hid hV
        have ix : ∀ w' : World, (Instr.index 38 (.agg #[.int .u64 (vF f).toNat, .int .u64 (bB us).toNat, .int .u64 (bB ro).toNat, .int .u64 (bB af).toNat, .int .u64 (bB ng).toNat]) (.int .i64 1)).run Tryd.prog w' = .ok (.int .u64 V) w' :=
          index_one Tryd.underlying38 Tryd.underlying25 rfl (by kernel_rfl) _ 1 rfl (by decide) (by rw [hV]; rfl)
        clear hV
        by_cases c : V ≤ 1
        · have HP : Hid (∀ i, i < 1 + 1 → (vk f af ro us ng i).toNat ≤ mk 2 i) := Lib.hid (pass_next hp.out (by
            show (bB us).toNat ≤ 1
            have := HV.out
            omega))
          clear hp HV h5 hj
          go_wp2_with fail
          go_round
          case rel => exact ⟨2, by omega, by go_num, by rw [HS.out]; rfl, HP⟩
          case measure => simp [intOf]
        · have c' : 1 < V := by omega
          have HE := Lib.hid (enc_over 2 1 (by decide) (by decide) f af ro us ng (by
            show 1 < (bB us).toNat
            have := HV.out
            omega))
          clear hp HV h5 hj c
          go_wp2_with fail
          go_ret2
          exact ⟨ret_pair (congrArg (fun x : BitVec 64 => (x.toNat : Int)) HE.out.1.symm) HE.out.2.symm, HG.out⟩
      · obtain ⟨V, hV⟩ : ∃ V : Int, V = ((bB ro).toNat : Int) := ⟨_, rfl⟩
        have HS := Lib.hid (or_shl (accD 2 f af ro us ng 2) (bB ro) V 128 7 (by decide) (by decide) hV)
        have HV := Lib.hid hV
        have ix : ∀ w' : World, (Instr.index 38 (.agg #[.int .u64 (vF f).toNat, .int .u64 (bB us).toNat, .int .u64 (bB ro).toNat, .int .u64 (bB af).toNat, .int .u64 (bB ng).toNat]) (.int .i64 2)).run Tryd.prog w' = .ok (.int .u64 V) w' :=
          index_one Tryd.underlying38 Tryd.underlying25 rfl (by kernel_rfl) _ 2 rfl (by decide) (by rw [hV]; rfl)
        clear hV
        by_cases c : V ≤ 1
        · have HP : Hid (∀ i, i < 2 + 1 → (vk f af ro us ng i).toNat ≤ mk 2 i) := Lib.hid (pass_next hp.out (by
            show (bB ro).toNat ≤ 1
            have := HV.out
            omega))
          clear hp HV h5 hj
          go_wp2_with fail
          go_round
          case rel => exact ⟨3, by omega, by go_num, by rw [HS.out]; rfl, HP⟩
          case measure => simp [intOf]
        · have c' : 1 < V := by omega
          have HE := Lib.hid (enc_over 2 2 (by decide) (by decide) f af ro us ng (by
            show 1 < (bB ro).toNat
            have := HV.out
            omega))
          clear hp HV h5 hj c
          go_wp2_with fail
          go_ret2
          exact ⟨ret_pair (congrArg (fun x : BitVec 64 => (x.toNat : Int)) HE.out.1.symm) HE.out.2.symm, HG.out⟩
      · obtain ⟨V, hV⟩ : ∃ V : Int, V = ((bB af).toNat : Int) := ⟨_, rfl⟩
        have HS := Lib.hid (or_shl (accD 2 f af ro us ng 3) (bB af) V 1024 10 (by decide) (by decide) hV)
        have HV := Lib.hid hV
        have ix : ∀ w' : World, (Instr.index 38 (.agg #[.int .u64 (vF f).toNat, .int .u64 (bB us).toNat, .int .u64 (bB ro).toNat, .int .u64 (bB af).toNat, .int .u64 (bB ng).toNat]) (.int .i64 3)).run Tryd.prog w' = .ok (.int .u64 V) w' :=
          index_one Tryd.underlying38 Tryd.underlying25 rfl (by kernel_rfl) _ 3 rfl (by decide) (by rw [hV]; rfl)
        clear hV
        by_cases c : V ≤ 1
        · have HP : Hid (∀ i, i < 3 + 1 → (vk f af ro us ng i).toNat ≤ mk 2 i) := Lib.hid (pass_next hp.out (by
            show (bB af).toNat ≤ 1
            have := HV.out
            omega))
          clear hp HV h5 hj
          go_wp2_with fail
          go_round
          case rel => exact ⟨4, by omega, by go_num, by rw [HS.out]; rfl, HP⟩
          case measure => simp [intOf]
        · have c' : 1 < V := by omega
          have HE := Lib.hid (enc_over 2 3 (by decide) (by decide) f af ro us ng (by
            show 1 < (bB af).toNat
            have := HV.out
            omega))
          clear hp HV h5 hj c
          go_wp2_with fail
          go_ret2
          exact ⟨ret_pair (congrArg (fun x : BitVec 64 => (x.toNat : Int)) HE.out.1.symm) HE.out.2.symm, HG.out⟩
      · obtain ⟨V, hV⟩ : ∃ V : Int, V = ((bB ng).toNat : Int) := ⟨_, rfl⟩
        have HS := Lib.hid (or_shl (accD 2 f af ro us ng 4) (bB ng) V 2048 11 (by decide) (by decide) hV)
        have HV := Lib.hid hV
        have ix : ∀ w' : World, (Instr.index 38 (.agg #[.int .u64 (vF f).toNat, .int .u64 (bB us).toNat, .int .u64 (bB ro).toNat, .int .u64 (bB af).toNat, .int .u64 (bB ng).toNat]) (.int .i64 4)).run Tryd.prog w' = .ok (.int .u64 V) w' :=
          index_one Tryd.underlying38 Tryd.underlying25 rfl (by kernel_rfl) _ 4 rfl (by decide) (by rw [hV]; rfl)
        clear hV
        by_cases c : V ≤ 1
        · have HP : Hid (∀ i, i < 4 + 1 → (vk f af ro us ng i).toNat ≤ mk 2 i) := Lib.hid (pass_next hp.out (by
            show (bB ng).toNat ≤ 1
            have := HV.out
            omega))
          clear hp HV h5 hj
          go_wp2_with fail
          go_round
          case rel => exact ⟨5, by omega, by go_num, by rw [HS.out]; rfl, HP⟩
          case measure => simp [intOf]
        · have c' : 1 < V := by omega
          have HE := Lib.hid (enc_over 2 4 (by decide) (by decide) f af ro us ng (by
            show 1 < (bB ng).toNat
            have := HV.out
            omega))
          clear hp HV h5 hj c
          go_wp2_with fail
          go_ret2
          exact ⟨ret_pair (congrArg (fun x : BitVec 64 => (x.toNat : Int)) HE.out.1.symm) HE.out.2.symm, HG.out⟩
theorem encode_any (k f : Int) (af ro us ng : Bool) (w : World) (hT : TabsOk w) (hk : (Lit.int .i8 k).wf = true) (hf : (Lit.int .i64 f).wf = true) :
    Calls Tryd.prog 7 #[.agg #[.int .i8 k, .int .i64 f, .bool af, .bool ro, .bool us, .bool ng]] w fun e w' => e = .returned (.tuple #[.int .u64 (encW k f af ro us ng).toNat, .int .i64 (encE k f af ro us ng)]) ∧ Kp w w' := by
  have hb := i8_of k hk
  by_cases a : k < 0
  · exact encode_low k f af ro us ng w a
  · by_cases b : 3 ≤ k
    · exact encode_high k f af ro us ng w b hb.2
    · obtain rfl | rfl | rfl : k = 0 ∨ k = 1 ∨ k = 2 := by omega
      · exact encode_0 f af ro us ng w hT hf
      · exact encode_1 f af ro us ng w hT hf
      · exact encode_2 f af ro us ng w hT hf
end Go.Proofs.YtpdgajlookhpfaaDoor
