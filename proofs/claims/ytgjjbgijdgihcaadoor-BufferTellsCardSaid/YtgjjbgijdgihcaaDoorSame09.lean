/-
  Two rows of entries held against each other; the rows that functions answered. No condition.
-/
import Derived.Test.YtgjjbgijdgihcaaDoorRow09
namespace Go.Proofs.YtgjjbgijdgihcaaDoor
open Go Go.RowKit

set_option maxHeartbeats 2000000 in
theorem same_any (a1 a2 : Option Addr) (cap1 cap2 N M : Nat) (L : List Ent) (w : World) (hN : N = L.length) (hM : M = L.length) (h1 : RowE w a1 cap1 L) (h2 : RowE w a2 cap2 L) (hn : L.length ≤ 100) :
    Calls Tryd.prog 14 #[.slice a1 N cap1, .slice a2 M cap2] w fun r w' => r = .returned (.bool true) ∧ Kp w w' := by
  obtain rfl : N = M := hN.trans hM.symm
  have hNI : (N : Int) ≤ 100 := by omega
  have HE := Lib.hid hN
  have H1 := Lib.hid h1
  have H2 := Lib.hid h2
  clear hN hM h1 h2 hn
  go_enter Tryd.func14, Tryd.ntmps14
  go_wp2_with fail
  go_loopw [5] (fun i wr => ∃ k : Nat, k ≤ N ∧ i = .int .i64 k ∧ Kp w wr) (fun i _ => N - (intOf i).toNat)
  case atStart => exact ⟨0, by omega, rfl, Kp.refl w⟩
  case round =>
    obtain ⟨k, hkN, rfl, hk⟩ := hrel
    obtain ⟨w3, rfl⟩ : ∃ w3, w3 = wr := ⟨_, rfl⟩
    have HK := Lib.hid hk
    clear hk
    by_cases hkl : k = N
    · subst hkl
      clear hkN
      go_wp2
      go_ret
      exact ⟨rfl, HK.out⟩
    · have hkl' : k < N := by omega
      have i0 : (0 : Int) ≤ (k : Int) := by omega
      have i1 : (k : Int) < (N : Int) := by omega
      have hx : L[k]? = some (L[k]'(by have := HE.out; omega)) := List.getElem?_eq_getElem _
      generalize L[k]'(by have := HE.out; omega) = e at hx
      obtain ⟨b, off, rfl, hlt, hc⟩ := (H1.out.kp HK.out).at hx
      obtain ⟨c0, c1, c2, c3, c4⟩ := hc k e hx
      obtain ⟨b', off', rfl, hlt', hc'⟩ := (H2.out.kp HK.out).at hx
      obtain ⟨p0, p1, p2, p3, p4⟩ := hc' k e hx
      have HL := Lib.hid hkl'
      clear hc hlt hc' hlt' hx hkl' hkN hkl
      go_wp2_with fail
      go_region
      go_wp2_with fail
      go_roundw
      case rel => exact ⟨k + 1, HL.out, by go_num, HK.out.drew⟩
      case measure => have := HL.out; simp [intOf]; omega
end Go.Proofs.YtgjjbgijdgihcaaDoor
