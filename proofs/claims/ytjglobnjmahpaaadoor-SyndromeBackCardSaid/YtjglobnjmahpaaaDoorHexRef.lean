/-
  The document's own digits of a number. No condition.
-/
import Derived.Test.YtjglobnjmahpaaaDoorSynChk
namespace Go.Proofs.YtjglobnjmahpaaaDoor
open Go Go.RowKit

def hexD : List UInt8 := [48, 49, 50, 51, 52, 53, 54, 55, 56, 57, 97, 98, 99, 100, 101, 102]
def digU (d : Nat) : UInt8 := hexD.getD d 0
def strB (l : List UInt8) : ByteArray := ⟨l.toArray⟩
theorem cut_any (d : Nat) (hd : d < 16) (w : World) :
    (Instr.slice 9 (.string { data := #[48, 49, 50, 51, 52, 53, 54, 55, 56, 57, 97, 98, 99, 100, 101, 102] }) (some (.int .u64 (d : Int))) (some (.int .u64 ((d : Int) + 1))) none).run Tryd.prog w = .ok (.string (strB [digU d])) w := by
  obtain rfl | rfl | rfl | rfl | rfl | rfl | rfl | rfl | rfl | rfl | rfl | rfl | rfl | rfl | rfl | rfl : d = 0 ∨ d = 1 ∨ d = 2 ∨ d = 3 ∨ d = 4 ∨ d = 5 ∨ d = 6 ∨ d = 7 ∨ d = 8 ∨ d = 9 ∨ d = 10 ∨ d = 11 ∨ d = 12 ∨ d = 13 ∨ d = 14 ∨ d = 15 := by omega
  all_goals
    rfl

def hexL (n : Nat) : List UInt8 := if n < 16 then [digU n] else hexL (n / 16) ++ [digU (n % 16)]
termination_by n
decreasing_by omega
theorem hexL_low {n : Nat} (h : n < 16) : hexL n = [digU n] := by rw [hexL, if_pos h]
theorem hexL_more {n : Nat} (h : ¬ n < 16) : hexL n = hexL (n / 16) ++ [digU (n % 16)] := by rw [hexL, if_neg h]
theorem hexL_len : ∀ (k n : Nat), n < 16 ^ (k + 1) → (hexL n).length ≤ k + 1
  | 0, n, h => by rw [hexL_low (by simpa using h)]; simp
  | k + 1, n, h => by
    by_cases c : n < 16
    · rw [hexL_low c]; simp
    · rw [hexL_more c, List.length_append]
      have := hexL_len k (n / 16) (by rw [Nat.div_lt_iff_lt_mul (by decide)]; rwa [Nat.pow_succ] at h)
      simp; omega
theorem hexL_16 (n : Nat) (h : n < 18446744073709551616) : (hexL n).length ≤ 16 := hexL_len 15 n h
theorem strB_size (l : List UInt8) : (strB l).size = l.length := by simp [strB, ByteArray.size]
theorem strB_append (a b : List UInt8) : strB a ++ strB b = strB (a ++ b) := by
  apply ByteArray.ext
  simp [strB, ByteArray.data_append]
theorem no_over (a b : List UInt8) (h : a.length + b.length ≤ 1000) (g : 9223372036854775807 < (strB a).size + (strB b).size) : False := by
  rw [strB_size, strB_size] at g
  omega
theorem ret_str {a b : ByteArray} (h : a = b) : Ending.returned (.string a) = .returned (.string b) := by rw [h]
def HexOk (n : Nat) (w : World) : Prop := Calls Tryd.prog 20 #[.int .u64 n] w fun e w' => e = .returned (.string (strB (hexL n))) ∧ w = w'
theorem rhex_low (n : Nat) (w : World) (hn : n < 16) : HexOk n w := by
  unfold HexOk
  rw [hexL_low hn]
  have i0 : (0 : Int) ≤ (n : Int) := by omega
  have i1 : (n : Int) < 16 := by omega
  have em : (n : Int) % 16 = (n : Int) := by omega
  have hc := cut_any n hn
  clear hn
  go_enter Tryd.func20, Tryd.ntmps20
  go_wp2
  go_ret
  exact ⟨rfl, rfl⟩
theorem rhex_more (n : Nat) (w : World) (hn : ¬ n < 16) (h64 : n < 18446744073709551616) (ih : HexOk (n / 16) w) : HexOk n w := by
  have IH := Lib.hid ih; clear ih
  unfold HexOk
  rw [hexL_more hn]
  obtain ⟨X, hX⟩ : ∃ X : Int, X = (n : Int) := ⟨_, rfl⟩
  rw [← hX]
  have i0 : (16 : Int) ≤ X := by omega
  have i1 : X < 18446744073709551616 := by omega
  have ed : ((n / 16 : Nat) : Int) = X / 16 := by omega
  have em : X % 16 = ((n % 16 : Nat) : Int) := by omega
  have hc := cut_any (n % 16) (by omega)
  rw [← em] at hc
  have ED := Lib.hid ed
  have HL := Lib.hid (hexL_16 (n / 16) (by omega))
  clear ed em hn hX h64
  generalize digU (n % 16) = d at hc ⊢
  go_enter Tryd.func20, Tryd.ntmps20
  go_wp2_with fail
  rw [← ED.out]
  refine IH.out.mono ?_; rintro e w1 ⟨rfl, rfl⟩
  go_wp2
  · exfalso
    have h1 := HL.out
    have h2 : (hexL (n / 16)).length + [d].length ≤ 1000 := by show _ + 1 ≤ 1000; omega
    exact no_over _ _ h2 (by assumption)
  · go_ret
    exact ⟨ret_str (strB_append _ _), rfl⟩
theorem rhex_any (w : World) : ∀ (k n : Nat), n ≤ k → n < 18446744073709551616 → HexOk n w
  | 0, n, h, _ => rhex_low n w (by omega)
  | k + 1, n, h, h64 => by
    by_cases c : n < 16
    · exact rhex_low n w c
    · exact rhex_more n w c h64 (rhex_any w k (n / 16) (by omega) (by omega))
end Go.Proofs.YtjglobnjmahpaaaDoor
