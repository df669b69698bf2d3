/-
  Package isa: a part of a word got; the table of formats; parts, values. No condition but the table.
-/
import Derived.Test.YtfbkppncaampdaaDoorPut07
namespace Go.Proofs.YtfbkppncaampdaaDoor
open Go Go.RowKit

def getN (W lo wd : Nat) (sg : Bool) : Int := if sg then ((W / 2 ^ lo % 2 ^ wd : Nat) : Int) % 2 ^ (wd - 1) - ((W / 2 ^ lo % 2 ^ wd : Nat) : Int) / 2 ^ (wd - 1) % 2 * 2 ^ (wd - 1) else ((W / 2 ^ lo % 2 ^ wd : Nat) : Int)
theorem get_zero (lo : Nat) (W : Nat) (w : World) (hlo : lo < 32) :
    Calls Tryd.prog 81 #[.agg #[.int .i64 lo, .int .i64 0, .bool false], .int .u32 W] w fun e w' => e = .returned (.int .i64 0) ∧ Kp w w' := by
  have HB : Hid (0 ≤ (lo : Int) ∧ 0 ≤ (0 : Int) ∧ (lo : Int) + 0 ≤ 32) := Lib.hid (by omega)
  have HN : Hid ((lo : Int) < 0 ∨ (lo : Int) + 0 - 1 < lo ∨ 63 < (lo : Int) + 0 - 1) := Lib.hid (by omega)
  have HS : Hid (PartAt w (w.alloc (.cells #[.int .i64 lo, .int .i64 0, .bool false] 60)) lo 0 false) := Lib.hid (partAt_new w lo 0 false)
  go_enter Tryd.func81, Tryd.ntmps81
  go_wp2_with fail
  go_region_held3 (fun w' => w'.cell? ⟨w.heap.size, 0, none⟩ = some (.int .i64 lo) ∧ w'.cell? ⟨w.heap.size, 1, none⟩ = some (.int .i64 0) ∧ w'.cell? ⟨w.heap.size, 2, none⟩ = some (.bool false) ∧ w.heap.size < w'.heap.size ∧ Kp w w')
      (first | exact HS.out.drew | assumption | exact PartAt.drew (by assumption))
      (first | (go_at_call 51; rename_i hh _ _; refine (hi_any _ _ _ _ HB.out).mono ?_; rintro e w' ⟨rfl, hg⟩; have hh' := PartAt.kp hh hg; clear hh hg) | (go_at_call 49; rename_i hh _ _; refine (get_no _ _ _ _ HN.out).mono ?_; rintro e w' ⟨rfl, hg⟩; have hh' := PartAt.kp hh hg; clear hh hg))
  rename_i hh
  have HH := Lib.hid hh
  obtain ⟨z0, z1, z2, -⟩ := hh
  go_wp2
  go_ret
  exact ⟨rfl, HH.out.2.2.2.2⟩
theorem get_pos (lo wd : Nat) (sg : Bool) (W : Nat) (w : World) (hW : W < 4294967296) (hp : 0 < wd) (hlo : lo + wd ≤ 32) :
    Calls Tryd.prog 81 #[.agg #[.int .i64 lo, .int .i64 wd, .bool sg], .int .u32 W] w fun e w' => e = .returned (.int .i64 (getN W lo wd sg)) ∧ Kp w w' := by
  obtain ⟨x, ex, nx⟩ := cv_w64 W hW
  obtain ⟨n, rfl⟩ : ∃ n, wd = n + 1 := ⟨wd - 1, by omega⟩
  have HP : Hid ((getB x (lo + n) lo).toNat = W / 2 ^ lo % 2 ^ (n + 1)) := Lib.hid (by rw [getB_nat x _ _ (by omega) (by omega), nx, show lo + n - lo + 1 = n + 1 by omega])
  have HQ : Hid ((getB x (lo + n) lo).toNat < 4294967296) := Lib.hid (by
    rw [HP.out]
    exact Nat.lt_of_le_of_lt (Nat.le_trans (Nat.mod_le _ _) (Nat.div_le_self _ _)) hW)
  have HB : Hid (0 ≤ (lo : Int) ∧ 0 ≤ ((n + 1 : Nat) : Int) ∧ (lo : Int) + ((n + 1 : Nat) : Int) ≤ 32) := Lib.hid (by omega)
  have HL : Hid (lo ≤ lo + n ∧ lo + n ≤ 63 ∧ n ≤ 63) := Lib.hid (by omega)
  have e1 : ((n + 1 : Nat) : Int) - 1 = (n : Int) := by omega
  have e2 : (lo : Int) + ((n + 1 : Nat) : Int) - 1 = ((lo + n : Nat) : Int) := by omega
  have e3 : IntKind.u64.wrap (W : Int) = (x.toNat : Int) := by rw [show IntKind.u64.wrap (W : Int) = (W : Int) % 18446744073709551616 from IntKind.wrap_u64 _]; omega
  have e4 : 0 < ((n + 1 : Nat) : Int) := by omega
  have e5 : ((n + 1 : Nat) : Int) ≤ 32 := by omega
  clear nx ex hp hlo hW
  generalize hNs : ((n + 1 : Nat) : Int) = N at e1 e2 e4 e5 HB ⊢
  have HS : Hid (PartAt w (w.alloc (.cells #[.int .i64 lo, .int .i64 N, .bool sg] 60)) lo N sg) := Lib.hid (partAt_new w lo N sg)
  go_enter Tryd.func81, Tryd.ntmps81
  go_wp2_with fail
  go_region_held3 (fun w' => w'.cell? ⟨w.heap.size, 0, none⟩ = some (.int .i64 lo) ∧ w'.cell? ⟨w.heap.size, 1, none⟩ = some (.int .i64 N) ∧ w'.cell? ⟨w.heap.size, 2, none⟩ = some (.bool sg) ∧ w.heap.size < w'.heap.size ∧ Kp w w')
      (first | exact HS.out.drew | assumption | exact PartAt.drew (by assumption))
      (first | (go_at_call 51; rename_i hh _ _; refine (hi_any _ _ _ _ HB.out).mono ?_; rintro e w' ⟨rfl, hg⟩; have hh' := PartAt.kp hh hg; clear hh hg) | (go_at_call 49; rename_i hh _ _; refine (get_yes _ _ _ _ HL.out.1 HL.out.2.1).mono ?_; rintro e w' ⟨rfl, hg⟩; have hh' := PartAt.kp hh hg; clear hh hg))
  rename_i hh
  have HH := Lib.hid hh
  obtain ⟨z0, z1, z2, -⟩ := hh
  cases sg with
  | false =>
    go_wp2
    go_ret
    exact ⟨ret_int (by unfold getN; rw [if_neg (by decide), ← HP.out]; have := HQ.out; unfold wrap64; omega), HH.out.2.2.2.2⟩
  | true =>
    go_wp2_with fail
    refine (sign_yes _ _ _ HL.out.2.2).mono ?_; rintro e w1 ⟨rfl, hg⟩
    have H1 := Lib.hid hg; clear hg
    go_wp2
    go_ret
    exact ⟨ret_int (by unfold getN signB; rw [if_pos rfl, ← HP.out, show n + 1 - 1 = n from rfl]), HH.out.2.2.2.2.trans H1.out⟩
theorem getN_zero (W lo : Nat) : getN W lo 0 false = 0 := by
  unfold getN
  rw [if_neg (by decide), Nat.pow_zero, Nat.mod_one]; rfl
theorem get_any (lo wd : Nat) (sg : Bool) (W : Nat) (w : World) (hW : W < 4294967296) (hlo : lo + wd ≤ 32) (h3 : lo < 32) (hs : wd = 0 → sg = false) :
    Calls Tryd.prog 81 #[.agg #[.int .i64 lo, .int .i64 wd, .bool sg], .int .u32 W] w fun e w' => e = .returned (.int .i64 (getN W lo wd sg)) ∧ Kp w w' := by
  by_cases h : wd = 0
  · subst h
    rw [hs rfl, getN_zero]
    exact get_zero lo W w h3
  · exact get_pos lo wd sg W w hW (by omega) hlo

/-! The table, cell by cell. -/
def fwL : List Nat := [3573751839, 3531603968, 2332033024, 3405774848, 2315255808, 2852126720, 3388997632, 2432696320, 4181721088, 4177526784, 3361700864, 3355474944, 3365927936, 3573759935, 335544320, 3019898880, 3036676096, 3556769793, 0]
def fdL : List Bool := [false, true, true, true, true, true, true, true, true, true, true, true, true, false, false, true, true, false, false]
def fnL : List Bool := [false, false, true, true, true, true, true, true, true, true, true, true, true, false, false, false, false, false, false]
def fmL : List Bool := [false, false, true, true, true, true, true, false, false, false, false, true, false, false, false, false, false, false, false]
def fsL : List Bool := [false, false, false, false, false, false, false, false, false, false, false, false, false, false, true, true, true, false, false]
def floL : List Nat := [0, 5, 0, 0, 0, 0, 0, 10, 0, 0, 0, 0, 0, 0, 0, 5, 5, 0, 0]
def fwdL : List Nat := [0, 16, 0, 0, 0, 0, 0, 12, 0, 0, 0, 0, 0, 0, 26, 19, 19, 0, 0]
def nameL : List (List UInt8) := [[110, 111, 112], [109, 111, 118], [97, 100, 100], [115, 117, 98], [97, 110, 100], [111, 114, 114], [101, 111, 114], [97, 100, 100, 105], [108, 100, 114], [115, 116, 114], [108, 100, 120, 114], [115, 116, 120, 114], [115, 116, 108, 114], [100, 109, 98], [98], [99, 98, 122], [99, 98, 110, 122], [115, 118, 99], [98, 97, 100]]
def fW (o : Nat) : Nat := fwL.getD o 0
def fD (o : Nat) : Bool := fdL.getD o false
def fN (o : Nat) : Bool := fnL.getD o false
def fM (o : Nat) : Bool := fmL.getD o false
def fS (o : Nat) : Bool := fsL.getD o false
def fLo (o : Nat) : Nat := floL.getD o 0
def fWd (o : Nat) : Nat := fwdL.getD o 0
def strB (l : List UInt8) : ByteArray := ⟨l.toArray⟩
def fName (o : Nat) : ByteArray := strB (nameL.getD o [])
def fmtC (o : Nat) : List Value := [.string (fName o), .int .u32 (fW o), .bool (fD o), .bool (fN o), .bool (fM o), .int .i64 (fLo o), .int .i64 (fWd o), .bool (fS o)]
def fmtL : List Value := (List.range 19).flatMap fmtC
def FmtsOk (w : World) : Prop := ∀ i, i < 152 → w.cell? ⟨0, i, none⟩ = fmtL[i]?
theorem FmtsOk.lt {w : World} (h : FmtsOk w) : 0 < w.heap.size := lt_of_cell (h 0 (by decide))
theorem FmtsOk.kp {w w' : World} (h : FmtsOk w) (hk : Kp w w') : FmtsOk w' := fun i hi => (hk.cell h.lt).trans (h i hi)
theorem ops19 {P : Nat → Prop} (h : ∀ k : Fin 19, P k.val) (o : Nat) (ho : o < 19) : P o := h ⟨o, ho⟩
theorem fmt_cell (o k : Nat) (ho : o < 19) (hk : k < 8) : fmtL[o * 8 + k]? = (fmtC o)[k]? := by
  obtain rfl | rfl | rfl | rfl | rfl | rfl | rfl | rfl | rfl | rfl | rfl | rfl | rfl | rfl | rfl | rfl | rfl | rfl | rfl : o = 0 ∨ o = 1 ∨ o = 2 ∨ o = 3 ∨ o = 4 ∨ o = 5 ∨ o = 6 ∨ o = 7 ∨ o = 8 ∨ o = 9 ∨ o = 10 ∨ o = 11 ∨ o = 12 ∨ o = 13 ∨ o = 14 ∨ o = 15 ∨ o = 16 ∨ o = 17 ∨ o = 18 := by omega
  all_goals
    obtain rfl | rfl | rfl | rfl | rfl | rfl | rfl | rfl : k = 0 ∨ k = 1 ∨ k = 2 ∨ k = 3 ∨ k = 4 ∨ k = 5 ∨ k = 6 ∨ k = 7 := by omega
    all_goals rfl
theorem FmtsOk.at {w : World} (h : FmtsOk w) (o k : Nat) (ho : o < 19) (hk : k < 8) : w.cell? ⟨0, o * 8 + k, none⟩ = (fmtC o)[k]? := by
  rw [h _ (by omega)]
  exact fmt_cell o k ho hk
/-- What the table's numbers keep. -/
theorem fmt_ok (o : Nat) (ho : o < 19) : fLo o + fWd o ≤ 32 ∧ fLo o < 32 ∧ fW o < 4294967296 ∧ (fWd o = 0 → fS o = false) :=
  ops19 (P := fun o => fLo o + fWd o ≤ 32 ∧ fLo o < 32 ∧ fW o < 4294967296 ∧ (fWd o = 0 → fS o = false)) (by decide) o ho
end Go.Proofs.YtfbkppncaampdaaDoor
