/-
  An array VALUE indexed: what it yields, for elements of one cell (integers, bools) and for structs and arrays. No condition.
-/
import Derived.Test.YtgjjbgijdgihcaaDoorRows
import Derived.WalkKit
namespace Go.Proofs.YtgjjbgijdgihcaaDoor
open Go Go.RowKit

theorem run_sizeOf' {P : Program} {t : TypeId} {n : Nat} (h : (P.info? t).map (·.size) = some n) (w : World) : (sizeOf t).run P w = .ok n w := by
  cases hq : P.info? t with
  | none => simp [hq] at h
  | some i =>
    have h2 : i.size = n := by simpa [hq] using h
    simp [sizeOf, typeInfo, hq, h2]
theorem run_isAgg' {P : Program} {t : TypeId} {d : TypeDesc} (hu : P.underlying t = some d) (w : World) : (isAgg t).run P w = .ok (match d with | .struct _ | .array _ _ => true | _ => false) w := by
  unfold isAgg
  rw [Sem.run_bind, run_underlying hu w]
  cases d <;> simp
/-- elements of one cell -/
theorem index_one {P : Program} {t e : TypeId} {n : Nat} {d : TypeDesc} (hu : P.underlying t = some (.array n e)) (he : P.underlying e = some d) (hd : (match d with | .struct _ | .array _ _ => true | _ => false) = false)
    (hs : (P.info? e).map (·.size) = some 1) (K : Int) (k : Nat) (eK : K = (k : Int)) (hk : k < n) {cs : Array Value} {v : Value} (hv : cs[k]? = some v) (w : World) : (Instr.index t (.agg cs) (.int .i64 K)).run P w = .ok v w := by
  subst eK
  have c : ¬ n ≤ k := by omega
  have ha := run_isAgg' he w
  rw [hd] at ha
  simp [Instr.index, go_sem, run_underlying hu w, run_sizeOf' hs w, c, part, ha, hv]
/-- structs and arrays -/
theorem index_agg {P : Program} {t e : TypeId} {n s : Nat} {d : TypeDesc} (hu : P.underlying t = some (.array n e)) (he : P.underlying e = some d) (hd : (match d with | .struct _ | .array _ _ => true | _ => false) = true)
    (hs : (P.info? e).map (·.size) = some s) (K : Int) (k : Nat) (eK : K = (k : Int)) (hk : k < n) {cs r : Array Value} (hr : cs.extract (k * s) (k * s + s) = r) (w : World) : (Instr.index t (.agg cs) (.int .i64 K)).run P w = .ok (.agg r) w := by
  subst eK
  have c : ¬ n ≤ k := by omega
  have ha := run_isAgg' he w
  rw [hd] at ha
  simp [Instr.index, go_sem, run_underlying hu w, run_sizeOf' hs w, c, part, ha, hr]
end Go.Proofs.YtgjjbgijdgihcaaDoor
