/-
  NARROWER THAN 'FOR EVERY INPUT', by the rows' own cells (each row's printed sentence says how): DescTells: laid · DescBack: laid · DescTouch: laid · DescOne: laid.
  DERIVED. THE GIVEN ROWS OF THIS SEAT. 4 by the template 'for every input the law returns true; each argument reads behind the call as it read before'; 0 by the template 'total and deterministic' (their statements: YtpdgajlookhpfaaDoorTotals.lean).
  GIVEN WITH THE SEED: the statements are not yours to turn. If you find one false, say at which input.
  Laid BY PROGRAM, IN A SANDBOX (cutbox-rows.mjs): the forced cells as the released guide's own fill.sh prints them over the translation 5fa5593fee7c3e0b… (all of the seat's roots in one cut). By AI agents, Wed Nov 11 2026. No macro, syntax, notation, axiom, sorry.
-/
import Derived.Test.YtpdgajlookhpfaaDoorChecked
import GoSem.Claim
import GoSem.ClaimJoined
import GoSem.ClaimMapViews
import Derived.JoinedTies
import Derived.KernelRfl
namespace Go.Proofs.YtpdgajlookhpfaaDoor
/- THE CELL 'sum', in the pinned program and in every row, IS THE sha256 OF THE DUMP (.gsa) THAT YtpdgajlookhpfaaDoorProg.lean LOADS. Nothing in Lean hashes anything: it is a label: what it is worth is what the hold of that sum in a sandbox is worth. -/
noncomputable def Tryd.pinned : Pinned := { name := "ytpdgajlookhpfaadoor", sum := "5fa5593fee7c3e0b742e6f62320b53fa9e8ee1bb617af02a35a54a79c738a092", checked := Tryd.checked }
namespace Rows
def none {H : Type} : Left H := { results := [], args := [] }

/- WHAT THE LISTED PACKAGE-LEVEL VARIABLES READ AS WHEN THE CALL BEGINS. Each datum BY PROGRAM (the guide's laid-datum.mjs) off the statement by which the dump's own 'gosem.cut.vars' lays the variable. In a bare row this is a premise. The card (YtpdgajlookhpfaaDoorCards.lean) ties it to the program's text. -/
def laid_tenement_desc_spots {H : Type} : DataW H := .agg [.agg [.lit (.int .i64 47), .lit (.int .i64 12)], .agg [.lit (.int .i64 6), .lit (.int .i64 6)], .agg [.lit (.int .i64 7), .lit (.int .i64 7)], .agg [.lit (.int .i64 10), .lit (.int .i64 10)], .agg [.lit (.int .i64 11), .lit (.int .i64 11)]]
def laid_tenement_desc_kinds {H : Type} : DataW H := .agg [.agg [.lit (.int .u64 0), .agg [.lit (.int .u64 0), .lit (.int .u64 0), .lit (.int .u64 0), .lit (.int .u64 0), .lit (.int .u64 0)]], .agg [.lit (.int .u64 3), .agg [.lit (.int .u64 63), .lit (.int .u64 0), .lit (.int .u64 0), .lit (.int .u64 0), .lit (.int .u64 0)]], .agg [.lit (.int .u64 3), .agg [.lit (.int .u64 63), .lit (.int .u64 1), .lit (.int .u64 1), .lit (.int .u64 1), .lit (.int .u64 1)]]]
def laid_tenement_desc_levels {H : Type} : DataW H := .agg [.lit (.int .i8 1), .lit (.int .i8 1), .lit (.int .i8 1), .lit (.int .i8 2)]

/-- 'tenementlaw03.DescTells': WHATEVER THE INPUT: true; the input reads as it did. -/
def descTellsSpec : ChangeSpec := { name := "descTells", fn := fun _ => fun
  | [d1, d2, d3, d4] => { results := [.lit (.bool true)], args := [d1, d2, d3, d4] }
  | _ => none }
def descTellsRow : OpenClaim := { program := "ytpdgajlookhpfaadoor", sum := "5fa5593fee7c3e0b742e6f62320b53fa9e8ee1bb617af02a35a54a79c738a092", func := "tenement/tenementlaw03.DescTells", spec := "descTells", named := ["tenement/desc.kinds", "tenement/desc.spots", "tenement/desc.levels"], apart := false, laid := [("tenement/desc.spots", laid_tenement_desc_spots), ("tenement/desc.kinds", laid_tenement_desc_kinds), ("tenement/desc.levels", laid_tenement_desc_levels)] }
def DescTellsSaid : Prop := descTellsRow.holds Tryd.pinned (OpenSpec.ofChange descTellsSpec)

/-- ITS FALSE NEIGHBOUR: 'it returns false'. Refute it at one input. -/
def descTellsWrong : ChangeSpec := { name := "descTells", fn := fun _ => fun
  | [d1, d2, d3, d4] => { results := [.lit (.bool false)], args := [d1, d2, d3, d4] }
  | _ => none }
def DescTellsWrongFalsely : Prop := descTellsRow.holds Tryd.pinned (OpenSpec.ofChange descTellsWrong)

/-- 'tenementlaw03.DescBack': WHATEVER THE INPUT: true; the input reads as it did. -/
def descBackSpec : ChangeSpec := { name := "descBack", fn := fun _ => fun
  | [d1, d2, d3] => { results := [.lit (.bool true)], args := [d1, d2, d3] }
  | _ => none }
def descBackRow : OpenClaim := { program := "ytpdgajlookhpfaadoor", sum := "5fa5593fee7c3e0b742e6f62320b53fa9e8ee1bb617af02a35a54a79c738a092", func := "tenement/tenementlaw03.DescBack", spec := "descBack", named := ["tenement/desc.kinds", "tenement/desc.spots", "tenement/desc.levels"], apart := false, laid := [("tenement/desc.spots", laid_tenement_desc_spots), ("tenement/desc.kinds", laid_tenement_desc_kinds), ("tenement/desc.levels", laid_tenement_desc_levels)] }
def DescBackSaid : Prop := descBackRow.holds Tryd.pinned (OpenSpec.ofChange descBackSpec)

/-- ITS FALSE NEIGHBOUR: 'it returns false'. Refute it at one input. -/
def descBackWrong : ChangeSpec := { name := "descBack", fn := fun _ => fun
  | [d1, d2, d3] => { results := [.lit (.bool false)], args := [d1, d2, d3] }
  | _ => none }
def DescBackWrongFalsely : Prop := descBackRow.holds Tryd.pinned (OpenSpec.ofChange descBackWrong)

/-- 'tenementlaw03.DescTouch': WHATEVER THE INPUT: true; the input reads as it did. -/
def descTouchSpec : ChangeSpec := { name := "descTouch", fn := fun _ => fun
  | [d1, d2] => { results := [.lit (.bool true)], args := [d1, d2] }
  | _ => none }
def descTouchRow : OpenClaim := { program := "ytpdgajlookhpfaadoor", sum := "5fa5593fee7c3e0b742e6f62320b53fa9e8ee1bb617af02a35a54a79c738a092", func := "tenement/tenementlaw03.DescTouch", spec := "descTouch", named := ["tenement/desc.spots", "tenement/desc.levels", "tenement/desc.kinds"], apart := false, laid := [("tenement/desc.spots", laid_tenement_desc_spots), ("tenement/desc.kinds", laid_tenement_desc_kinds), ("tenement/desc.levels", laid_tenement_desc_levels)] }
def DescTouchSaid : Prop := descTouchRow.holds Tryd.pinned (OpenSpec.ofChange descTouchSpec)

/-- ITS FALSE NEIGHBOUR: 'it returns false'. Refute it at one input. -/
def descTouchWrong : ChangeSpec := { name := "descTouch", fn := fun _ => fun
  | [d1, d2] => { results := [.lit (.bool false)], args := [d1, d2] }
  | _ => none }
def DescTouchWrongFalsely : Prop := descTouchRow.holds Tryd.pinned (OpenSpec.ofChange descTouchWrong)

/-- 'tenementlaw03.DescOne': WHATEVER THE INPUT: true; the input reads as it did. -/
def descOneSpec : ChangeSpec := { name := "descOne", fn := fun _ => fun
  | [d1, d2, d3] => { results := [.lit (.bool true)], args := [d1, d2, d3] }
  | _ => none }
def descOneRow : OpenClaim := { program := "ytpdgajlookhpfaadoor", sum := "5fa5593fee7c3e0b742e6f62320b53fa9e8ee1bb617af02a35a54a79c738a092", func := "tenement/tenementlaw03.DescOne", spec := "descOne", named := ["tenement/desc.kinds", "tenement/desc.spots", "tenement/desc.levels"], apart := false, laid := [("tenement/desc.spots", laid_tenement_desc_spots), ("tenement/desc.kinds", laid_tenement_desc_kinds), ("tenement/desc.levels", laid_tenement_desc_levels)] }
def DescOneSaid : Prop := descOneRow.holds Tryd.pinned (OpenSpec.ofChange descOneSpec)

/-- ITS FALSE NEIGHBOUR: 'it returns false'. Refute it at one input. -/
def descOneWrong : ChangeSpec := { name := "descOne", fn := fun _ => fun
  | [d1, d2, d3] => { results := [.lit (.bool false)], args := [d1, d2, d3] }
  | _ => none }
def DescOneWrongFalsely : Prop := descOneRow.holds Tryd.pinned (OpenSpec.ofChange descOneWrong)

/- THE SECOND FORM. 'bulk': how many values and letters a reading holds, each counted each time it is reached (what is shared counts as often as it is met; a slice's spare places count too). A statement '..UptoSaid' is the law's where the arguments, and the package variables that the reading takes, are together of bulk at most 1048576: NARROWER than '..Said'. Prove '..Said' where nothing that the law and all that it calls make is longer than what came in: it says more and counts as full. Else prove '..UptoSaid'. A law counts once. -/
mutual
def uptoBulk {H : Type} : DataW H → Nat
  | .lit (.string bytes) => bytes.length + 1
  | .lit _ => 1
  | .nil => 1
  | .ptr d => uptoBulk d + 1
  | .slice elems spare => uptoBulkAll elems + uptoBulkAll spare + 1
  | .agg parts => uptoBulkAll parts + 1
  | .iface _ d => uptoBulk d + 1
  | .map entries => uptoBulkEntries entries + 1
  | .held _ => 1
def uptoBulkAll {H : Type} : List (DataW H) → Nat
  | [] => 0
  | d :: r => uptoBulk d + uptoBulkAll r
def uptoBulkEntries {H : Type} : List (Lit × DataW H) → Nat
  | [] => 0
  | x :: r => uptoBulkEntry x + uptoBulkEntries r
def uptoBulkEntry {H : Type} : Lit × DataW H → Nat
  | (.string bytes, d) => bytes.length + uptoBulk d + 1
  | (_, d) => uptoBulk d + 1
 end
def uptoSmall : (H : Type) → List (DataW H) → Bool := fun _ ds => decide (uptoBulkAll ds ≤ 1048576)
def OpenSpec.upto (s : _root_.Go.ChangeSpec) : _root_.Go.OpenSpec := { _root_.Go.OpenSpec.ofChange s with cond := some uptoSmall }

/-- 'tenementlaw03.DescTells', WHERE WHAT IT READS IS OF BULK AT MOST 1048576: true; the input reads as it did. -/
def descTellsUptoRow : OpenClaim := { program := "ytpdgajlookhpfaadoor", sum := "5fa5593fee7c3e0b742e6f62320b53fa9e8ee1bb617af02a35a54a79c738a092", func := "tenement/tenementlaw03.DescTells", spec := "descTells", named := ["tenement/desc.kinds", "tenement/desc.spots", "tenement/desc.levels"], apart := false, laid := [("tenement/desc.spots", laid_tenement_desc_spots), ("tenement/desc.kinds", laid_tenement_desc_kinds), ("tenement/desc.levels", laid_tenement_desc_levels)], narrowed := true }
def DescTellsUptoSaid : Prop := descTellsUptoRow.holds Tryd.pinned (OpenSpec.upto descTellsSpec)

/-- 'tenementlaw03.DescBack', WHERE WHAT IT READS IS OF BULK AT MOST 1048576: true; the input reads as it did. -/
def descBackUptoRow : OpenClaim := { program := "ytpdgajlookhpfaadoor", sum := "5fa5593fee7c3e0b742e6f62320b53fa9e8ee1bb617af02a35a54a79c738a092", func := "tenement/tenementlaw03.DescBack", spec := "descBack", named := ["tenement/desc.kinds", "tenement/desc.spots", "tenement/desc.levels"], apart := false, laid := [("tenement/desc.spots", laid_tenement_desc_spots), ("tenement/desc.kinds", laid_tenement_desc_kinds), ("tenement/desc.levels", laid_tenement_desc_levels)], narrowed := true }
def DescBackUptoSaid : Prop := descBackUptoRow.holds Tryd.pinned (OpenSpec.upto descBackSpec)

/-- 'tenementlaw03.DescTouch', WHERE WHAT IT READS IS OF BULK AT MOST 1048576: true; the input reads as it did. -/
def descTouchUptoRow : OpenClaim := { program := "ytpdgajlookhpfaadoor", sum := "5fa5593fee7c3e0b742e6f62320b53fa9e8ee1bb617af02a35a54a79c738a092", func := "tenement/tenementlaw03.DescTouch", spec := "descTouch", named := ["tenement/desc.spots", "tenement/desc.levels", "tenement/desc.kinds"], apart := false, laid := [("tenement/desc.spots", laid_tenement_desc_spots), ("tenement/desc.kinds", laid_tenement_desc_kinds), ("tenement/desc.levels", laid_tenement_desc_levels)], narrowed := true }
def DescTouchUptoSaid : Prop := descTouchUptoRow.holds Tryd.pinned (OpenSpec.upto descTouchSpec)

/-- 'tenementlaw03.DescOne', WHERE WHAT IT READS IS OF BULK AT MOST 1048576: true; the input reads as it did. -/
def descOneUptoRow : OpenClaim := { program := "ytpdgajlookhpfaadoor", sum := "5fa5593fee7c3e0b742e6f62320b53fa9e8ee1bb617af02a35a54a79c738a092", func := "tenement/tenementlaw03.DescOne", spec := "descOne", named := ["tenement/desc.kinds", "tenement/desc.spots", "tenement/desc.levels"], apart := false, laid := [("tenement/desc.spots", laid_tenement_desc_spots), ("tenement/desc.kinds", laid_tenement_desc_kinds), ("tenement/desc.levels", laid_tenement_desc_levels)], narrowed := true }
def DescOneUptoSaid : Prop := descOneUptoRow.holds Tryd.pinned (OpenSpec.upto descOneSpec)

end Rows
end Go.Proofs.YtpdgajlookhpfaaDoor
