/-
  NARROWER THAN 'FOR EVERY INPUT', by the rows' own cells (each row's printed sentence says how): AluTells: laid · AluDoes: laid · AluAlone: laid · AluBack: laid.
  DERIVED. THE GIVEN ROWS OF THIS SEAT. 4 by the template 'for every input the law returns true; each argument reads behind the call as it read before'; 0 by the template 'total and deterministic' (their statements: YtieffpgiliebmaaDoorTotals.lean).
  GIVEN WITH THE SEED: the statements are not yours to turn. If you find one false, say at which input.
  Laid BY PROGRAM, IN A SANDBOX (cutbox-rows.mjs): the forced cells as the released guide's own fill.sh prints them over the translation f11424b533ae7dff… (all of the seat's roots in one cut). By AI agents, Wed Nov 11 2026. No macro, syntax, notation, axiom, sorry.
-/
import Derived.Test.YtieffpgiliebmaaDoorChecked
import GoSem.Claim
import GoSem.ClaimJoined
import GoSem.ClaimMapViews
import Derived.JoinedTies
import Derived.KernelRfl
namespace Go.Proofs.YtieffpgiliebmaaDoor
/- THE CELL 'sum', in the pinned program and in every row, IS THE sha256 OF THE DUMP (.gsa) THAT YtieffpgiliebmaaDoorProg.lean LOADS. Nothing in Lean hashes anything: it is a label: what it is worth is what the hold of that sum in a sandbox is worth. -/
noncomputable def Tryd.pinned : Pinned := { name := "ytieffpgiliebmaadoor", sum := "f11424b533ae7dff81915f18f9f5313e9c8875d796c814872de92c4662170355", checked := Tryd.checked }
namespace Rows
def none {H : Type} : Left H := { results := [], args := [] }

/- WHAT THE LISTED PACKAGE-LEVEL VARIABLES READ AS WHEN THE CALL BEGINS. Each datum BY PROGRAM (the guide's laid-datum.mjs) off the statement by which the dump's own 'gosem.cut.vars' lays the variable. In a bare row this is a premise. The card (YtieffpgiliebmaaDoorCards.lean) ties it to the program's text. -/
def laid_tenement_alu_shapes {H : Type} : DataW H := .agg [.agg [.lit (.int .i8 0), .lit (.int .i8 0), .lit (.int .i8 0), .lit (.int .i64 0), .lit (.int .i64 0)], .agg [.lit (.int .i8 2), .lit (.int .i8 0), .lit (.int .i8 0), .lit (.int .i64 0), .lit (.int .i64 65535)], .agg [.lit (.int .i8 2), .lit (.int .i8 1), .lit (.int .i8 1), .lit (.int .i64 0), .lit (.int .i64 0)], .agg [.lit (.int .i8 2), .lit (.int .i8 1), .lit (.int .i8 1), .lit (.int .i64 0), .lit (.int .i64 0)], .agg [.lit (.int .i8 2), .lit (.int .i8 1), .lit (.int .i8 1), .lit (.int .i64 0), .lit (.int .i64 0)], .agg [.lit (.int .i8 2), .lit (.int .i8 1), .lit (.int .i8 1), .lit (.int .i64 0), .lit (.int .i64 0)], .agg [.lit (.int .i8 2), .lit (.int .i8 1), .lit (.int .i8 1), .lit (.int .i64 0), .lit (.int .i64 0)], .agg [.lit (.int .i8 2), .lit (.int .i8 1), .lit (.int .i8 0), .lit (.int .i64 (-2048)), .lit (.int .i64 2047)], .agg [.lit (.int .i8 2), .lit (.int .i8 1), .lit (.int .i8 0), .lit (.int .i64 0), .lit (.int .i64 0)], .agg [.lit (.int .i8 1), .lit (.int .i8 1), .lit (.int .i8 0), .lit (.int .i64 0), .lit (.int .i64 0)], .agg [.lit (.int .i8 2), .lit (.int .i8 1), .lit (.int .i8 0), .lit (.int .i64 0), .lit (.int .i64 0)], .agg [.lit (.int .i8 1), .lit (.int .i8 1), .lit (.int .i8 2), .lit (.int .i64 0), .lit (.int .i64 0)], .agg [.lit (.int .i8 1), .lit (.int .i8 1), .lit (.int .i8 0), .lit (.int .i64 0), .lit (.int .i64 0)], .agg [.lit (.int .i8 0), .lit (.int .i8 0), .lit (.int .i8 0), .lit (.int .i64 0), .lit (.int .i64 0)], .agg [.lit (.int .i8 0), .lit (.int .i8 0), .lit (.int .i8 0), .lit (.int .i64 (-1024)), .lit (.int .i64 1023)], .agg [.lit (.int .i8 1), .lit (.int .i8 0), .lit (.int .i8 0), .lit (.int .i64 (-1024)), .lit (.int .i64 1023)], .agg [.lit (.int .i8 1), .lit (.int .i8 0), .lit (.int .i8 0), .lit (.int .i64 (-1024)), .lit (.int .i64 1023)], .agg [.lit (.int .i8 0), .lit (.int .i8 0), .lit (.int .i8 0), .lit (.int .i64 0), .lit (.int .i64 0)], .agg [.lit (.int .i8 0), .lit (.int .i8 0), .lit (.int .i8 0), .lit (.int .i64 0), .lit (.int .i64 0)]]

/-- 'tenementlaw06.AluTells': WHATEVER THE INPUT: true; the input reads as it did. -/
def aluTellsSpec : ChangeSpec := { name := "aluTells", fn := fun _ => fun
  | [d] => { results := [.lit (.bool true)], args := [d] }
  | _ => none }
def aluTellsRow : OpenClaim := { program := "ytieffpgiliebmaadoor", sum := "f11424b533ae7dff81915f18f9f5313e9c8875d796c814872de92c4662170355", func := "tenement/tenementlaw06.AluTells", spec := "aluTells", unfollowed := true, recurses := true, named := ["tenement/alu.shapes"], apart := false, laid := [("tenement/alu.shapes", laid_tenement_alu_shapes)] }
def AluTellsSaid : Prop := aluTellsRow.holds Tryd.pinned (OpenSpec.ofChange aluTellsSpec)

/-- ITS FALSE NEIGHBOUR: 'it returns false'. Refute it at one input. -/
def aluTellsWrong : ChangeSpec := { name := "aluTells", fn := fun _ => fun
  | [d] => { results := [.lit (.bool false)], args := [d] }
  | _ => none }
def AluTellsWrongFalsely : Prop := aluTellsRow.holds Tryd.pinned (OpenSpec.ofChange aluTellsWrong)

/-- 'tenementlaw06.AluDoes': WHATEVER THE INPUT: true; the input reads as it did. -/
def aluDoesSpec : ChangeSpec := { name := "aluDoes", fn := fun _ => fun
  | [d1, d2, d3] => { results := [.lit (.bool true)], args := [d1, d2, d3] }
  | _ => none }
def aluDoesRow : OpenClaim := { program := "ytieffpgiliebmaadoor", sum := "f11424b533ae7dff81915f18f9f5313e9c8875d796c814872de92c4662170355", func := "tenement/tenementlaw06.AluDoes", spec := "aluDoes", unfollowed := true, recurses := true, named := ["tenement/alu.shapes"], apart := false, laid := [("tenement/alu.shapes", laid_tenement_alu_shapes)] }
def AluDoesSaid : Prop := aluDoesRow.holds Tryd.pinned (OpenSpec.ofChange aluDoesSpec)

/-- ITS FALSE NEIGHBOUR: 'it returns false'. Refute it at one input. -/
def aluDoesWrong : ChangeSpec := { name := "aluDoes", fn := fun _ => fun
  | [d1, d2, d3] => { results := [.lit (.bool false)], args := [d1, d2, d3] }
  | _ => none }
def AluDoesWrongFalsely : Prop := aluDoesRow.holds Tryd.pinned (OpenSpec.ofChange aluDoesWrong)

/-- 'tenementlaw06.AluAlone': WHATEVER THE INPUT: true; the input reads as it did. -/
def aluAloneSpec : ChangeSpec := { name := "aluAlone", fn := fun _ => fun
  | [d1, d2, d3, d4, d5] => { results := [.lit (.bool true)], args := [d1, d2, d3, d4, d5] }
  | _ => none }
def aluAloneRow : OpenClaim := { program := "ytieffpgiliebmaadoor", sum := "f11424b533ae7dff81915f18f9f5313e9c8875d796c814872de92c4662170355", func := "tenement/tenementlaw06.AluAlone", spec := "aluAlone", unfollowed := true, recurses := true, named := ["tenement/alu.shapes"], apart := false, laid := [("tenement/alu.shapes", laid_tenement_alu_shapes)] }
def AluAloneSaid : Prop := aluAloneRow.holds Tryd.pinned (OpenSpec.ofChange aluAloneSpec)

/-- ITS FALSE NEIGHBOUR: 'it returns false'. Refute it at one input. -/
def aluAloneWrong : ChangeSpec := { name := "aluAlone", fn := fun _ => fun
  | [d1, d2, d3, d4, d5] => { results := [.lit (.bool false)], args := [d1, d2, d3, d4, d5] }
  | _ => none }
def AluAloneWrongFalsely : Prop := aluAloneRow.holds Tryd.pinned (OpenSpec.ofChange aluAloneWrong)

/-- 'tenementlaw06.AluBack': WHATEVER THE INPUT: true; the input reads as it did. -/
def aluBackSpec : ChangeSpec := { name := "aluBack", fn := fun _ => fun
  | [d1, d2, d3, d4, d5] => { results := [.lit (.bool true)], args := [d1, d2, d3, d4, d5] }
  | _ => none }
def aluBackRow : OpenClaim := { program := "ytieffpgiliebmaadoor", sum := "f11424b533ae7dff81915f18f9f5313e9c8875d796c814872de92c4662170355", func := "tenement/tenementlaw06.AluBack", spec := "aluBack", unfollowed := true, recurses := true, named := ["tenement/alu.shapes"], apart := false, laid := [("tenement/alu.shapes", laid_tenement_alu_shapes)] }
def AluBackSaid : Prop := aluBackRow.holds Tryd.pinned (OpenSpec.ofChange aluBackSpec)

/-- ITS FALSE NEIGHBOUR: 'it returns false'. Refute it at one input. -/
def aluBackWrong : ChangeSpec := { name := "aluBack", fn := fun _ => fun
  | [d1, d2, d3, d4, d5] => { results := [.lit (.bool false)], args := [d1, d2, d3, d4, d5] }
  | _ => none }
def AluBackWrongFalsely : Prop := aluBackRow.holds Tryd.pinned (OpenSpec.ofChange aluBackWrong)

/- THE SECOND FORM. 'bulk': how many values and letters a reading holds, each counted each time it is reached (what is shared counts as often as it is met; a slice's spare places count too). A statement '..UptoSaid' is the law's where the arguments, and the package variables that the reading takes, are together of bulk at most 1048576: NARROWER than '..Said'. Prove '..Said' where nothing that the law and all that it calls make is longer than what came in: it says more and counts as full. Else prove '..UptoSaid'. A law counts once. -/
mutual
def uptoBulk {H : Type} : DataW H → Nat
  | .lit (.string bytes) => bytes.length + 1
  | .lit _ => 1
  | .nil => 1
  | .ptr d => uptoBulk d + 1
  | .slice elems spare => uptoBulkAll elems + uptoBulkAll spare + 1
  | .agg parts => uptoBulkAll parts + 1
  | .iface _ d => uptoBulk d + 1
  | .map entries => uptoBulkEntries entries + 1
  | .held _ => 1
def uptoBulkAll {H : Type} : List (DataW H) → Nat
  | [] => 0
  | d :: r => uptoBulk d + uptoBulkAll r
def uptoBulkEntries {H : Type} : List (Lit × DataW H) → Nat
  | [] => 0
  | x :: r => uptoBulkEntry x + uptoBulkEntries r
def uptoBulkEntry {H : Type} : Lit × DataW H → Nat
  | (.string bytes, d) => bytes.length + uptoBulk d + 1
  | (_, d) => uptoBulk d + 1
 end
def uptoSmall : (H : Type) → List (DataW H) → Bool := fun _ ds => decide (uptoBulkAll ds ≤ 1048576)
def OpenSpec.upto (s : _root_.Go.ChangeSpec) : _root_.Go.OpenSpec := { _root_.Go.OpenSpec.ofChange s with cond := some uptoSmall }

/-- 'tenementlaw06.AluTells', WHERE WHAT IT READS IS OF BULK AT MOST 1048576: true; the input reads as it did. -/
def aluTellsUptoRow : OpenClaim := { program := "ytieffpgiliebmaadoor", sum := "f11424b533ae7dff81915f18f9f5313e9c8875d796c814872de92c4662170355", func := "tenement/tenementlaw06.AluTells", spec := "aluTells", unfollowed := true, recurses := true, named := ["tenement/alu.shapes"], apart := false, laid := [("tenement/alu.shapes", laid_tenement_alu_shapes)], narrowed := true }
def AluTellsUptoSaid : Prop := aluTellsUptoRow.holds Tryd.pinned (OpenSpec.upto aluTellsSpec)

/-- 'tenementlaw06.AluDoes', WHERE WHAT IT READS IS OF BULK AT MOST 1048576: true; the input reads as it did. -/
def aluDoesUptoRow : OpenClaim := { program := "ytieffpgiliebmaadoor", sum := "f11424b533ae7dff81915f18f9f5313e9c8875d796c814872de92c4662170355", func := "tenement/tenementlaw06.AluDoes", spec := "aluDoes", unfollowed := true, recurses := true, named := ["tenement/alu.shapes"], apart := false, laid := [("tenement/alu.shapes", laid_tenement_alu_shapes)], narrowed := true }
def AluDoesUptoSaid : Prop := aluDoesUptoRow.holds Tryd.pinned (OpenSpec.upto aluDoesSpec)

/-- 'tenementlaw06.AluAlone', WHERE WHAT IT READS IS OF BULK AT MOST 1048576: true; the input reads as it did. -/
def aluAloneUptoRow : OpenClaim := { program := "ytieffpgiliebmaadoor", sum := "f11424b533ae7dff81915f18f9f5313e9c8875d796c814872de92c4662170355", func := "tenement/tenementlaw06.AluAlone", spec := "aluAlone", unfollowed := true, recurses := true, named := ["tenement/alu.shapes"], apart := false, laid := [("tenement/alu.shapes", laid_tenement_alu_shapes)], narrowed := true }
def AluAloneUptoSaid : Prop := aluAloneUptoRow.holds Tryd.pinned (OpenSpec.upto aluAloneSpec)

/-- 'tenementlaw06.AluBack', WHERE WHAT IT READS IS OF BULK AT MOST 1048576: true; the input reads as it did. -/
def aluBackUptoRow : OpenClaim := { program := "ytieffpgiliebmaadoor", sum := "f11424b533ae7dff81915f18f9f5313e9c8875d796c814872de92c4662170355", func := "tenement/tenementlaw06.AluBack", spec := "aluBack", unfollowed := true, recurses := true, named := ["tenement/alu.shapes"], apart := false, laid := [("tenement/alu.shapes", laid_tenement_alu_shapes)], narrowed := true }
def AluBackUptoSaid : Prop := aluBackUptoRow.holds Tryd.pinned (OpenSpec.upto aluBackSpec)

end Rows
end Go.Proofs.YtieffpgiliebmaaDoor
