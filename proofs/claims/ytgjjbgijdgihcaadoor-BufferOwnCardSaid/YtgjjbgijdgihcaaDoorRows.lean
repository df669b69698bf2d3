/-
  NARROWER THAN 'FOR EVERY INPUT', by the rows' own cells (each row's printed sentence says how): BufferTells: laid · BufferOwn: laid · BufferBar: laid · BufferAhead: laid.
  DERIVED. THE GIVEN ROWS OF THIS SEAT. 4 by the template 'for every input the law returns true; each argument reads behind the call as it read before'; 0 by the template 'total and deterministic' (their statements: YtgjjbgijdgihcaaDoorTotals.lean).
  GIVEN WITH THE SEED: the statements are not yours to turn. If you find one false, say at which input.
  Laid BY PROGRAM, IN A SANDBOX (cutbox-rows.mjs): the forced cells as the released guide's own fill.sh prints them over the translation 5997195d9f7803e8… (all of the seat's roots in one cut). By AI agents, Wed Nov 11 2026. No macro, syntax, notation, axiom, sorry.
-/
import Derived.Test.YtgjjbgijdgihcaaDoorChecked
import GoSem.Claim
import GoSem.ClaimJoined
import GoSem.ClaimMapViews
import Derived.JoinedTies
import Derived.KernelRfl
namespace Go.Proofs.YtgjjbgijdgihcaaDoor
/- THE CELL 'sum', in the pinned program and in every row, IS THE sha256 OF THE DUMP (.gsa) THAT YtgjjbgijdgihcaaDoorProg.lean LOADS. Nothing in Lean hashes anything: it is a label: what it is worth is what the hold of that sum in a sandbox is worth. -/
noncomputable def Tryd.pinned : Pinned := { name := "ytgjjbgijdgihcaadoor", sum := "5997195d9f7803e86268534cf82b9c382735e4518c60bc95950018f7a86afd2c", checked := Tryd.checked }
namespace Rows
def none {H : Type} : Left H := { results := [], args := [] }

/- WHAT THE LISTED PACKAGE-LEVEL VARIABLES READ AS WHEN THE CALL BEGINS. Each datum BY PROGRAM (the guide's laid-datum.mjs) off the statement by which the dump's own 'gosem.cut.vars' lays the variable. In a bare row this is a premise. The card (YtgjjbgijdgihcaaDoorCards.lean) ties it to the program's text. -/
def laid_tenement_buffer_kinds {H : Type} : DataW H := .agg [.agg [.lit (.bool true), .lit (.bool false), .lit (.bool false)], .agg [.lit (.bool false), .lit (.bool false), .lit (.bool false)], .agg [.lit (.bool false), .lit (.bool true), .lit (.bool false)], .agg [.lit (.bool false), .lit (.bool true), .lit (.bool true)]]

/-- 'tenementlaw09.BufferTells': WHATEVER THE INPUT: true; the input reads as it did. -/
def bufferTellsSpec : ChangeSpec := { name := "bufferTells", fn := fun _ => fun
  | [d1, d2, d3, d4, d5] => { results := [.lit (.bool true)], args := [d1, d2, d3, d4, d5] }
  | _ => none }
def bufferTellsRow : OpenClaim := { program := "ytgjjbgijdgihcaadoor", sum := "5997195d9f7803e86268534cf82b9c382735e4518c60bc95950018f7a86afd2c", func := "tenement/tenementlaw09.BufferTells", spec := "bufferTells", unfollowed := true, recurses := true, named := ["tenement/buffer.kinds"], apart := false, laid := [("tenement/buffer.kinds", laid_tenement_buffer_kinds)] }
def BufferTellsSaid : Prop := bufferTellsRow.holds Tryd.pinned (OpenSpec.ofChange bufferTellsSpec)

/-- ITS FALSE NEIGHBOUR: 'it returns false'. Refute it at one input. -/
def bufferTellsWrong : ChangeSpec := { name := "bufferTells", fn := fun _ => fun
  | [d1, d2, d3, d4, d5] => { results := [.lit (.bool false)], args := [d1, d2, d3, d4, d5] }
  | _ => none }
def BufferTellsWrongFalsely : Prop := bufferTellsRow.holds Tryd.pinned (OpenSpec.ofChange bufferTellsWrong)

/-- 'tenementlaw09.BufferOwn': WHATEVER THE INPUT: true; the input reads as it did. -/
def bufferOwnSpec : ChangeSpec := { name := "bufferOwn", fn := fun _ => fun
  | [d1, d2] => { results := [.lit (.bool true)], args := [d1, d2] }
  | _ => none }
def bufferOwnRow : OpenClaim := { program := "ytgjjbgijdgihcaadoor", sum := "5997195d9f7803e86268534cf82b9c382735e4518c60bc95950018f7a86afd2c", func := "tenement/tenementlaw09.BufferOwn", spec := "bufferOwn", unfollowed := true, recurses := true, named := ["tenement/buffer.kinds"], apart := false, laid := [("tenement/buffer.kinds", laid_tenement_buffer_kinds)] }
def BufferOwnSaid : Prop := bufferOwnRow.holds Tryd.pinned (OpenSpec.ofChange bufferOwnSpec)

/-- ITS FALSE NEIGHBOUR: 'it returns false'. Refute it at one input. -/
def bufferOwnWrong : ChangeSpec := { name := "bufferOwn", fn := fun _ => fun
  | [d1, d2] => { results := [.lit (.bool false)], args := [d1, d2] }
  | _ => none }
def BufferOwnWrongFalsely : Prop := bufferOwnRow.holds Tryd.pinned (OpenSpec.ofChange bufferOwnWrong)

/-- 'tenementlaw09.BufferBar': WHATEVER THE INPUT: true; the input reads as it did. -/
def bufferBarSpec : ChangeSpec := { name := "bufferBar", fn := fun _ => fun
  | [d1, d2] => { results := [.lit (.bool true)], args := [d1, d2] }
  | _ => none }
def bufferBarRow : OpenClaim := { program := "ytgjjbgijdgihcaadoor", sum := "5997195d9f7803e86268534cf82b9c382735e4518c60bc95950018f7a86afd2c", func := "tenement/tenementlaw09.BufferBar", spec := "bufferBar", unfollowed := true, recurses := true, named := ["tenement/buffer.kinds"], apart := false, laid := [("tenement/buffer.kinds", laid_tenement_buffer_kinds)] }
def BufferBarSaid : Prop := bufferBarRow.holds Tryd.pinned (OpenSpec.ofChange bufferBarSpec)

/-- ITS FALSE NEIGHBOUR: 'it returns false'. Refute it at one input. -/
def bufferBarWrong : ChangeSpec := { name := "bufferBar", fn := fun _ => fun
  | [d1, d2] => { results := [.lit (.bool false)], args := [d1, d2] }
  | _ => none }
def BufferBarWrongFalsely : Prop := bufferBarRow.holds Tryd.pinned (OpenSpec.ofChange bufferBarWrong)

/-- 'tenementlaw09.BufferAhead': WHATEVER THE INPUT: true; the input reads as it did. -/
def bufferAheadSpec : ChangeSpec := { name := "bufferAhead", fn := fun _ => fun
  | [d1, d2, d3] => { results := [.lit (.bool true)], args := [d1, d2, d3] }
  | _ => none }
def bufferAheadRow : OpenClaim := { program := "ytgjjbgijdgihcaadoor", sum := "5997195d9f7803e86268534cf82b9c382735e4518c60bc95950018f7a86afd2c", func := "tenement/tenementlaw09.BufferAhead", spec := "bufferAhead", unfollowed := true, recurses := true, named := ["tenement/buffer.kinds"], apart := false, laid := [("tenement/buffer.kinds", laid_tenement_buffer_kinds)] }
def BufferAheadSaid : Prop := bufferAheadRow.holds Tryd.pinned (OpenSpec.ofChange bufferAheadSpec)

/-- ITS FALSE NEIGHBOUR: 'it returns false'. Refute it at one input. -/
def bufferAheadWrong : ChangeSpec := { name := "bufferAhead", fn := fun _ => fun
  | [d1, d2, d3] => { results := [.lit (.bool false)], args := [d1, d2, d3] }
  | _ => none }
def BufferAheadWrongFalsely : Prop := bufferAheadRow.holds Tryd.pinned (OpenSpec.ofChange bufferAheadWrong)

/- THE SECOND FORM. 'bulk': how many values and letters a reading holds, each counted each time it is reached (what is shared counts as often as it is met; a slice's spare places count too). A statement '..UptoSaid' is the law's where the arguments, and the package variables that the reading takes, are together of bulk at most 1048576: NARROWER than '..Said'. Prove '..Said' where nothing that the law and all that it calls make is longer than what came in: it says more and counts as full. Else prove '..UptoSaid'. A law counts once. -/
mutual
def uptoBulk {H : Type} : DataW H → Nat
  | .lit (.string bytes) => bytes.length + 1
  | .lit _ => 1
  | .nil => 1
  | .ptr d => uptoBulk d + 1
  | .slice elems spare => uptoBulkAll elems + uptoBulkAll spare + 1
  | .agg parts => uptoBulkAll parts + 1
  | .iface _ d => uptoBulk d + 1
  | .map entries => uptoBulkEntries entries + 1
  | .held _ => 1
def uptoBulkAll {H : Type} : List (DataW H) → Nat
  | [] => 0
  | d :: r => uptoBulk d + uptoBulkAll r
def uptoBulkEntries {H : Type} : List (Lit × DataW H) → Nat
  | [] => 0
  | x :: r => uptoBulkEntry x + uptoBulkEntries r
def uptoBulkEntry {H : Type} : Lit × DataW H → Nat
  | (.string bytes, d) => bytes.length + uptoBulk d + 1
  | (_, d) => uptoBulk d + 1
 end
def uptoSmall : (H : Type) → List (DataW H) → Bool := fun _ ds => decide (uptoBulkAll ds ≤ 1048576)
def OpenSpec.upto (s : _root_.Go.ChangeSpec) : _root_.Go.OpenSpec := { _root_.Go.OpenSpec.ofChange s with cond := some uptoSmall }

/-- 'tenementlaw09.BufferTells', WHERE WHAT IT READS IS OF BULK AT MOST 1048576: true; the input reads as it did. -/
def bufferTellsUptoRow : OpenClaim := { program := "ytgjjbgijdgihcaadoor", sum := "5997195d9f7803e86268534cf82b9c382735e4518c60bc95950018f7a86afd2c", func := "tenement/tenementlaw09.BufferTells", spec := "bufferTells", unfollowed := true, recurses := true, named := ["tenement/buffer.kinds"], apart := false, laid := [("tenement/buffer.kinds", laid_tenement_buffer_kinds)], narrowed := true }
def BufferTellsUptoSaid : Prop := bufferTellsUptoRow.holds Tryd.pinned (OpenSpec.upto bufferTellsSpec)

/-- 'tenementlaw09.BufferOwn', WHERE WHAT IT READS IS OF BULK AT MOST 1048576: true; the input reads as it did. -/
def bufferOwnUptoRow : OpenClaim := { program := "ytgjjbgijdgihcaadoor", sum := "5997195d9f7803e86268534cf82b9c382735e4518c60bc95950018f7a86afd2c", func := "tenement/tenementlaw09.BufferOwn", spec := "bufferOwn", unfollowed := true, recurses := true, named := ["tenement/buffer.kinds"], apart := false, laid := [("tenement/buffer.kinds", laid_tenement_buffer_kinds)], narrowed := true }
def BufferOwnUptoSaid : Prop := bufferOwnUptoRow.holds Tryd.pinned (OpenSpec.upto bufferOwnSpec)

/-- 'tenementlaw09.BufferBar', WHERE WHAT IT READS IS OF BULK AT MOST 1048576: true; the input reads as it did. -/
def bufferBarUptoRow : OpenClaim := { program := "ytgjjbgijdgihcaadoor", sum := "5997195d9f7803e86268534cf82b9c382735e4518c60bc95950018f7a86afd2c", func := "tenement/tenementlaw09.BufferBar", spec := "bufferBar", unfollowed := true, recurses := true, named := ["tenement/buffer.kinds"], apart := false, laid := [("tenement/buffer.kinds", laid_tenement_buffer_kinds)], narrowed := true }
def BufferBarUptoSaid : Prop := bufferBarUptoRow.holds Tryd.pinned (OpenSpec.upto bufferBarSpec)

/-- 'tenementlaw09.BufferAhead', WHERE WHAT IT READS IS OF BULK AT MOST 1048576: true; the input reads as it did. -/
def bufferAheadUptoRow : OpenClaim := { program := "ytgjjbgijdgihcaadoor", sum := "5997195d9f7803e86268534cf82b9c382735e4518c60bc95950018f7a86afd2c", func := "tenement/tenementlaw09.BufferAhead", spec := "bufferAhead", unfollowed := true, recurses := true, named := ["tenement/buffer.kinds"], apart := false, laid := [("tenement/buffer.kinds", laid_tenement_buffer_kinds)], narrowed := true }
def BufferAheadUptoSaid : Prop := bufferAheadUptoRow.holds Tryd.pinned (OpenSpec.upto bufferAheadSpec)

end Rows
end Go.Proofs.YtgjjbgijdgihcaaDoor
