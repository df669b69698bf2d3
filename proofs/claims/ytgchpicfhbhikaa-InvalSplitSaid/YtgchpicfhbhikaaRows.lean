/-
  No cell of these rows narrows 'for every input' (looked for: loops, veiled, ifaces, maps, wideKeys, modest, calm, conditions, laid).
  DERIVED. THE GIVEN ROWS OF THIS SEAT. 4 by the template 'for every input the law returns true; each argument reads behind the call as it read before'; 0 by the template 'total and deterministic' (their statements: YtgchpicfhbhikaaTotals.lean).
  GIVEN WITH THE SEED: the statements are not yours to turn. If you find one false, say at which input.
  Laid BY PROGRAM, IN A SANDBOX (cutbox-rows.mjs): the forced cells as the released guide's own fill.sh prints them over the translation 481a0fc94b516247… (all of the seat's roots in one cut). By AI agents, Wed Nov 11 2026. No macro, syntax, notation, axiom, sorry.
-/
import Derived.Test.YtgchpicfhbhikaaChecked
import GoSem.Claim
import GoSem.ClaimJoined
import GoSem.ClaimMapViews
import Derived.JoinedTies
import Derived.KernelRfl
namespace Go.Proofs.Ytgchpicfhbhikaa
/- THE CELL 'sum', in the pinned program and in every row, IS THE sha256 OF THE DUMP (.gsa) THAT YtgchpicfhbhikaaProg.lean LOADS. Nothing in Lean hashes anything: it is a label: what it is worth is what the hold of that sum in a sandbox is worth. -/
noncomputable def Try.pinned : Pinned := { name := "ytgchpicfhbhikaa", sum := "481a0fc94b516247a38a7c51bfb9af25697559aa6f3d00bbe2a5de8075082e6d", checked := Try.checked }
namespace Rows
def none {H : Type} : Left H := { results := [], args := [] }

/-- 'tenementlaw05.InvalTells': WHATEVER THE INPUT: true; the input reads as it did. -/
def invalTellsSpec : ChangeSpec := { name := "invalTells", fn := fun _ => fun
  | [d1, d2, d3, d4, d5] => { results := [.lit (.bool true)], args := [d1, d2, d3, d4, d5] }
  | _ => none }
def invalTellsRow : OpenClaim := { program := "ytgchpicfhbhikaa", sum := "481a0fc94b516247a38a7c51bfb9af25697559aa6f3d00bbe2a5de8075082e6d", func := "tenement/tenementlaw05.InvalTells", spec := "invalTells", unfollowed := true, recurses := true, apart := false }
def InvalTellsSaid : Prop := invalTellsRow.holds Try.pinned (OpenSpec.ofChange invalTellsSpec)

/-- ITS FALSE NEIGHBOUR: 'it returns false'. Refute it at one input. -/
def invalTellsWrong : ChangeSpec := { name := "invalTells", fn := fun _ => fun
  | [d1, d2, d3, d4, d5] => { results := [.lit (.bool false)], args := [d1, d2, d3, d4, d5] }
  | _ => none }
def InvalTellsWrongFalsely : Prop := invalTellsRow.holds Try.pinned (OpenSpec.ofChange invalTellsWrong)

/-- 'tenementlaw05.InvalBack': WHATEVER THE INPUT: true; the input reads as it did. -/
def invalBackSpec : ChangeSpec := { name := "invalBack", fn := fun _ => fun
  | [d1, d2] => { results := [.lit (.bool true)], args := [d1, d2] }
  | _ => none }
def invalBackRow : OpenClaim := { program := "ytgchpicfhbhikaa", sum := "481a0fc94b516247a38a7c51bfb9af25697559aa6f3d00bbe2a5de8075082e6d", func := "tenement/tenementlaw05.InvalBack", spec := "invalBack", unfollowed := true, recurses := true, apart := false }
def InvalBackSaid : Prop := invalBackRow.holds Try.pinned (OpenSpec.ofChange invalBackSpec)

/-- ITS FALSE NEIGHBOUR: 'it returns false'. Refute it at one input. -/
def invalBackWrong : ChangeSpec := { name := "invalBack", fn := fun _ => fun
  | [d1, d2] => { results := [.lit (.bool false)], args := [d1, d2] }
  | _ => none }
def InvalBackWrongFalsely : Prop := invalBackRow.holds Try.pinned (OpenSpec.ofChange invalBackWrong)

/-- 'tenementlaw05.InvalCovers': WHATEVER THE INPUT: true; the input reads as it did. -/
def invalCoversSpec : ChangeSpec := { name := "invalCovers", fn := fun _ => fun
  | [d1, d2, d3, d4, d5] => { results := [.lit (.bool true)], args := [d1, d2, d3, d4, d5] }
  | _ => none }
def invalCoversRow : OpenClaim := { program := "ytgchpicfhbhikaa", sum := "481a0fc94b516247a38a7c51bfb9af25697559aa6f3d00bbe2a5de8075082e6d", func := "tenement/tenementlaw05.InvalCovers", spec := "invalCovers", unfollowed := true, recurses := true, apart := false }
def InvalCoversSaid : Prop := invalCoversRow.holds Try.pinned (OpenSpec.ofChange invalCoversSpec)

/-- ITS FALSE NEIGHBOUR: 'it returns false'. Refute it at one input. -/
def invalCoversWrong : ChangeSpec := { name := "invalCovers", fn := fun _ => fun
  | [d1, d2, d3, d4, d5] => { results := [.lit (.bool false)], args := [d1, d2, d3, d4, d5] }
  | _ => none }
def InvalCoversWrongFalsely : Prop := invalCoversRow.holds Try.pinned (OpenSpec.ofChange invalCoversWrong)

/-- 'tenementlaw05.InvalSplit': WHATEVER THE INPUT: true; the input reads as it did. -/
def invalSplitSpec : ChangeSpec := { name := "invalSplit", fn := fun _ => fun
  | [d1, d2, d3] => { results := [.lit (.bool true)], args := [d1, d2, d3] }
  | _ => none }
def invalSplitRow : OpenClaim := { program := "ytgchpicfhbhikaa", sum := "481a0fc94b516247a38a7c51bfb9af25697559aa6f3d00bbe2a5de8075082e6d", func := "tenement/tenementlaw05.InvalSplit", spec := "invalSplit", unfollowed := true, recurses := true, apart := false }
def InvalSplitSaid : Prop := invalSplitRow.holds Try.pinned (OpenSpec.ofChange invalSplitSpec)

/-- ITS FALSE NEIGHBOUR: 'it returns false'. Refute it at one input. -/
def invalSplitWrong : ChangeSpec := { name := "invalSplit", fn := fun _ => fun
  | [d1, d2, d3] => { results := [.lit (.bool false)], args := [d1, d2, d3] }
  | _ => none }
def InvalSplitWrongFalsely : Prop := invalSplitRow.holds Try.pinned (OpenSpec.ofChange invalSplitWrong)

/- THE SECOND FORM. 'bulk': how many values and letters a reading holds, each counted each time it is reached (what is shared counts as often as it is met; a slice's spare places count too). A statement '..UptoSaid' is the law's where the arguments, and the package variables that the reading takes, are together of bulk at most 1048576: NARROWER than '..Said'. Prove '..Said' where nothing that the law and all that it calls make is longer than what came in: it says more and counts as full. Else prove '..UptoSaid'. A law counts once. -/
mutual
def uptoBulk {H : Type} : DataW H → Nat
  | .lit (.string bytes) => bytes.length + 1
  | .lit _ => 1
  | .nil => 1
  | .ptr d => uptoBulk d + 1
  | .slice elems spare => uptoBulkAll elems + uptoBulkAll spare + 1
  | .agg parts => uptoBulkAll parts + 1
  | .iface _ d => uptoBulk d + 1
  | .map entries => uptoBulkEntries entries + 1
  | .held _ => 1
def uptoBulkAll {H : Type} : List (DataW H) → Nat
  | [] => 0
  | d :: r => uptoBulk d + uptoBulkAll r
def uptoBulkEntries {H : Type} : List (Lit × DataW H) → Nat
  | [] => 0
  | x :: r => uptoBulkEntry x + uptoBulkEntries r
def uptoBulkEntry {H : Type} : Lit × DataW H → Nat
  | (.string bytes, d) => bytes.length + uptoBulk d + 1
  | (_, d) => uptoBulk d + 1
 end
def uptoSmall : (H : Type) → List (DataW H) → Bool := fun _ ds => decide (uptoBulkAll ds ≤ 1048576)
def OpenSpec.upto (s : _root_.Go.ChangeSpec) : _root_.Go.OpenSpec := { _root_.Go.OpenSpec.ofChange s with cond := some uptoSmall }

/-- 'tenementlaw05.InvalTells', WHERE WHAT IT READS IS OF BULK AT MOST 1048576: true; the input reads as it did. -/
def invalTellsUptoRow : OpenClaim := { program := "ytgchpicfhbhikaa", sum := "481a0fc94b516247a38a7c51bfb9af25697559aa6f3d00bbe2a5de8075082e6d", func := "tenement/tenementlaw05.InvalTells", spec := "invalTells", unfollowed := true, recurses := true, apart := false, narrowed := true }
def InvalTellsUptoSaid : Prop := invalTellsUptoRow.holds Try.pinned (OpenSpec.upto invalTellsSpec)

/-- 'tenementlaw05.InvalBack', WHERE WHAT IT READS IS OF BULK AT MOST 1048576: true; the input reads as it did. -/
def invalBackUptoRow : OpenClaim := { program := "ytgchpicfhbhikaa", sum := "481a0fc94b516247a38a7c51bfb9af25697559aa6f3d00bbe2a5de8075082e6d", func := "tenement/tenementlaw05.InvalBack", spec := "invalBack", unfollowed := true, recurses := true, apart := false, narrowed := true }
def InvalBackUptoSaid : Prop := invalBackUptoRow.holds Try.pinned (OpenSpec.upto invalBackSpec)

/-- 'tenementlaw05.InvalCovers', WHERE WHAT IT READS IS OF BULK AT MOST 1048576: true; the input reads as it did. -/
def invalCoversUptoRow : OpenClaim := { program := "ytgchpicfhbhikaa", sum := "481a0fc94b516247a38a7c51bfb9af25697559aa6f3d00bbe2a5de8075082e6d", func := "tenement/tenementlaw05.InvalCovers", spec := "invalCovers", unfollowed := true, recurses := true, apart := false, narrowed := true }
def InvalCoversUptoSaid : Prop := invalCoversUptoRow.holds Try.pinned (OpenSpec.upto invalCoversSpec)

/-- 'tenementlaw05.InvalSplit', WHERE WHAT IT READS IS OF BULK AT MOST 1048576: true; the input reads as it did. -/
def invalSplitUptoRow : OpenClaim := { program := "ytgchpicfhbhikaa", sum := "481a0fc94b516247a38a7c51bfb9af25697559aa6f3d00bbe2a5de8075082e6d", func := "tenement/tenementlaw05.InvalSplit", spec := "invalSplit", unfollowed := true, recurses := true, apart := false, narrowed := true }
def InvalSplitUptoSaid : Prop := invalSplitUptoRow.holds Try.pinned (OpenSpec.upto invalSplitSpec)

end Rows
end Go.Proofs.Ytgchpicfhbhikaa
