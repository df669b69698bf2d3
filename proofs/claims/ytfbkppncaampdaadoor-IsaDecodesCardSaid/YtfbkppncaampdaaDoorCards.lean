/-
  DERIVED. GIVEN WITH THE SEED: THE CARDS: each row of YtfbkppncaampdaaDoorRows.lean that lists a variable, with what it lists TIED to the program's text (the seventh form; the later family's looks); each row that meets fmt, with fmt's text TOLD by the authors' own Lean function (tested against real Go, not proved from fmt's source: count such statements apart). THE CARD IS WHAT COUNTS. Prove the row's statement (the work); the ties are given (YtfbkppncaampdaaDoorTie.lean); close each card by the builder's one call (the guide's Derived/Test/ToyasCard.lean, 'card_holds'). Laid BY PROGRAM, IN A SANDBOX (cutbox-door.mjs). By AI agents, Wed Nov 11 2026. No macro, syntax, notation, axiom, sorry.
-/
import Derived.Test.YtfbkppncaampdaaDoorRows
import GoSem.ClaimSeven
namespace Go.Proofs.YtfbkppncaampdaaDoor
namespace Rows

/-- THE TIED CARD OF 'tenementlaw07.IsaDecodes'. -/
def isaDecodesCard : Claim7 := { stood := { row := isaDecodesRow, standIns := [], harness := (true, "1db1d65a42d245667ddcd792260e59ca55c627ac14ef779ef9ff8f23ae9548a9"), looks := false }, kinds := [], alts := [], laidByText := true, laidKinds := [.data, .data, .data, .data, .wider], laidTests := true, laidLooks := .later }
def IsaDecodesCardSaid : Prop := Claim7.holds Tryd.pinned (.plain (OpenSpec.ofChange isaDecodesSpec)) isaDecodesCard

/-- THE TIED CARD OF 'tenementlaw07.IsaEncodes'. -/
def isaEncodesCard : Claim7 := { stood := { row := isaEncodesRow, standIns := [], harness := (true, "1db1d65a42d245667ddcd792260e59ca55c627ac14ef779ef9ff8f23ae9548a9"), looks := false }, kinds := [], alts := [], laidByText := true, laidKinds := [.data, .data, .data, .data, .wider], laidTests := true, laidLooks := .later }
def IsaEncodesCardSaid : Prop := Claim7.holds Tryd.pinned (.plain (OpenSpec.ofChange isaEncodesSpec)) isaEncodesCard

/-- THE TIED CARD OF 'tenementlaw07.IsaImages'. -/
def isaImagesCard : Claim7 := { stood := { row := isaImagesRow, standIns := [], harness := (true, "1db1d65a42d245667ddcd792260e59ca55c627ac14ef779ef9ff8f23ae9548a9"), looks := false }, kinds := [], alts := [], laidByText := true, laidKinds := [.data, .data, .data, .data, .wider], laidTests := true, laidLooks := .later }
def IsaImagesCardSaid : Prop := Claim7.holds Tryd.pinned (.plain (OpenSpec.ofChange isaImagesSpec)) isaImagesCard

/-- THE TIED CARD OF 'tenementlaw07.IsaBack'. -/
def isaBackCard : Claim7 := { stood := { row := isaBackRow, standIns := [], harness := (true, "1db1d65a42d245667ddcd792260e59ca55c627ac14ef779ef9ff8f23ae9548a9"), looks := false }, kinds := [], alts := [], laidByText := true, laidKinds := [.data, .data, .data, .data, .wider], laidTests := true, laidLooks := .later }
def IsaBackCardSaid : Prop := Claim7.holds Tryd.pinned (.plain (OpenSpec.ofChange isaBackSpec)) isaBackCard

/-- THE SECOND FORM's CARD OF 'tenementlaw07.IsaDecodes'. -/
def isaDecodesUptoCard : Claim7 := { stood := { row := isaDecodesUptoRow, standIns := [], harness := (true, "1db1d65a42d245667ddcd792260e59ca55c627ac14ef779ef9ff8f23ae9548a9"), looks := false }, kinds := [], alts := [], laidByText := true, laidKinds := [.data, .data, .data, .data, .wider], laidTests := true, laidLooks := .later }
def IsaDecodesUptoCardSaid : Prop := Claim7.holds Tryd.pinned (.plain (OpenSpec.upto isaDecodesSpec)) isaDecodesUptoCard

/-- THE SECOND FORM's CARD OF 'tenementlaw07.IsaEncodes'. -/
def isaEncodesUptoCard : Claim7 := { stood := { row := isaEncodesUptoRow, standIns := [], harness := (true, "1db1d65a42d245667ddcd792260e59ca55c627ac14ef779ef9ff8f23ae9548a9"), looks := false }, kinds := [], alts := [], laidByText := true, laidKinds := [.data, .data, .data, .data, .wider], laidTests := true, laidLooks := .later }
def IsaEncodesUptoCardSaid : Prop := Claim7.holds Tryd.pinned (.plain (OpenSpec.upto isaEncodesSpec)) isaEncodesUptoCard

/-- THE SECOND FORM's CARD OF 'tenementlaw07.IsaImages'. -/
def isaImagesUptoCard : Claim7 := { stood := { row := isaImagesUptoRow, standIns := [], harness := (true, "1db1d65a42d245667ddcd792260e59ca55c627ac14ef779ef9ff8f23ae9548a9"), looks := false }, kinds := [], alts := [], laidByText := true, laidKinds := [.data, .data, .data, .data, .wider], laidTests := true, laidLooks := .later }
def IsaImagesUptoCardSaid : Prop := Claim7.holds Tryd.pinned (.plain (OpenSpec.upto isaImagesSpec)) isaImagesUptoCard

/-- THE SECOND FORM's CARD OF 'tenementlaw07.IsaBack'. -/
def isaBackUptoCard : Claim7 := { stood := { row := isaBackUptoRow, standIns := [], harness := (true, "1db1d65a42d245667ddcd792260e59ca55c627ac14ef779ef9ff8f23ae9548a9"), looks := false }, kinds := [], alts := [], laidByText := true, laidKinds := [.data, .data, .data, .data, .wider], laidTests := true, laidLooks := .later }
def IsaBackUptoCardSaid : Prop := Claim7.holds Tryd.pinned (.plain (OpenSpec.upto isaBackSpec)) isaBackUptoCard
end Rows
end Go.Proofs.YtfbkppncaampdaaDoor
