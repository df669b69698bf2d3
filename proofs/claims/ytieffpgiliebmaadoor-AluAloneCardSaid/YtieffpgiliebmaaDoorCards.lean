/-
  DERIVED. GIVEN WITH THE SEED: THE CARDS: each row of YtieffpgiliebmaaDoorRows.lean that lists a variable, with what it lists TIED to the program's text (the seventh form; the later family's looks); each row that meets fmt, with fmt's text TOLD by the authors' own Lean function (tested against real Go, not proved from fmt's source: count such statements apart). THE CARD IS WHAT COUNTS. Prove the row's statement (the work); the ties are given (YtieffpgiliebmaaDoorTie.lean); close each card by the builder's one call (the guide's Derived/Test/ToyasCard.lean, 'card_holds'). Laid BY PROGRAM, IN A SANDBOX (cutbox-door.mjs). By AI agents, Wed Nov 11 2026. No macro, syntax, notation, axiom, sorry.
-/
import Derived.Test.YtieffpgiliebmaaDoorRows
import GoSem.ClaimSeven
namespace Go.Proofs.YtieffpgiliebmaaDoor
namespace Rows

/-- THE TIED CARD OF 'tenementlaw06.AluTells'. -/
def aluTellsCard : Claim7 := { stood := { row := aluTellsRow, standIns := [], harness := (true, "fa01c0782519fbfcaeb222746916d22f79f35c78743bd5ad42b3c36af25625a9"), looks := false }, kinds := [], alts := [], laidByText := true, laidKinds := [.data], laidTests := true, laidLooks := .later }
def AluTellsCardSaid : Prop := Claim7.holds Tryd.pinned (.plain (OpenSpec.ofChange aluTellsSpec)) aluTellsCard

/-- THE TIED CARD OF 'tenementlaw06.AluDoes'. -/
def aluDoesCard : Claim7 := { stood := { row := aluDoesRow, standIns := [], harness := (true, "fa01c0782519fbfcaeb222746916d22f79f35c78743bd5ad42b3c36af25625a9"), looks := false }, kinds := [], alts := [], laidByText := true, laidKinds := [.data], laidTests := true, laidLooks := .later }
def AluDoesCardSaid : Prop := Claim7.holds Tryd.pinned (.plain (OpenSpec.ofChange aluDoesSpec)) aluDoesCard

/-- THE TIED CARD OF 'tenementlaw06.AluAlone'. -/
def aluAloneCard : Claim7 := { stood := { row := aluAloneRow, standIns := [], harness := (true, "fa01c0782519fbfcaeb222746916d22f79f35c78743bd5ad42b3c36af25625a9"), looks := false }, kinds := [], alts := [], laidByText := true, laidKinds := [.data], laidTests := true, laidLooks := .later }
def AluAloneCardSaid : Prop := Claim7.holds Tryd.pinned (.plain (OpenSpec.ofChange aluAloneSpec)) aluAloneCard

/-- THE TIED CARD OF 'tenementlaw06.AluBack'. -/
def aluBackCard : Claim7 := { stood := { row := aluBackRow, standIns := [], harness := (true, "fa01c0782519fbfcaeb222746916d22f79f35c78743bd5ad42b3c36af25625a9"), looks := false }, kinds := [], alts := [], laidByText := true, laidKinds := [.data], laidTests := true, laidLooks := .later }
def AluBackCardSaid : Prop := Claim7.holds Tryd.pinned (.plain (OpenSpec.ofChange aluBackSpec)) aluBackCard

/-- THE SECOND FORM's CARD OF 'tenementlaw06.AluTells'. -/
def aluTellsUptoCard : Claim7 := { stood := { row := aluTellsUptoRow, standIns := [], harness := (true, "fa01c0782519fbfcaeb222746916d22f79f35c78743bd5ad42b3c36af25625a9"), looks := false }, kinds := [], alts := [], laidByText := true, laidKinds := [.data], laidTests := true, laidLooks := .later }
def AluTellsUptoCardSaid : Prop := Claim7.holds Tryd.pinned (.plain (OpenSpec.upto aluTellsSpec)) aluTellsUptoCard

/-- THE SECOND FORM's CARD OF 'tenementlaw06.AluDoes'. -/
def aluDoesUptoCard : Claim7 := { stood := { row := aluDoesUptoRow, standIns := [], harness := (true, "fa01c0782519fbfcaeb222746916d22f79f35c78743bd5ad42b3c36af25625a9"), looks := false }, kinds := [], alts := [], laidByText := true, laidKinds := [.data], laidTests := true, laidLooks := .later }
def AluDoesUptoCardSaid : Prop := Claim7.holds Tryd.pinned (.plain (OpenSpec.upto aluDoesSpec)) aluDoesUptoCard

/-- THE SECOND FORM's CARD OF 'tenementlaw06.AluAlone'. -/
def aluAloneUptoCard : Claim7 := { stood := { row := aluAloneUptoRow, standIns := [], harness := (true, "fa01c0782519fbfcaeb222746916d22f79f35c78743bd5ad42b3c36af25625a9"), looks := false }, kinds := [], alts := [], laidByText := true, laidKinds := [.data], laidTests := true, laidLooks := .later }
def AluAloneUptoCardSaid : Prop := Claim7.holds Tryd.pinned (.plain (OpenSpec.upto aluAloneSpec)) aluAloneUptoCard

/-- THE SECOND FORM's CARD OF 'tenementlaw06.AluBack'. -/
def aluBackUptoCard : Claim7 := { stood := { row := aluBackUptoRow, standIns := [], harness := (true, "fa01c0782519fbfcaeb222746916d22f79f35c78743bd5ad42b3c36af25625a9"), looks := false }, kinds := [], alts := [], laidByText := true, laidKinds := [.data], laidTests := true, laidLooks := .later }
def AluBackUptoCardSaid : Prop := Claim7.holds Tryd.pinned (.plain (OpenSpec.upto aluBackSpec)) aluBackUptoCard
end Rows
end Go.Proofs.YtieffpgiliebmaaDoor
