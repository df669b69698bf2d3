/-
  DERIVED. GIVEN WITH THE SEED: THE CARDS: each row of YtgjjbgijdgihcaaDoorRows.lean that lists a variable, with what it lists TIED to the program's text (the seventh form; the later family's looks); each row that meets fmt, with fmt's text TOLD by the authors' own Lean function (tested against real Go, not proved from fmt's source: count such statements apart). THE CARD IS WHAT COUNTS. Prove the row's statement (the work); the ties are given (YtgjjbgijdgihcaaDoorTie.lean); close each card by the builder's one call (the guide's Derived/Test/ToyasCard.lean, 'card_holds'). Laid BY PROGRAM, IN A SANDBOX (cutbox-door.mjs). By AI agents, Wed Nov 11 2026. No macro, syntax, notation, axiom, sorry.
-/
import Derived.Test.YtgjjbgijdgihcaaDoorRows
import GoSem.ClaimSeven
namespace Go.Proofs.YtgjjbgijdgihcaaDoor
namespace Rows

/-- THE TIED CARD OF 'tenementlaw09.BufferTells'. -/
def bufferTellsCard : Claim7 := { stood := { row := bufferTellsRow, standIns := [], harness := (true, "487b343b5a152fb37c962b237e501e85a9f345dd78f608f829f659364a0283e6"), looks := false }, kinds := [], alts := [], laidByText := true, laidKinds := [.data], laidTests := true, laidLooks := .later }
def BufferTellsCardSaid : Prop := Claim7.holds Tryd.pinned (.plain (OpenSpec.ofChange bufferTellsSpec)) bufferTellsCard

/-- THE TIED CARD OF 'tenementlaw09.BufferOwn'. -/
def bufferOwnCard : Claim7 := { stood := { row := bufferOwnRow, standIns := [], harness := (true, "487b343b5a152fb37c962b237e501e85a9f345dd78f608f829f659364a0283e6"), looks := false }, kinds := [], alts := [], laidByText := true, laidKinds := [.data], laidTests := true, laidLooks := .later }
def BufferOwnCardSaid : Prop := Claim7.holds Tryd.pinned (.plain (OpenSpec.ofChange bufferOwnSpec)) bufferOwnCard

/-- THE TIED CARD OF 'tenementlaw09.BufferBar'. -/
def bufferBarCard : Claim7 := { stood := { row := bufferBarRow, standIns := [], harness := (true, "487b343b5a152fb37c962b237e501e85a9f345dd78f608f829f659364a0283e6"), looks := false }, kinds := [], alts := [], laidByText := true, laidKinds := [.data], laidTests := true, laidLooks := .later }
def BufferBarCardSaid : Prop := Claim7.holds Tryd.pinned (.plain (OpenSpec.ofChange bufferBarSpec)) bufferBarCard

/-- THE TIED CARD OF 'tenementlaw09.BufferAhead'. -/
def bufferAheadCard : Claim7 := { stood := { row := bufferAheadRow, standIns := [], harness := (true, "487b343b5a152fb37c962b237e501e85a9f345dd78f608f829f659364a0283e6"), looks := false }, kinds := [], alts := [], laidByText := true, laidKinds := [.data], laidTests := true, laidLooks := .later }
def BufferAheadCardSaid : Prop := Claim7.holds Tryd.pinned (.plain (OpenSpec.ofChange bufferAheadSpec)) bufferAheadCard

/-- THE SECOND FORM's CARD OF 'tenementlaw09.BufferTells'. -/
def bufferTellsUptoCard : Claim7 := { stood := { row := bufferTellsUptoRow, standIns := [], harness := (true, "487b343b5a152fb37c962b237e501e85a9f345dd78f608f829f659364a0283e6"), looks := false }, kinds := [], alts := [], laidByText := true, laidKinds := [.data], laidTests := true, laidLooks := .later }
def BufferTellsUptoCardSaid : Prop := Claim7.holds Tryd.pinned (.plain (OpenSpec.upto bufferTellsSpec)) bufferTellsUptoCard

/-- THE SECOND FORM's CARD OF 'tenementlaw09.BufferOwn'. -/
def bufferOwnUptoCard : Claim7 := { stood := { row := bufferOwnUptoRow, standIns := [], harness := (true, "487b343b5a152fb37c962b237e501e85a9f345dd78f608f829f659364a0283e6"), looks := false }, kinds := [], alts := [], laidByText := true, laidKinds := [.data], laidTests := true, laidLooks := .later }
def BufferOwnUptoCardSaid : Prop := Claim7.holds Tryd.pinned (.plain (OpenSpec.upto bufferOwnSpec)) bufferOwnUptoCard

/-- THE SECOND FORM's CARD OF 'tenementlaw09.BufferBar'. -/
def bufferBarUptoCard : Claim7 := { stood := { row := bufferBarUptoRow, standIns := [], harness := (true, "487b343b5a152fb37c962b237e501e85a9f345dd78f608f829f659364a0283e6"), looks := false }, kinds := [], alts := [], laidByText := true, laidKinds := [.data], laidTests := true, laidLooks := .later }
def BufferBarUptoCardSaid : Prop := Claim7.holds Tryd.pinned (.plain (OpenSpec.upto bufferBarSpec)) bufferBarUptoCard

/-- THE SECOND FORM's CARD OF 'tenementlaw09.BufferAhead'. -/
def bufferAheadUptoCard : Claim7 := { stood := { row := bufferAheadUptoRow, standIns := [], harness := (true, "487b343b5a152fb37c962b237e501e85a9f345dd78f608f829f659364a0283e6"), looks := false }, kinds := [], alts := [], laidByText := true, laidKinds := [.data], laidTests := true, laidLooks := .later }
def BufferAheadUptoCardSaid : Prop := Claim7.holds Tryd.pinned (.plain (OpenSpec.upto bufferAheadSpec)) bufferAheadUptoCard
end Rows
end Go.Proofs.YtgjjbgijdgihcaaDoor
