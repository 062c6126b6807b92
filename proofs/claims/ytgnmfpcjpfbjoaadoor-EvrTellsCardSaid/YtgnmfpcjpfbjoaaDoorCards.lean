/-
  DERIVED. GIVEN WITH THE SEED: THE CARDS: each row of YtgnmfpcjpfbjoaaDoorRows.lean that lists a variable, with what it lists TIED to the program's text (the seventh form; the later family's looks); each row that meets fmt, with fmt's text TOLD by the authors' own Lean function (tested against real Go, not proved from fmt's source: count such statements apart). THE CARD IS WHAT COUNTS. Prove the row's statement (the work); the ties are given (YtgnmfpcjpfbjoaaDoorTie.lean); close each card by the builder's one call (the guide's Derived/Test/ToyasCard.lean, 'card_holds'). Laid BY PROGRAM, IN A SANDBOX (cutbox-door.mjs). By AI agents, Wed Nov 11 2026. No macro, syntax, notation, axiom, sorry.
-/
import Derived.Test.YtgnmfpcjpfbjoaaDoorRows
import GoSem.ClaimSeven
namespace Go.Proofs.YtgnmfpcjpfbjoaaDoor
namespace Rows

/-- THE TIED CARD OF 'chandlerylaw03.EvrNames'. -/
def evrNamesCard : Claim7 := { stood := { row := evrNamesRow, standIns := [], harness := (true, "a5aa42f38644f3b542941f967df46a5225c5b372c6a7ace86ca27bcdebece67c"), looks := true }, kinds := [], alts := [], laidByText := true, laidKinds := [.data, .data, .data, .data, .sentinel, .sentinel, .pinned], laidTests := true, laidLooks := .later }
def EvrNamesCardSaid : Prop := Claim7.holds Tryd.pinned (.plain (OpenSpec.ofChange evrNamesSpec)) evrNamesCard

/-- THE TIED CARD OF 'chandlerylaw03.EvrTells'. -/
def evrTellsCard : Claim7 := { stood := { row := evrTellsRow, standIns := [], harness := (true, "a5aa42f38644f3b542941f967df46a5225c5b372c6a7ace86ca27bcdebece67c"), looks := true }, kinds := [], alts := [], laidByText := true, laidKinds := [.data, .data, .data, .data, .sentinel, .sentinel, .pinned], laidTests := true, laidLooks := .later }
def EvrTellsCardSaid : Prop := Claim7.holds Tryd.pinned (.plain (OpenSpec.ofChange evrTellsSpec)) evrTellsCard

/-- THE TIED CARD OF 'chandlerylaw03.EvrBack'. -/
def evrBackCard : Claim7 := { stood := { row := evrBackRow, standIns := [], harness := (true, "a5aa42f38644f3b542941f967df46a5225c5b372c6a7ace86ca27bcdebece67c"), looks := true }, kinds := [], alts := [], laidByText := true, laidKinds := [.data, .data, .data, .data, .sentinel, .sentinel, .pinned], laidTests := true, laidLooks := .later }
def EvrBackCardSaid : Prop := Claim7.holds Tryd.pinned (.plain (OpenSpec.ofChange evrBackSpec)) evrBackCard

/-- THE TIED CARD OF 'chandlerylaw03.EvrOrder'. -/
def evrOrderCard : Claim7 := { stood := { row := evrOrderRow, standIns := [], harness := (true, "a5aa42f38644f3b542941f967df46a5225c5b372c6a7ace86ca27bcdebece67c"), looks := true }, kinds := [], alts := [], laidByText := true, laidKinds := [.data, .data, .data, .data, .sentinel, .sentinel, .pinned], laidTests := true, laidLooks := .later }
def EvrOrderCardSaid : Prop := Claim7.holds Tryd.pinned (.plain (OpenSpec.ofChange evrOrderSpec)) evrOrderCard

/-- THE TIED CARD OF 'chandlerylaw03.EvrParts'. -/
def evrPartsCard : Claim7 := { stood := { row := evrPartsRow, standIns := [], harness := (true, "a5aa42f38644f3b542941f967df46a5225c5b372c6a7ace86ca27bcdebece67c"), looks := true }, kinds := [], alts := [], laidByText := true, laidKinds := [.data, .data, .data, .data, .sentinel, .sentinel, .pinned], laidTests := true, laidLooks := .later }
def EvrPartsCardSaid : Prop := Claim7.holds Tryd.pinned (.plain (OpenSpec.ofChange evrPartsSpec)) evrPartsCard

/-- THE SECOND FORM's CARD OF 'chandlerylaw03.EvrNames'. -/
def evrNamesUptoCard : Claim7 := { stood := { row := evrNamesUptoRow, standIns := [], harness := (true, "a5aa42f38644f3b542941f967df46a5225c5b372c6a7ace86ca27bcdebece67c"), looks := true }, kinds := [], alts := [], laidByText := true, laidKinds := [.data, .data, .data, .data, .sentinel, .sentinel, .pinned], laidTests := true, laidLooks := .later }
def EvrNamesUptoCardSaid : Prop := Claim7.holds Tryd.pinned (.plain (OpenSpec.upto evrNamesSpec)) evrNamesUptoCard

/-- THE SECOND FORM's CARD OF 'chandlerylaw03.EvrTells'. -/
def evrTellsUptoCard : Claim7 := { stood := { row := evrTellsUptoRow, standIns := [], harness := (true, "a5aa42f38644f3b542941f967df46a5225c5b372c6a7ace86ca27bcdebece67c"), looks := true }, kinds := [], alts := [], laidByText := true, laidKinds := [.data, .data, .data, .data, .sentinel, .sentinel, .pinned], laidTests := true, laidLooks := .later }
def EvrTellsUptoCardSaid : Prop := Claim7.holds Tryd.pinned (.plain (OpenSpec.upto evrTellsSpec)) evrTellsUptoCard

/-- THE SECOND FORM's CARD OF 'chandlerylaw03.EvrBack'. -/
def evrBackUptoCard : Claim7 := { stood := { row := evrBackUptoRow, standIns := [], harness := (true, "a5aa42f38644f3b542941f967df46a5225c5b372c6a7ace86ca27bcdebece67c"), looks := true }, kinds := [], alts := [], laidByText := true, laidKinds := [.data, .data, .data, .data, .sentinel, .sentinel, .pinned], laidTests := true, laidLooks := .later }
def EvrBackUptoCardSaid : Prop := Claim7.holds Tryd.pinned (.plain (OpenSpec.upto evrBackSpec)) evrBackUptoCard

/-- THE SECOND FORM's CARD OF 'chandlerylaw03.EvrOrder'. -/
def evrOrderUptoCard : Claim7 := { stood := { row := evrOrderUptoRow, standIns := [], harness := (true, "a5aa42f38644f3b542941f967df46a5225c5b372c6a7ace86ca27bcdebece67c"), looks := true }, kinds := [], alts := [], laidByText := true, laidKinds := [.data, .data, .data, .data, .sentinel, .sentinel, .pinned], laidTests := true, laidLooks := .later }
def EvrOrderUptoCardSaid : Prop := Claim7.holds Tryd.pinned (.plain (OpenSpec.upto evrOrderSpec)) evrOrderUptoCard

/-- THE SECOND FORM's CARD OF 'chandlerylaw03.EvrParts'. -/
def evrPartsUptoCard : Claim7 := { stood := { row := evrPartsUptoRow, standIns := [], harness := (true, "a5aa42f38644f3b542941f967df46a5225c5b372c6a7ace86ca27bcdebece67c"), looks := true }, kinds := [], alts := [], laidByText := true, laidKinds := [.data, .data, .data, .data, .sentinel, .sentinel, .pinned], laidTests := true, laidLooks := .later }
def EvrPartsUptoCardSaid : Prop := Claim7.holds Tryd.pinned (.plain (OpenSpec.upto evrPartsSpec)) evrPartsUptoCard
end Rows
end Go.Proofs.YtgnmfpcjpfbjoaaDoor
