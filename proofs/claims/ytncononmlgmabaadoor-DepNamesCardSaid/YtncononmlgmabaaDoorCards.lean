/-
  DERIVED. GIVEN WITH THE SEED: THE CARDS: each row of YtncononmlgmabaaDoorRows.lean that lists a variable, with what it lists TIED to the program's text (the seventh form; the later family's looks); each row that meets fmt, with fmt's text TOLD by the authors' own Lean function (tested against real Go, not proved from fmt's source: count such statements apart). THE CARD IS WHAT COUNTS. Prove the row's statement (the work); the ties are given (YtncononmlgmabaaDoorTie.lean); close each card by the builder's one call (the guide's Derived/Test/ToyasCard.lean, 'card_holds'). Laid BY PROGRAM, IN A SANDBOX (cutbox-door.mjs). By AI agents, Wed Nov 11 2026. No macro, syntax, notation, axiom, sorry.
-/
import Derived.Test.YtncononmlgmabaaDoorRows
import GoSem.ClaimSeven
namespace Go.Proofs.YtncononmlgmabaaDoor
namespace Rows

/-- THE TIED CARD OF 'chandlerylaw06.DepReads'. -/
def depReadsCard : Claim7 := { stood := { row := depReadsRow, standIns := [], harness := (true, "6e5e7f998a8e4f4536fa0f8c6e14a7196919a8456a25a8eaccdeecd605bae1b2"), looks := true }, kinds := [], alts := [], laidByText := true, laidKinds := [.data, .data, .data, .data, .sentinel, .sentinel, .data, .pinned], laidTests := true, laidLooks := .later }
def DepReadsCardSaid : Prop := Claim7.holds Tryd.pinned (.plain (OpenSpec.ofChange depReadsSpec)) depReadsCard

/-- THE TIED CARD OF 'chandlerylaw06.DepNames'. -/
def depNamesCard : Claim7 := { stood := { row := depNamesRow, standIns := [], harness := (true, "6e5e7f998a8e4f4536fa0f8c6e14a7196919a8456a25a8eaccdeecd605bae1b2"), looks := true }, kinds := [], alts := [], laidByText := true, laidKinds := [.data, .data, .data, .data, .sentinel, .sentinel, .data, .pinned], laidTests := true, laidLooks := .later }
def DepNamesCardSaid : Prop := Claim7.holds Tryd.pinned (.plain (OpenSpec.ofChange depNamesSpec)) depNamesCard

/-- THE TIED CARD OF 'chandlerylaw06.DepBack'. -/
def depBackCard : Claim7 := { stood := { row := depBackRow, standIns := [], harness := (true, "6e5e7f998a8e4f4536fa0f8c6e14a7196919a8456a25a8eaccdeecd605bae1b2"), looks := true }, kinds := [], alts := [], laidByText := true, laidKinds := [.data, .data, .data, .data, .sentinel, .sentinel, .data, .pinned], laidTests := true, laidLooks := .later }
def DepBackCardSaid : Prop := Claim7.holds Tryd.pinned (.plain (OpenSpec.ofChange depBackSpec)) depBackCard

/-- THE TIED CARD OF 'chandlerylaw06.DepParts'. -/
def depPartsCard : Claim7 := { stood := { row := depPartsRow, standIns := [], harness := (true, "6e5e7f998a8e4f4536fa0f8c6e14a7196919a8456a25a8eaccdeecd605bae1b2"), looks := true }, kinds := [], alts := [], laidByText := true, laidKinds := [.data, .data, .data, .data, .sentinel, .sentinel, .data, .pinned], laidTests := true, laidLooks := .later }
def DepPartsCardSaid : Prop := Claim7.holds Tryd.pinned (.plain (OpenSpec.ofChange depPartsSpec)) depPartsCard

/-- THE TIED CARD OF 'chandlerylaw06.DepSpace'. -/
def depSpaceCard : Claim7 := { stood := { row := depSpaceRow, standIns := [], harness := (true, "6e5e7f998a8e4f4536fa0f8c6e14a7196919a8456a25a8eaccdeecd605bae1b2"), looks := true }, kinds := [], alts := [], laidByText := true, laidKinds := [.data, .data, .data, .data, .sentinel, .sentinel, .data, .pinned], laidTests := true, laidLooks := .later }
def DepSpaceCardSaid : Prop := Claim7.holds Tryd.pinned (.plain (OpenSpec.ofChange depSpaceSpec)) depSpaceCard

/-- THE SECOND FORM's CARD OF 'chandlerylaw06.DepReads'. -/
def depReadsUptoCard : Claim7 := { stood := { row := depReadsUptoRow, standIns := [], harness := (true, "6e5e7f998a8e4f4536fa0f8c6e14a7196919a8456a25a8eaccdeecd605bae1b2"), looks := true }, kinds := [], alts := [], laidByText := true, laidKinds := [.data, .data, .data, .data, .sentinel, .sentinel, .data, .pinned], laidTests := true, laidLooks := .later }
def DepReadsUptoCardSaid : Prop := Claim7.holds Tryd.pinned (.plain (OpenSpec.upto depReadsSpec)) depReadsUptoCard

/-- THE SECOND FORM's CARD OF 'chandlerylaw06.DepNames'. -/
def depNamesUptoCard : Claim7 := { stood := { row := depNamesUptoRow, standIns := [], harness := (true, "6e5e7f998a8e4f4536fa0f8c6e14a7196919a8456a25a8eaccdeecd605bae1b2"), looks := true }, kinds := [], alts := [], laidByText := true, laidKinds := [.data, .data, .data, .data, .sentinel, .sentinel, .data, .pinned], laidTests := true, laidLooks := .later }
def DepNamesUptoCardSaid : Prop := Claim7.holds Tryd.pinned (.plain (OpenSpec.upto depNamesSpec)) depNamesUptoCard

/-- THE SECOND FORM's CARD OF 'chandlerylaw06.DepBack'. -/
def depBackUptoCard : Claim7 := { stood := { row := depBackUptoRow, standIns := [], harness := (true, "6e5e7f998a8e4f4536fa0f8c6e14a7196919a8456a25a8eaccdeecd605bae1b2"), looks := true }, kinds := [], alts := [], laidByText := true, laidKinds := [.data, .data, .data, .data, .sentinel, .sentinel, .data, .pinned], laidTests := true, laidLooks := .later }
def DepBackUptoCardSaid : Prop := Claim7.holds Tryd.pinned (.plain (OpenSpec.upto depBackSpec)) depBackUptoCard

/-- THE SECOND FORM's CARD OF 'chandlerylaw06.DepParts'. -/
def depPartsUptoCard : Claim7 := { stood := { row := depPartsUptoRow, standIns := [], harness := (true, "6e5e7f998a8e4f4536fa0f8c6e14a7196919a8456a25a8eaccdeecd605bae1b2"), looks := true }, kinds := [], alts := [], laidByText := true, laidKinds := [.data, .data, .data, .data, .sentinel, .sentinel, .data, .pinned], laidTests := true, laidLooks := .later }
def DepPartsUptoCardSaid : Prop := Claim7.holds Tryd.pinned (.plain (OpenSpec.upto depPartsSpec)) depPartsUptoCard

/-- THE SECOND FORM's CARD OF 'chandlerylaw06.DepSpace'. -/
def depSpaceUptoCard : Claim7 := { stood := { row := depSpaceUptoRow, standIns := [], harness := (true, "6e5e7f998a8e4f4536fa0f8c6e14a7196919a8456a25a8eaccdeecd605bae1b2"), looks := true }, kinds := [], alts := [], laidByText := true, laidKinds := [.data, .data, .data, .data, .sentinel, .sentinel, .data, .pinned], laidTests := true, laidLooks := .later }
def DepSpaceUptoCardSaid : Prop := Claim7.holds Tryd.pinned (.plain (OpenSpec.upto depSpaceSpec)) depSpaceUptoCard
end Rows
end Go.Proofs.YtncononmlgmabaaDoor
