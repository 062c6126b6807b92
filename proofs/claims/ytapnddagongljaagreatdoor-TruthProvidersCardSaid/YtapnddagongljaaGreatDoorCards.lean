/-
  DERIVED. GIVEN WITH THE SEED: THE CARDS: each row of YtapnddagongljaaGreatDoorRows.lean that lists a variable, with what it lists TIED to the program's text (the seventh form; the later family's looks); each row that meets fmt, with fmt's text TOLD by the authors' own Lean function (tested against real Go, not proved from fmt's source: count such statements apart). THE CARD IS WHAT COUNTS. Prove the row's statement (the work); the ties are given (YtapnddagongljaaGreatDoorTie.lean); close each card by the builder's one call (the guide's Derived/Test/ToyasCard.lean, 'card_holds'). Laid BY PROGRAM, IN A SANDBOX (cutbox-door.mjs). By AI agents, Wed Nov 11 2026. No macro, syntax, notation, axiom, sorry.
-/
import Derived.Test.YtapnddagongljaaGreatDoorRows
import GoSem.ClaimSeven
namespace Go.Proofs.YtapnddagongljaaGreatDoor
namespace Rows

/-- THE TIED CARD OF 'chandlerylaw14.TruthTells'. -/
def truthTellsCard : Claim7 := { stood := { row := truthTellsRow, standIns := [], harness := (true, "d56c9a55bcc3c6452d86a2d325e215ade2635d736c4ca3a4594be3d1abc66388"), looks := false }, kinds := [], alts := [], laidByText := true, laidKinds := [.data, .data, .data, .data, .data, .data, .pinned], laidTests := true, laidLooks := .later }
def TruthTellsCardSaid : Prop := Claim7.holds Tryz.pinned (.plain (OpenSpec.ofChange truthTellsSpec)) truthTellsCard

/-- THE TIED CARD OF 'chandlerylaw14.TruthNames'. -/
def truthNamesCard : Claim7 := { stood := { row := truthNamesRow, standIns := [], harness := (true, "d56c9a55bcc3c6452d86a2d325e215ade2635d736c4ca3a4594be3d1abc66388"), looks := false }, kinds := [], alts := [], laidByText := true, laidKinds := [.data, .data, .data, .data, .data, .data, .pinned], laidTests := true, laidLooks := .later }
def TruthNamesCardSaid : Prop := Claim7.holds Tryz.pinned (.plain (OpenSpec.ofChange truthNamesSpec)) truthNamesCard

/-- THE TIED CARD OF 'chandlerylaw14.TruthMore'. -/
def truthMoreCard : Claim7 := { stood := { row := truthMoreRow, standIns := [], harness := (true, "d56c9a55bcc3c6452d86a2d325e215ade2635d736c4ca3a4594be3d1abc66388"), looks := false }, kinds := [], alts := [], laidByText := true, laidKinds := [.data, .data, .data, .data, .data, .data, .pinned], laidTests := true, laidLooks := .later }
def TruthMoreCardSaid : Prop := Claim7.holds Tryz.pinned (.plain (OpenSpec.ofChange truthMoreSpec)) truthMoreCard

/-- THE TIED CARD OF 'chandlerylaw14.TruthTurned'. -/
def truthTurnedCard : Claim7 := { stood := { row := truthTurnedRow, standIns := [], harness := (true, "d56c9a55bcc3c6452d86a2d325e215ade2635d736c4ca3a4594be3d1abc66388"), looks := false }, kinds := [], alts := [], laidByText := true, laidKinds := [.data, .data, .data, .data, .data, .data, .pinned], laidTests := true, laidLooks := .later }
def TruthTurnedCardSaid : Prop := Claim7.holds Tryz.pinned (.plain (OpenSpec.ofChange truthTurnedSpec)) truthTurnedCard

/-- THE TIED CARD OF 'chandlerylaw14.TruthOne'. -/
def truthOneCard : Claim7 := { stood := { row := truthOneRow, standIns := [], harness := (true, "d56c9a55bcc3c6452d86a2d325e215ade2635d736c4ca3a4594be3d1abc66388"), looks := false }, kinds := [], alts := [], laidByText := true, laidKinds := [.data, .data, .data, .data, .data, .data, .pinned], laidTests := true, laidLooks := .later }
def TruthOneCardSaid : Prop := Claim7.holds Tryz.pinned (.plain (OpenSpec.ofChange truthOneSpec)) truthOneCard

/-- THE TIED CARD OF 'chandlerylaw14.TruthProviders'. -/
def truthProvidersCard : Claim7 := { stood := { row := truthProvidersRow, standIns := [], harness := (true, "d56c9a55bcc3c6452d86a2d325e215ade2635d736c4ca3a4594be3d1abc66388"), looks := false }, kinds := [], alts := [], laidByText := true, laidKinds := [.data, .data, .data, .data, .data, .data, .pinned], laidTests := true, laidLooks := .later }
def TruthProvidersCardSaid : Prop := Claim7.holds Tryz.pinned (.plain (OpenSpec.ofChange truthProvidersSpec)) truthProvidersCard

/-- THE SECOND FORM's CARD OF 'chandlerylaw14.TruthTells'. -/
def truthTellsUptoCard : Claim7 := { stood := { row := truthTellsUptoRow, standIns := [], harness := (true, "d56c9a55bcc3c6452d86a2d325e215ade2635d736c4ca3a4594be3d1abc66388"), looks := false }, kinds := [], alts := [], laidByText := true, laidKinds := [.data, .data, .data, .data, .data, .data, .pinned], laidTests := true, laidLooks := .later }
def TruthTellsUptoCardSaid : Prop := Claim7.holds Tryz.pinned (.plain (OpenSpec.upto truthTellsSpec)) truthTellsUptoCard

/-- THE SECOND FORM's CARD OF 'chandlerylaw14.TruthNames'. -/
def truthNamesUptoCard : Claim7 := { stood := { row := truthNamesUptoRow, standIns := [], harness := (true, "d56c9a55bcc3c6452d86a2d325e215ade2635d736c4ca3a4594be3d1abc66388"), looks := false }, kinds := [], alts := [], laidByText := true, laidKinds := [.data, .data, .data, .data, .data, .data, .pinned], laidTests := true, laidLooks := .later }
def TruthNamesUptoCardSaid : Prop := Claim7.holds Tryz.pinned (.plain (OpenSpec.upto truthNamesSpec)) truthNamesUptoCard

/-- THE SECOND FORM's CARD OF 'chandlerylaw14.TruthMore'. -/
def truthMoreUptoCard : Claim7 := { stood := { row := truthMoreUptoRow, standIns := [], harness := (true, "d56c9a55bcc3c6452d86a2d325e215ade2635d736c4ca3a4594be3d1abc66388"), looks := false }, kinds := [], alts := [], laidByText := true, laidKinds := [.data, .data, .data, .data, .data, .data, .pinned], laidTests := true, laidLooks := .later }
def TruthMoreUptoCardSaid : Prop := Claim7.holds Tryz.pinned (.plain (OpenSpec.upto truthMoreSpec)) truthMoreUptoCard

/-- THE SECOND FORM's CARD OF 'chandlerylaw14.TruthTurned'. -/
def truthTurnedUptoCard : Claim7 := { stood := { row := truthTurnedUptoRow, standIns := [], harness := (true, "d56c9a55bcc3c6452d86a2d325e215ade2635d736c4ca3a4594be3d1abc66388"), looks := false }, kinds := [], alts := [], laidByText := true, laidKinds := [.data, .data, .data, .data, .data, .data, .pinned], laidTests := true, laidLooks := .later }
def TruthTurnedUptoCardSaid : Prop := Claim7.holds Tryz.pinned (.plain (OpenSpec.upto truthTurnedSpec)) truthTurnedUptoCard

/-- THE SECOND FORM's CARD OF 'chandlerylaw14.TruthOne'. -/
def truthOneUptoCard : Claim7 := { stood := { row := truthOneUptoRow, standIns := [], harness := (true, "d56c9a55bcc3c6452d86a2d325e215ade2635d736c4ca3a4594be3d1abc66388"), looks := false }, kinds := [], alts := [], laidByText := true, laidKinds := [.data, .data, .data, .data, .data, .data, .pinned], laidTests := true, laidLooks := .later }
def TruthOneUptoCardSaid : Prop := Claim7.holds Tryz.pinned (.plain (OpenSpec.upto truthOneSpec)) truthOneUptoCard

/-- THE SECOND FORM's CARD OF 'chandlerylaw14.TruthProviders'. -/
def truthProvidersUptoCard : Claim7 := { stood := { row := truthProvidersUptoRow, standIns := [], harness := (true, "d56c9a55bcc3c6452d86a2d325e215ade2635d736c4ca3a4594be3d1abc66388"), looks := false }, kinds := [], alts := [], laidByText := true, laidKinds := [.data, .data, .data, .data, .data, .data, .pinned], laidTests := true, laidLooks := .later }
def TruthProvidersUptoCardSaid : Prop := Claim7.holds Tryz.pinned (.plain (OpenSpec.upto truthProvidersSpec)) truthProvidersUptoCard
end Rows
end Go.Proofs.YtapnddagongljaaGreatDoor
