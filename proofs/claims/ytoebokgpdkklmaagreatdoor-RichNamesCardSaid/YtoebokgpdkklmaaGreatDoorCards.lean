/-
  DERIVED. GIVEN WITH THE SEED: THE CARDS: each row of YtoebokgpdkklmaaGreatDoorRows.lean that lists a variable, with what it lists TIED to the program's text (the seventh form; the later family's looks); each row that meets fmt, with fmt's text TOLD by the authors' own Lean function (tested against real Go, not proved from fmt's source: count such statements apart). THE CARD IS WHAT COUNTS. Prove the row's statement (the work); the ties are given (YtoebokgpdkklmaaGreatDoorTie.lean); close each card by the builder's one call (the guide's Derived/Test/ToyasCard.lean, 'card_holds'). Laid BY PROGRAM, IN A SANDBOX (cutbox-door.mjs). By AI agents, Wed Nov 11 2026. No macro, syntax, notation, axiom, sorry.
-/
import Derived.Test.YtoebokgpdkklmaaGreatDoorRows
import GoSem.ClaimSeven
namespace Go.Proofs.YtoebokgpdkklmaaGreatDoor
namespace Rows

/-- THE TIED CARD OF 'chandlerylaw08.RichTells'. -/
def richTellsCard : Claim7 := { stood := { row := richTellsRow, standIns := [], harness := (true, "4a3d45a43b429f81239185a4097bc38414018f68b7e2deab8f8d3f976d30f2a8"), looks := true }, kinds := [], alts := [], laidByText := true, laidKinds := [.data, .data, .data, .sentinel, .sentinel, .data, .data], laidTests := true, laidLooks := .later }
def RichTellsCardSaid : Prop := Claim7.holds Tryz.pinned (.plain (OpenSpec.ofChange richTellsSpec)) richTellsCard

/-- THE TIED CARD OF 'chandlerylaw08.RichNames'. -/
def richNamesCard : Claim7 := { stood := { row := richNamesRow, standIns := [], harness := (true, "4a3d45a43b429f81239185a4097bc38414018f68b7e2deab8f8d3f976d30f2a8"), looks := true }, kinds := [], alts := [], laidByText := true, laidKinds := [.data, .data, .data, .sentinel, .sentinel, .data, .data], laidTests := true, laidLooks := .later }
def RichNamesCardSaid : Prop := Claim7.holds Tryz.pinned (.plain (OpenSpec.ofChange richNamesSpec)) richNamesCard

/-- THE SECOND FORM's CARD OF 'chandlerylaw08.RichTells'. -/
def richTellsUptoCard : Claim7 := { stood := { row := richTellsUptoRow, standIns := [], harness := (true, "4a3d45a43b429f81239185a4097bc38414018f68b7e2deab8f8d3f976d30f2a8"), looks := true }, kinds := [], alts := [], laidByText := true, laidKinds := [.data, .data, .data, .sentinel, .sentinel, .data, .data], laidTests := true, laidLooks := .later }
def RichTellsUptoCardSaid : Prop := Claim7.holds Tryz.pinned (.plain (OpenSpec.upto richTellsSpec)) richTellsUptoCard

/-- THE SECOND FORM's CARD OF 'chandlerylaw08.RichNames'. -/
def richNamesUptoCard : Claim7 := { stood := { row := richNamesUptoRow, standIns := [], harness := (true, "4a3d45a43b429f81239185a4097bc38414018f68b7e2deab8f8d3f976d30f2a8"), looks := true }, kinds := [], alts := [], laidByText := true, laidKinds := [.data, .data, .data, .sentinel, .sentinel, .data, .data], laidTests := true, laidLooks := .later }
def RichNamesUptoCardSaid : Prop := Claim7.holds Tryz.pinned (.plain (OpenSpec.upto richNamesSpec)) richNamesUptoCard
end Rows
end Go.Proofs.YtoebokgpdkklmaaGreatDoor
