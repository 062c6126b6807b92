/-
  DERIVED. GIVEN WITH THE SEED: THE CARDS: each row of YtncononmlgmabaaGreatDoorRows.lean that lists a variable, with what it lists TIED to the program's text (the seventh form; the later family's looks); each row that meets fmt, with fmt's text TOLD by the authors' own Lean function (tested against real Go, not proved from fmt's source: count such statements apart). THE CARD IS WHAT COUNTS. Prove the row's statement (the work); the ties are given (YtncononmlgmabaaGreatDoorTie.lean); close each card by the builder's one call (the guide's Derived/Test/ToyasCard.lean, 'card_holds'). Laid BY PROGRAM, IN A SANDBOX (cutbox-door.mjs). By AI agents, Wed Nov 11 2026. No macro, syntax, notation, axiom, sorry.
-/
import Derived.Test.YtncononmlgmabaaGreatDoorRows
import GoSem.ClaimSeven
namespace Go.Proofs.YtncononmlgmabaaGreatDoor
namespace Rows

/-- THE TIED CARD OF 'chandlerylaw06.DepTells'. -/
def depTellsCard : Claim7 := { stood := { row := depTellsRow, standIns := [], harness := (true, "f9e9618d0261d698633b5644603def1dbf4ad9ce22f80bc34a375cb8bba0e0a6"), looks := true }, kinds := [], alts := [], laidByText := true, laidKinds := [.data, .data, .data, .data, .sentinel, .sentinel, .data, .pinned], laidTests := true, laidLooks := .later }
def DepTellsCardSaid : Prop := Claim7.holds Tryz.pinned (.plain (OpenSpec.ofChange depTellsSpec)) depTellsCard

/-- THE SECOND FORM's CARD OF 'chandlerylaw06.DepTells'. -/
def depTellsUptoCard : Claim7 := { stood := { row := depTellsUptoRow, standIns := [], harness := (true, "f9e9618d0261d698633b5644603def1dbf4ad9ce22f80bc34a375cb8bba0e0a6"), looks := true }, kinds := [], alts := [], laidByText := true, laidKinds := [.data, .data, .data, .data, .sentinel, .sentinel, .data, .pinned], laidTests := true, laidLooks := .later }
def DepTellsUptoCardSaid : Prop := Claim7.holds Tryz.pinned (.plain (OpenSpec.upto depTellsSpec)) depTellsUptoCard
end Rows
end Go.Proofs.YtncononmlgmabaaGreatDoor
