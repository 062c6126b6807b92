/-
  DERIVED. GIVEN WITH THE SEED: THE CARDS: each row of YtnfhpecllidgoaaGreatDoorRows.lean that lists a variable, with what it lists TIED to the program's text (the seventh form; the later family's looks); each row that meets fmt, with fmt's text TOLD by the authors' own Lean function (tested against real Go, not proved from fmt's source: count such statements apart). THE CARD IS WHAT COUNTS. Prove the row's statement (the work); the ties are given (YtnfhpecllidgoaaGreatDoorTie.lean); close each card by the builder's one call (the guide's Derived/Test/ToyasCard.lean, 'card_holds'). Laid BY PROGRAM, IN A SANDBOX (cutbox-door.mjs). By AI agents, Wed Nov 11 2026. No macro, syntax, notation, axiom, sorry.
-/
import Derived.Test.YtnfhpecllidgoaaGreatDoorRows
import GoSem.ClaimSeven
namespace Go.Proofs.YtnfhpecllidgoaaGreatDoor
namespace Rows

/-- THE TIED CARD OF 'chandlerylaw15.AskNames'. -/
def askNamesCard : Claim7 := { stood := { row := askNamesRow, standIns := [], harness := (true, "b44752f20361a95489b438dc22d6d4d24040194fa6dfdebc7881f3fc3c5fa752"), looks := false }, kinds := [], alts := [], laidByText := true, laidKinds := [.data, .data, .data, .data, .data, .pinned], laidTests := true, laidLooks := .later }
def AskNamesCardSaid : Prop := Claim7.holds Tryz.pinned (.plain (OpenSpec.ofChange askNamesSpec)) askNamesCard

/-- THE TIED CARD OF 'chandlerylaw15.AskItself'. -/
def askItselfCard : Claim7 := { stood := { row := askItselfRow, standIns := [], harness := (true, "b44752f20361a95489b438dc22d6d4d24040194fa6dfdebc7881f3fc3c5fa752"), looks := false }, kinds := [], alts := [], laidByText := true, laidKinds := [.data, .data, .data, .data, .data, .pinned], laidTests := true, laidLooks := .later }
def AskItselfCardSaid : Prop := Claim7.holds Tryz.pinned (.plain (OpenSpec.ofChange askItselfSpec)) askItselfCard

/-- THE TIED CARD OF 'chandlerylaw15.AskEdits'. -/
def askEditsCard : Claim7 := { stood := { row := askEditsRow, standIns := [], harness := (true, "b44752f20361a95489b438dc22d6d4d24040194fa6dfdebc7881f3fc3c5fa752"), looks := false }, kinds := [], alts := [], laidByText := true, laidKinds := [.data, .data, .data, .data, .pinned], laidTests := true, laidLooks := .later }
def AskEditsCardSaid : Prop := Claim7.holds Tryz.pinned (.plain (OpenSpec.ofChange askEditsSpec)) askEditsCard

/-- THE TIED CARD OF 'chandlerylaw15.AskStates'. -/
def askStatesCard : Claim7 := { stood := { row := askStatesRow, standIns := [], harness := (true, "b44752f20361a95489b438dc22d6d4d24040194fa6dfdebc7881f3fc3c5fa752"), looks := false }, kinds := [], alts := [], laidByText := true, laidKinds := [.data, .data, .data, .data, .data, .pinned], laidTests := true, laidLooks := .later }
def AskStatesCardSaid : Prop := Claim7.holds Tryz.pinned (.plain (OpenSpec.ofChange askStatesSpec)) askStatesCard

/-- THE SECOND FORM's CARD OF 'chandlerylaw15.AskNames'. -/
def askNamesUptoCard : Claim7 := { stood := { row := askNamesUptoRow, standIns := [], harness := (true, "b44752f20361a95489b438dc22d6d4d24040194fa6dfdebc7881f3fc3c5fa752"), looks := false }, kinds := [], alts := [], laidByText := true, laidKinds := [.data, .data, .data, .data, .data, .pinned], laidTests := true, laidLooks := .later }
def AskNamesUptoCardSaid : Prop := Claim7.holds Tryz.pinned (.plain (OpenSpec.upto askNamesSpec)) askNamesUptoCard

/-- THE SECOND FORM's CARD OF 'chandlerylaw15.AskItself'. -/
def askItselfUptoCard : Claim7 := { stood := { row := askItselfUptoRow, standIns := [], harness := (true, "b44752f20361a95489b438dc22d6d4d24040194fa6dfdebc7881f3fc3c5fa752"), looks := false }, kinds := [], alts := [], laidByText := true, laidKinds := [.data, .data, .data, .data, .data, .pinned], laidTests := true, laidLooks := .later }
def AskItselfUptoCardSaid : Prop := Claim7.holds Tryz.pinned (.plain (OpenSpec.upto askItselfSpec)) askItselfUptoCard

/-- THE SECOND FORM's CARD OF 'chandlerylaw15.AskEdits'. -/
def askEditsUptoCard : Claim7 := { stood := { row := askEditsUptoRow, standIns := [], harness := (true, "b44752f20361a95489b438dc22d6d4d24040194fa6dfdebc7881f3fc3c5fa752"), looks := false }, kinds := [], alts := [], laidByText := true, laidKinds := [.data, .data, .data, .data, .pinned], laidTests := true, laidLooks := .later }
def AskEditsUptoCardSaid : Prop := Claim7.holds Tryz.pinned (.plain (OpenSpec.upto askEditsSpec)) askEditsUptoCard

/-- THE SECOND FORM's CARD OF 'chandlerylaw15.AskStates'. -/
def askStatesUptoCard : Claim7 := { stood := { row := askStatesUptoRow, standIns := [], harness := (true, "b44752f20361a95489b438dc22d6d4d24040194fa6dfdebc7881f3fc3c5fa752"), looks := false }, kinds := [], alts := [], laidByText := true, laidKinds := [.data, .data, .data, .data, .data, .pinned], laidTests := true, laidLooks := .later }
def AskStatesUptoCardSaid : Prop := Claim7.holds Tryz.pinned (.plain (OpenSpec.upto askStatesSpec)) askStatesUptoCard
end Rows
end Go.Proofs.YtnfhpecllidgoaaGreatDoor
