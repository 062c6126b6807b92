/-
  DERIVED. GIVEN WITH THE SEED: THE CARDS: each row of YtkpkfgmonnlhaaaDoorRows.lean that lists a variable, with what it lists TIED to the program's text (the seventh form; the later family's looks); each row that meets fmt, with fmt's text TOLD by the authors' own Lean function (tested against real Go, not proved from fmt's source: count such statements apart). THE CARD IS WHAT COUNTS. Prove the row's statement (the work); the ties are given (YtkpkfgmonnlhaaaDoorTie.lean); close each card by the builder's one call (the guide's Derived/Test/ToyasCard.lean, 'card_holds'). Laid BY PROGRAM, IN A SANDBOX (cutbox-door.mjs). By AI agents, Wed Nov 11 2026. No macro, syntax, notation, axiom, sorry.
-/
import Derived.Test.YtkpkfgmonnlhaaaDoorRows
import GoSem.ClaimSeven
namespace Go.Proofs.YtkpkfgmonnlhaaaDoor
namespace Rows

/-- THE TIED CARD OF 'chandlerylaw10.PkgNames'. -/
def pkgNamesCard : Claim7 := { stood := { row := pkgNamesRow, standIns := [], harness := (true, "3c41e85a9dd4a2be8432f894008f0caa8b7a49fab232e8191e87ee1a8ee72771"), looks := false }, kinds := [], alts := [], laidByText := true, laidKinds := [.data, .data, .data, .data, .pinned], laidTests := true, laidLooks := .later }
def PkgNamesCardSaid : Prop := Claim7.holds Tryd.pinned (.plain (OpenSpec.ofChange pkgNamesSpec)) pkgNamesCard

/-- THE TIED CARD OF 'chandlerylaw10.PkgItself'. -/
def pkgItselfCard : Claim7 := { stood := { row := pkgItselfRow, standIns := [], harness := (true, "3c41e85a9dd4a2be8432f894008f0caa8b7a49fab232e8191e87ee1a8ee72771"), looks := false }, kinds := [], alts := [], laidByText := true, laidKinds := [.data, .data, .data, .data, .pinned], laidTests := true, laidLooks := .later }
def PkgItselfCardSaid : Prop := Claim7.holds Tryd.pinned (.plain (OpenSpec.ofChange pkgItselfSpec)) pkgItselfCard

/-- THE TIED CARD OF 'chandlerylaw10.PkgLess'. -/
def pkgLessCard : Claim7 := { stood := { row := pkgLessRow, standIns := [], harness := (true, "3c41e85a9dd4a2be8432f894008f0caa8b7a49fab232e8191e87ee1a8ee72771"), looks := false }, kinds := [], alts := [], laidByText := true, laidKinds := [.data, .data, .data, .data, .pinned], laidTests := true, laidLooks := .later }
def PkgLessCardSaid : Prop := Claim7.holds Tryd.pinned (.plain (OpenSpec.ofChange pkgLessSpec)) pkgLessCard

/-- THE TIED CARD OF 'chandlerylaw10.PkgByName'. -/
def pkgByNameCard : Claim7 := { stood := { row := pkgByNameRow, standIns := [], harness := (true, "3c41e85a9dd4a2be8432f894008f0caa8b7a49fab232e8191e87ee1a8ee72771"), looks := false }, kinds := [], alts := [], laidByText := true, laidKinds := [.data, .data, .data, .data, .pinned], laidTests := true, laidLooks := .later }
def PkgByNameCardSaid : Prop := Claim7.holds Tryd.pinned (.plain (OpenSpec.ofChange pkgByNameSpec)) pkgByNameCard

/-- THE SECOND FORM's CARD OF 'chandlerylaw10.PkgNames'. -/
def pkgNamesUptoCard : Claim7 := { stood := { row := pkgNamesUptoRow, standIns := [], harness := (true, "3c41e85a9dd4a2be8432f894008f0caa8b7a49fab232e8191e87ee1a8ee72771"), looks := false }, kinds := [], alts := [], laidByText := true, laidKinds := [.data, .data, .data, .data, .pinned], laidTests := true, laidLooks := .later }
def PkgNamesUptoCardSaid : Prop := Claim7.holds Tryd.pinned (.plain (OpenSpec.upto pkgNamesSpec)) pkgNamesUptoCard

/-- THE SECOND FORM's CARD OF 'chandlerylaw10.PkgItself'. -/
def pkgItselfUptoCard : Claim7 := { stood := { row := pkgItselfUptoRow, standIns := [], harness := (true, "3c41e85a9dd4a2be8432f894008f0caa8b7a49fab232e8191e87ee1a8ee72771"), looks := false }, kinds := [], alts := [], laidByText := true, laidKinds := [.data, .data, .data, .data, .pinned], laidTests := true, laidLooks := .later }
def PkgItselfUptoCardSaid : Prop := Claim7.holds Tryd.pinned (.plain (OpenSpec.upto pkgItselfSpec)) pkgItselfUptoCard

/-- THE SECOND FORM's CARD OF 'chandlerylaw10.PkgLess'. -/
def pkgLessUptoCard : Claim7 := { stood := { row := pkgLessUptoRow, standIns := [], harness := (true, "3c41e85a9dd4a2be8432f894008f0caa8b7a49fab232e8191e87ee1a8ee72771"), looks := false }, kinds := [], alts := [], laidByText := true, laidKinds := [.data, .data, .data, .data, .pinned], laidTests := true, laidLooks := .later }
def PkgLessUptoCardSaid : Prop := Claim7.holds Tryd.pinned (.plain (OpenSpec.upto pkgLessSpec)) pkgLessUptoCard

/-- THE SECOND FORM's CARD OF 'chandlerylaw10.PkgByName'. -/
def pkgByNameUptoCard : Claim7 := { stood := { row := pkgByNameUptoRow, standIns := [], harness := (true, "3c41e85a9dd4a2be8432f894008f0caa8b7a49fab232e8191e87ee1a8ee72771"), looks := false }, kinds := [], alts := [], laidByText := true, laidKinds := [.data, .data, .data, .data, .pinned], laidTests := true, laidLooks := .later }
def PkgByNameUptoCardSaid : Prop := Claim7.holds Tryd.pinned (.plain (OpenSpec.upto pkgByNameSpec)) pkgByNameUptoCard
end Rows
end Go.Proofs.YtkpkfgmonnlhaaaDoor
