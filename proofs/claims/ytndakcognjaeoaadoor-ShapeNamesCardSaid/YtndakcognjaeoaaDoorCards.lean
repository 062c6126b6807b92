/-
  DERIVED. GIVEN WITH THE SEED: THE CARDS: each row of YtndakcognjaeoaaDoorRows.lean that lists a variable, with what it lists TIED to the program's text (the seventh form; the later family's looks); each row that meets fmt, with fmt's text TOLD by the authors' own Lean function (tested against real Go, not proved from fmt's source: count such statements apart). THE CARD IS WHAT COUNTS. Prove the row's statement (the work); the ties are given (YtndakcognjaeoaaDoorTie.lean); close each card by the builder's one call (the guide's Derived/Test/ToyasCard.lean, 'card_holds'). Laid BY PROGRAM, IN A SANDBOX (cutbox-door.mjs). By AI agents, Wed Nov 11 2026. No macro, syntax, notation, axiom, sorry.
-/
import Derived.Test.YtndakcognjaeoaaDoorRows
import GoSem.ClaimSeven
namespace Go.Proofs.YtndakcognjaeoaaDoor
namespace Rows

/-- THE TIED CARD OF 'chandlerylaw09.ShapeNames'. -/
def shapeNamesCard : Claim7 := { stood := { row := shapeNamesRow, standIns := [], harness := (true, "58ef0ebf58130c79f00fc7c4c076738e10842adc308e1aebd8ad3284d4ee3025"), looks := false }, kinds := [], alts := [], laidByText := true, laidKinds := [.data, .data], laidTests := true, laidLooks := .later }
def ShapeNamesCardSaid : Prop := Claim7.holds Tryd.pinned (.plain (OpenSpec.ofChange shapeNamesSpec)) shapeNamesCard

/-- THE TIED CARD OF 'chandlerylaw09.ShapeTells'. -/
def shapeTellsCard : Claim7 := { stood := { row := shapeTellsRow, standIns := [], harness := (true, "58ef0ebf58130c79f00fc7c4c076738e10842adc308e1aebd8ad3284d4ee3025"), looks := false }, kinds := [], alts := [], laidByText := true, laidKinds := [.data, .data], laidTests := true, laidLooks := .later }
def ShapeTellsCardSaid : Prop := Claim7.holds Tryd.pinned (.plain (OpenSpec.ofChange shapeTellsSpec)) shapeTellsCard

/-- THE TIED CARD OF 'chandlerylaw09.ShapePlaces'. -/
def shapePlacesCard : Claim7 := { stood := { row := shapePlacesRow, standIns := [], harness := (true, "58ef0ebf58130c79f00fc7c4c076738e10842adc308e1aebd8ad3284d4ee3025"), looks := false }, kinds := [], alts := [], laidByText := true, laidKinds := [.data, .data], laidTests := true, laidLooks := .later }
def ShapePlacesCardSaid : Prop := Claim7.holds Tryd.pinned (.plain (OpenSpec.ofChange shapePlacesSpec)) shapePlacesCard

/-- THE TIED CARD OF 'chandlerylaw09.ShapeJoined'. -/
def shapeJoinedCard : Claim7 := { stood := { row := shapeJoinedRow, standIns := [], harness := (true, "58ef0ebf58130c79f00fc7c4c076738e10842adc308e1aebd8ad3284d4ee3025"), looks := false }, kinds := [], alts := [], laidByText := true, laidKinds := [.data, .data], laidTests := true, laidLooks := .later }
def ShapeJoinedCardSaid : Prop := Claim7.holds Tryd.pinned (.plain (OpenSpec.ofChange shapeJoinedSpec)) shapeJoinedCard

/-- THE TIED CARD OF 'chandlerylaw09.ShapeCounted'. -/
def shapeCountedCard : Claim7 := { stood := { row := shapeCountedRow, standIns := [], harness := (true, "58ef0ebf58130c79f00fc7c4c076738e10842adc308e1aebd8ad3284d4ee3025"), looks := false }, kinds := [], alts := [], laidByText := true, laidKinds := [.data, .data], laidTests := true, laidLooks := .later }
def ShapeCountedCardSaid : Prop := Claim7.holds Tryd.pinned (.plain (OpenSpec.ofChange shapeCountedSpec)) shapeCountedCard

/-- THE TIED CARD OF 'chandlerylaw09.ShapeAlike'. -/
def shapeAlikeCard : Claim7 := { stood := { row := shapeAlikeRow, standIns := [], harness := (true, "58ef0ebf58130c79f00fc7c4c076738e10842adc308e1aebd8ad3284d4ee3025"), looks := false }, kinds := [], alts := [], laidByText := true, laidKinds := [.data, .data], laidTests := true, laidLooks := .later }
def ShapeAlikeCardSaid : Prop := Claim7.holds Tryd.pinned (.plain (OpenSpec.ofChange shapeAlikeSpec)) shapeAlikeCard

/-- THE TIED CARD OF 'chandlerylaw10.PkgNames'. -/
def pkgNamesCard : Claim7 := { stood := { row := pkgNamesRow, standIns := [], harness := (true, "58ef0ebf58130c79f00fc7c4c076738e10842adc308e1aebd8ad3284d4ee3025"), looks := false }, kinds := [], alts := [], laidByText := true, laidKinds := [.data, .data, .data, .data, .pinned], laidTests := true, laidLooks := .later }
def PkgNamesCardSaid : Prop := Claim7.holds Tryd.pinned (.plain (OpenSpec.ofChange pkgNamesSpec)) pkgNamesCard

/-- THE TIED CARD OF 'chandlerylaw10.PkgItself'. -/
def pkgItselfCard : Claim7 := { stood := { row := pkgItselfRow, standIns := [], harness := (true, "58ef0ebf58130c79f00fc7c4c076738e10842adc308e1aebd8ad3284d4ee3025"), looks := false }, kinds := [], alts := [], laidByText := true, laidKinds := [.data, .data, .data, .data, .pinned], laidTests := true, laidLooks := .later }
def PkgItselfCardSaid : Prop := Claim7.holds Tryd.pinned (.plain (OpenSpec.ofChange pkgItselfSpec)) pkgItselfCard

/-- THE TIED CARD OF 'chandlerylaw10.PkgLess'. -/
def pkgLessCard : Claim7 := { stood := { row := pkgLessRow, standIns := [], harness := (true, "58ef0ebf58130c79f00fc7c4c076738e10842adc308e1aebd8ad3284d4ee3025"), looks := false }, kinds := [], alts := [], laidByText := true, laidKinds := [.data, .data, .data, .data, .pinned], laidTests := true, laidLooks := .later }
def PkgLessCardSaid : Prop := Claim7.holds Tryd.pinned (.plain (OpenSpec.ofChange pkgLessSpec)) pkgLessCard

/-- THE TIED CARD OF 'chandlerylaw10.PkgByName'. -/
def pkgByNameCard : Claim7 := { stood := { row := pkgByNameRow, standIns := [], harness := (true, "58ef0ebf58130c79f00fc7c4c076738e10842adc308e1aebd8ad3284d4ee3025"), looks := false }, kinds := [], alts := [], laidByText := true, laidKinds := [.data, .data, .data, .data, .pinned], laidTests := true, laidLooks := .later }
def PkgByNameCardSaid : Prop := Claim7.holds Tryd.pinned (.plain (OpenSpec.ofChange pkgByNameSpec)) pkgByNameCard

/-- THE SECOND FORM's CARD OF 'chandlerylaw09.ShapeNames'. -/
def shapeNamesUptoCard : Claim7 := { stood := { row := shapeNamesUptoRow, standIns := [], harness := (true, "58ef0ebf58130c79f00fc7c4c076738e10842adc308e1aebd8ad3284d4ee3025"), looks := false }, kinds := [], alts := [], laidByText := true, laidKinds := [.data, .data], laidTests := true, laidLooks := .later }
def ShapeNamesUptoCardSaid : Prop := Claim7.holds Tryd.pinned (.plain (OpenSpec.upto shapeNamesSpec)) shapeNamesUptoCard

/-- THE SECOND FORM's CARD OF 'chandlerylaw09.ShapeTells'. -/
def shapeTellsUptoCard : Claim7 := { stood := { row := shapeTellsUptoRow, standIns := [], harness := (true, "58ef0ebf58130c79f00fc7c4c076738e10842adc308e1aebd8ad3284d4ee3025"), looks := false }, kinds := [], alts := [], laidByText := true, laidKinds := [.data, .data], laidTests := true, laidLooks := .later }
def ShapeTellsUptoCardSaid : Prop := Claim7.holds Tryd.pinned (.plain (OpenSpec.upto shapeTellsSpec)) shapeTellsUptoCard

/-- THE SECOND FORM's CARD OF 'chandlerylaw09.ShapePlaces'. -/
def shapePlacesUptoCard : Claim7 := { stood := { row := shapePlacesUptoRow, standIns := [], harness := (true, "58ef0ebf58130c79f00fc7c4c076738e10842adc308e1aebd8ad3284d4ee3025"), looks := false }, kinds := [], alts := [], laidByText := true, laidKinds := [.data, .data], laidTests := true, laidLooks := .later }
def ShapePlacesUptoCardSaid : Prop := Claim7.holds Tryd.pinned (.plain (OpenSpec.upto shapePlacesSpec)) shapePlacesUptoCard

/-- THE SECOND FORM's CARD OF 'chandlerylaw09.ShapeJoined'. -/
def shapeJoinedUptoCard : Claim7 := { stood := { row := shapeJoinedUptoRow, standIns := [], harness := (true, "58ef0ebf58130c79f00fc7c4c076738e10842adc308e1aebd8ad3284d4ee3025"), looks := false }, kinds := [], alts := [], laidByText := true, laidKinds := [.data, .data], laidTests := true, laidLooks := .later }
def ShapeJoinedUptoCardSaid : Prop := Claim7.holds Tryd.pinned (.plain (OpenSpec.upto shapeJoinedSpec)) shapeJoinedUptoCard

/-- THE SECOND FORM's CARD OF 'chandlerylaw09.ShapeCounted'. -/
def shapeCountedUptoCard : Claim7 := { stood := { row := shapeCountedUptoRow, standIns := [], harness := (true, "58ef0ebf58130c79f00fc7c4c076738e10842adc308e1aebd8ad3284d4ee3025"), looks := false }, kinds := [], alts := [], laidByText := true, laidKinds := [.data, .data], laidTests := true, laidLooks := .later }
def ShapeCountedUptoCardSaid : Prop := Claim7.holds Tryd.pinned (.plain (OpenSpec.upto shapeCountedSpec)) shapeCountedUptoCard

/-- THE SECOND FORM's CARD OF 'chandlerylaw09.ShapeAlike'. -/
def shapeAlikeUptoCard : Claim7 := { stood := { row := shapeAlikeUptoRow, standIns := [], harness := (true, "58ef0ebf58130c79f00fc7c4c076738e10842adc308e1aebd8ad3284d4ee3025"), looks := false }, kinds := [], alts := [], laidByText := true, laidKinds := [.data, .data], laidTests := true, laidLooks := .later }
def ShapeAlikeUptoCardSaid : Prop := Claim7.holds Tryd.pinned (.plain (OpenSpec.upto shapeAlikeSpec)) shapeAlikeUptoCard

/-- THE SECOND FORM's CARD OF 'chandlerylaw10.PkgNames'. -/
def pkgNamesUptoCard : Claim7 := { stood := { row := pkgNamesUptoRow, standIns := [], harness := (true, "58ef0ebf58130c79f00fc7c4c076738e10842adc308e1aebd8ad3284d4ee3025"), looks := false }, kinds := [], alts := [], laidByText := true, laidKinds := [.data, .data, .data, .data, .pinned], laidTests := true, laidLooks := .later }
def PkgNamesUptoCardSaid : Prop := Claim7.holds Tryd.pinned (.plain (OpenSpec.upto pkgNamesSpec)) pkgNamesUptoCard

/-- THE SECOND FORM's CARD OF 'chandlerylaw10.PkgItself'. -/
def pkgItselfUptoCard : Claim7 := { stood := { row := pkgItselfUptoRow, standIns := [], harness := (true, "58ef0ebf58130c79f00fc7c4c076738e10842adc308e1aebd8ad3284d4ee3025"), looks := false }, kinds := [], alts := [], laidByText := true, laidKinds := [.data, .data, .data, .data, .pinned], laidTests := true, laidLooks := .later }
def PkgItselfUptoCardSaid : Prop := Claim7.holds Tryd.pinned (.plain (OpenSpec.upto pkgItselfSpec)) pkgItselfUptoCard

/-- THE SECOND FORM's CARD OF 'chandlerylaw10.PkgLess'. -/
def pkgLessUptoCard : Claim7 := { stood := { row := pkgLessUptoRow, standIns := [], harness := (true, "58ef0ebf58130c79f00fc7c4c076738e10842adc308e1aebd8ad3284d4ee3025"), looks := false }, kinds := [], alts := [], laidByText := true, laidKinds := [.data, .data, .data, .data, .pinned], laidTests := true, laidLooks := .later }
def PkgLessUptoCardSaid : Prop := Claim7.holds Tryd.pinned (.plain (OpenSpec.upto pkgLessSpec)) pkgLessUptoCard

/-- THE SECOND FORM's CARD OF 'chandlerylaw10.PkgByName'. -/
def pkgByNameUptoCard : Claim7 := { stood := { row := pkgByNameUptoRow, standIns := [], harness := (true, "58ef0ebf58130c79f00fc7c4c076738e10842adc308e1aebd8ad3284d4ee3025"), looks := false }, kinds := [], alts := [], laidByText := true, laidKinds := [.data, .data, .data, .data, .pinned], laidTests := true, laidLooks := .later }
def PkgByNameUptoCardSaid : Prop := Claim7.holds Tryd.pinned (.plain (OpenSpec.upto pkgByNameSpec)) pkgByNameUptoCard
end Rows
end Go.Proofs.YtndakcognjaeoaaDoor
