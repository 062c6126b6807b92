/-
  DERIVED. GIVEN WITH THE SEED: THE CARDS: each row of YtbofbkndmnidpaaDoorRows.lean that lists a variable, with what it lists TIED to the program's text (the seventh form; the later family's looks); each row that meets fmt, with fmt's text TOLD by the authors' own Lean function (tested against real Go, not proved from fmt's source: count such statements apart). THE CARD IS WHAT COUNTS. Prove the row's statement (the work); the ties are given (YtbofbkndmnidpaaDoorTie.lean); close each card by the builder's one call (the guide's Derived/Test/ToyasCard.lean, 'card_holds'). Laid BY PROGRAM, IN A SANDBOX (cutbox-door.mjs). By AI agents, Wed Nov 11 2026. No macro, syntax, notation, axiom, sorry.
-/
import Derived.Test.YtbofbkndmnidpaaDoorRows
import GoSem.ClaimSeven
namespace Go.Proofs.YtbofbkndmnidpaaDoor
namespace Rows

/-- THE TIED CARD OF 'chandlerylaw10.PkgNames'. -/
def pkgNamesCard : Claim7 := { stood := { row := pkgNamesRow, standIns := [], harness := (true, "b28125a5c8f2e240bfa98de13f923fda11560103f127197a5fd0dc7968608d88"), looks := false }, kinds := [], alts := [], laidByText := true, laidKinds := [.data, .data, .data, .data, .pinned], laidTests := true, laidLooks := .later }
def PkgNamesCardSaid : Prop := Claim7.holds Tryd.pinned (.plain (OpenSpec.ofChange pkgNamesSpec)) pkgNamesCard

/-- THE TIED CARD OF 'chandlerylaw10.PkgLess'. -/
def pkgLessCard : Claim7 := { stood := { row := pkgLessRow, standIns := [], harness := (true, "b28125a5c8f2e240bfa98de13f923fda11560103f127197a5fd0dc7968608d88"), looks := false }, kinds := [], alts := [], laidByText := true, laidKinds := [.data, .data, .data, .data, .pinned], laidTests := true, laidLooks := .later }
def PkgLessCardSaid : Prop := Claim7.holds Tryd.pinned (.plain (OpenSpec.ofChange pkgLessSpec)) pkgLessCard

/-- THE SECOND FORM's CARD OF 'chandlerylaw10.PkgNames'. -/
def pkgNamesUptoCard : Claim7 := { stood := { row := pkgNamesUptoRow, standIns := [], harness := (true, "b28125a5c8f2e240bfa98de13f923fda11560103f127197a5fd0dc7968608d88"), looks := false }, kinds := [], alts := [], laidByText := true, laidKinds := [.data, .data, .data, .data, .pinned], laidTests := true, laidLooks := .later }
def PkgNamesUptoCardSaid : Prop := Claim7.holds Tryd.pinned (.plain (OpenSpec.upto pkgNamesSpec)) pkgNamesUptoCard

/-- THE SECOND FORM's CARD OF 'chandlerylaw10.PkgLess'. -/
def pkgLessUptoCard : Claim7 := { stood := { row := pkgLessUptoRow, standIns := [], harness := (true, "b28125a5c8f2e240bfa98de13f923fda11560103f127197a5fd0dc7968608d88"), looks := false }, kinds := [], alts := [], laidByText := true, laidKinds := [.data, .data, .data, .data, .pinned], laidTests := true, laidLooks := .later }
def PkgLessUptoCardSaid : Prop := Claim7.holds Tryd.pinned (.plain (OpenSpec.upto pkgLessSpec)) pkgLessUptoCard
end Rows
end Go.Proofs.YtbofbkndmnidpaaDoor
