/-
  DERIVED. GIVEN WITH THE SEED: THE CARDS: each row of YtfhihkgaokhjbaaDoorRows.lean that lists a variable, with what it lists TIED to the program's text (the seventh form; the later family's looks); each row that meets fmt, with fmt's text TOLD by the authors' own Lean function (tested against real Go, not proved from fmt's source: count such statements apart). THE CARD IS WHAT COUNTS. Prove the row's statement (the work); the ties are given (YtfhihkgaokhjbaaDoorTie.lean); close each card by the builder's one call (the guide's Derived/Test/ToyasCard.lean, 'card_holds'). Laid BY PROGRAM, IN A SANDBOX (cutbox-door.mjs). By AI agents, Wed Nov 11 2026. No macro, syntax, notation, axiom, sorry.
-/
import Derived.Test.YtfhihkgaokhjbaaDoorRows
import GoSem.ClaimSeven
namespace Go.Proofs.YtfhihkgaokhjbaaDoor
namespace Rows

/-- THE TIED CARD OF 'chandlerylaw05.ArchNames'. -/
def archNamesCard : Claim7 := { stood := { row := archNamesRow, standIns := [], harness := (true, "53fc68434aebd03ce37b5565ff8296ffc011d7f10d9f7277d8b4113044f27aaf"), looks := false }, kinds := [], alts := [], laidByText := true, laidKinds := [.data, .data], laidTests := true, laidLooks := .later }
def ArchNamesCardSaid : Prop := Claim7.holds Tryd.pinned (.plain (OpenSpec.ofChange archNamesSpec)) archNamesCard

/-- THE TIED CARD OF 'chandlerylaw05.ArchTells'. -/
def archTellsCard : Claim7 := { stood := { row := archTellsRow, standIns := [], harness := (true, "53fc68434aebd03ce37b5565ff8296ffc011d7f10d9f7277d8b4113044f27aaf"), looks := false }, kinds := [], alts := [], laidByText := true, laidKinds := [.data, .data], laidTests := true, laidLooks := .later }
def ArchTellsCardSaid : Prop := Claim7.holds Tryd.pinned (.plain (OpenSpec.ofChange archTellsSpec)) archTellsCard

/-- THE TIED CARD OF 'chandlerylaw05.ArchOwn'. -/
def archOwnCard : Claim7 := { stood := { row := archOwnRow, standIns := [], harness := (true, "53fc68434aebd03ce37b5565ff8296ffc011d7f10d9f7277d8b4113044f27aaf"), looks := false }, kinds := [], alts := [], laidByText := true, laidKinds := [.data, .data], laidTests := true, laidLooks := .later }
def ArchOwnCardSaid : Prop := Claim7.holds Tryd.pinned (.plain (OpenSpec.ofChange archOwnSpec)) archOwnCard

/-- THE TIED CARD OF 'chandlerylaw05.ArchEither'. -/
def archEitherCard : Claim7 := { stood := { row := archEitherRow, standIns := [], harness := (true, "53fc68434aebd03ce37b5565ff8296ffc011d7f10d9f7277d8b4113044f27aaf"), looks := false }, kinds := [], alts := [], laidByText := true, laidKinds := [.data], laidTests := true, laidLooks := .later }
def ArchEitherCardSaid : Prop := Claim7.holds Tryd.pinned (.plain (OpenSpec.ofChange archEitherSpec)) archEitherCard

/-- THE SECOND FORM's CARD OF 'chandlerylaw05.ArchNames'. -/
def archNamesUptoCard : Claim7 := { stood := { row := archNamesUptoRow, standIns := [], harness := (true, "53fc68434aebd03ce37b5565ff8296ffc011d7f10d9f7277d8b4113044f27aaf"), looks := false }, kinds := [], alts := [], laidByText := true, laidKinds := [.data, .data], laidTests := true, laidLooks := .later }
def ArchNamesUptoCardSaid : Prop := Claim7.holds Tryd.pinned (.plain (OpenSpec.upto archNamesSpec)) archNamesUptoCard

/-- THE SECOND FORM's CARD OF 'chandlerylaw05.ArchTells'. -/
def archTellsUptoCard : Claim7 := { stood := { row := archTellsUptoRow, standIns := [], harness := (true, "53fc68434aebd03ce37b5565ff8296ffc011d7f10d9f7277d8b4113044f27aaf"), looks := false }, kinds := [], alts := [], laidByText := true, laidKinds := [.data, .data], laidTests := true, laidLooks := .later }
def ArchTellsUptoCardSaid : Prop := Claim7.holds Tryd.pinned (.plain (OpenSpec.upto archTellsSpec)) archTellsUptoCard

/-- THE SECOND FORM's CARD OF 'chandlerylaw05.ArchOwn'. -/
def archOwnUptoCard : Claim7 := { stood := { row := archOwnUptoRow, standIns := [], harness := (true, "53fc68434aebd03ce37b5565ff8296ffc011d7f10d9f7277d8b4113044f27aaf"), looks := false }, kinds := [], alts := [], laidByText := true, laidKinds := [.data, .data], laidTests := true, laidLooks := .later }
def ArchOwnUptoCardSaid : Prop := Claim7.holds Tryd.pinned (.plain (OpenSpec.upto archOwnSpec)) archOwnUptoCard

/-- THE SECOND FORM's CARD OF 'chandlerylaw05.ArchEither'. -/
def archEitherUptoCard : Claim7 := { stood := { row := archEitherUptoRow, standIns := [], harness := (true, "53fc68434aebd03ce37b5565ff8296ffc011d7f10d9f7277d8b4113044f27aaf"), looks := false }, kinds := [], alts := [], laidByText := true, laidKinds := [.data], laidTests := true, laidLooks := .later }
def ArchEitherUptoCardSaid : Prop := Claim7.holds Tryd.pinned (.plain (OpenSpec.upto archEitherSpec)) archEitherUptoCard
end Rows
end Go.Proofs.YtfhihkgaokhjbaaDoor
