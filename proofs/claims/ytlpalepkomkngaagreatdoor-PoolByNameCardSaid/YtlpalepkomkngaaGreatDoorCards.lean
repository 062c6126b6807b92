/-
  DERIVED. GIVEN WITH THE SEED: THE CARDS: each row of YtlpalepkomkngaaGreatDoorRows.lean that lists a variable, with what it lists TIED to the program's text (the seventh form; the later family's looks); each row that meets fmt, with fmt's text TOLD by the authors' own Lean function (tested against real Go, not proved from fmt's source: count such statements apart). THE CARD IS WHAT COUNTS. Prove the row's statement (the work); the ties are given (YtlpalepkomkngaaGreatDoorTie.lean); close each card by the builder's one call (the guide's Derived/Test/ToyasCard.lean, 'card_holds'). Laid BY PROGRAM, IN A SANDBOX (cutbox-door.mjs). By AI agents, Wed Nov 11 2026. No macro, syntax, notation, axiom, sorry.
-/
import Derived.Test.YtlpalepkomkngaaGreatDoorRows
import GoSem.ClaimSeven
namespace Go.Proofs.YtlpalepkomkngaaGreatDoor
namespace Rows

/-- THE TIED CARD OF 'chandlerylaw10.PkgCopies'. -/
def pkgCopiesCard : Claim7 := { stood := { row := pkgCopiesRow, standIns := [], harness := (true, "e0f2ecccbc5b50051e08e36efca0b29b0db45648728158be3ff78f35060b896e"), looks := false }, kinds := [], alts := [], laidByText := true, laidKinds := [.data, .data, .data, .data, .pinned], laidTests := true, laidLooks := .later }
def PkgCopiesCardSaid : Prop := Claim7.holds Tryz.pinned (.plain (OpenSpec.ofChange pkgCopiesSpec)) pkgCopiesCard

/-- THE TIED CARD OF 'chandlerylaw12.PoolTells'. -/
def poolTellsCard : Claim7 := { stood := { row := poolTellsRow, standIns := [], harness := (true, "e0f2ecccbc5b50051e08e36efca0b29b0db45648728158be3ff78f35060b896e"), looks := false }, kinds := [], alts := [], laidByText := true, laidKinds := [.data, .data, .data, .data, .pinned], laidTests := true, laidLooks := .later }
def PoolTellsCardSaid : Prop := Claim7.holds Tryz.pinned (.plain (OpenSpec.ofChange poolTellsSpec)) poolTellsCard

/-- THE TIED CARD OF 'chandlerylaw12.PoolNames'. -/
def poolNamesCard : Claim7 := { stood := { row := poolNamesRow, standIns := [], harness := (true, "e0f2ecccbc5b50051e08e36efca0b29b0db45648728158be3ff78f35060b896e"), looks := false }, kinds := [], alts := [], laidByText := true, laidKinds := [.data, .data, .data, .data, .pinned], laidTests := true, laidLooks := .later }
def PoolNamesCardSaid : Prop := Claim7.holds Tryz.pinned (.plain (OpenSpec.ofChange poolNamesSpec)) poolNamesCard

/-- THE TIED CARD OF 'chandlerylaw12.PoolByName'. -/
def poolByNameCard : Claim7 := { stood := { row := poolByNameRow, standIns := [], harness := (true, "e0f2ecccbc5b50051e08e36efca0b29b0db45648728158be3ff78f35060b896e"), looks := false }, kinds := [], alts := [], laidByText := true, laidKinds := [.data, .data, .data, .data, .pinned], laidTests := true, laidLooks := .later }
def PoolByNameCardSaid : Prop := Claim7.holds Tryz.pinned (.plain (OpenSpec.ofChange poolByNameSpec)) poolByNameCard

/-- THE TIED CARD OF 'chandlerylaw12.PoolOwn'. -/
def poolOwnCard : Claim7 := { stood := { row := poolOwnRow, standIns := [], harness := (true, "e0f2ecccbc5b50051e08e36efca0b29b0db45648728158be3ff78f35060b896e"), looks := false }, kinds := [], alts := [], laidByText := true, laidKinds := [.data, .data, .data], laidTests := true, laidLooks := .later }
def PoolOwnCardSaid : Prop := Claim7.holds Tryz.pinned (.plain (OpenSpec.ofChange poolOwnSpec)) poolOwnCard

/-- THE SECOND FORM's CARD OF 'chandlerylaw10.PkgCopies'. -/
def pkgCopiesUptoCard : Claim7 := { stood := { row := pkgCopiesUptoRow, standIns := [], harness := (true, "e0f2ecccbc5b50051e08e36efca0b29b0db45648728158be3ff78f35060b896e"), looks := false }, kinds := [], alts := [], laidByText := true, laidKinds := [.data, .data, .data, .data, .pinned], laidTests := true, laidLooks := .later }
def PkgCopiesUptoCardSaid : Prop := Claim7.holds Tryz.pinned (.plain (OpenSpec.upto pkgCopiesSpec)) pkgCopiesUptoCard

/-- THE SECOND FORM's CARD OF 'chandlerylaw12.PoolTells'. -/
def poolTellsUptoCard : Claim7 := { stood := { row := poolTellsUptoRow, standIns := [], harness := (true, "e0f2ecccbc5b50051e08e36efca0b29b0db45648728158be3ff78f35060b896e"), looks := false }, kinds := [], alts := [], laidByText := true, laidKinds := [.data, .data, .data, .data, .pinned], laidTests := true, laidLooks := .later }
def PoolTellsUptoCardSaid : Prop := Claim7.holds Tryz.pinned (.plain (OpenSpec.upto poolTellsSpec)) poolTellsUptoCard

/-- THE SECOND FORM's CARD OF 'chandlerylaw12.PoolNames'. -/
def poolNamesUptoCard : Claim7 := { stood := { row := poolNamesUptoRow, standIns := [], harness := (true, "e0f2ecccbc5b50051e08e36efca0b29b0db45648728158be3ff78f35060b896e"), looks := false }, kinds := [], alts := [], laidByText := true, laidKinds := [.data, .data, .data, .data, .pinned], laidTests := true, laidLooks := .later }
def PoolNamesUptoCardSaid : Prop := Claim7.holds Tryz.pinned (.plain (OpenSpec.upto poolNamesSpec)) poolNamesUptoCard

/-- THE SECOND FORM's CARD OF 'chandlerylaw12.PoolByName'. -/
def poolByNameUptoCard : Claim7 := { stood := { row := poolByNameUptoRow, standIns := [], harness := (true, "e0f2ecccbc5b50051e08e36efca0b29b0db45648728158be3ff78f35060b896e"), looks := false }, kinds := [], alts := [], laidByText := true, laidKinds := [.data, .data, .data, .data, .pinned], laidTests := true, laidLooks := .later }
def PoolByNameUptoCardSaid : Prop := Claim7.holds Tryz.pinned (.plain (OpenSpec.upto poolByNameSpec)) poolByNameUptoCard

/-- THE SECOND FORM's CARD OF 'chandlerylaw12.PoolOwn'. -/
def poolOwnUptoCard : Claim7 := { stood := { row := poolOwnUptoRow, standIns := [], harness := (true, "e0f2ecccbc5b50051e08e36efca0b29b0db45648728158be3ff78f35060b896e"), looks := false }, kinds := [], alts := [], laidByText := true, laidKinds := [.data, .data, .data], laidTests := true, laidLooks := .later }
def PoolOwnUptoCardSaid : Prop := Claim7.holds Tryz.pinned (.plain (OpenSpec.upto poolOwnSpec)) poolOwnUptoCard
end Rows
end Go.Proofs.YtlpalepkomkngaaGreatDoor
