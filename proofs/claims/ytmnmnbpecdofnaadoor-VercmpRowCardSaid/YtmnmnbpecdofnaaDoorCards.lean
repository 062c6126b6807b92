/-
  DERIVED. GIVEN WITH THE SEED: THE CARDS: each row of YtmnmnbpecdofnaaDoorRows.lean that lists a variable, with what it lists TIED to the program's text (the seventh form; the later family's looks); each row that meets fmt, with fmt's text TOLD by the authors' own Lean function (tested against real Go, not proved from fmt's source: count such statements apart). THE CARD IS WHAT COUNTS. Prove the row's statement (the work); the ties are given (YtmnmnbpecdofnaaDoorTie.lean); close each card by the builder's one call (the guide's Derived/Test/ToyasCard.lean, 'card_holds'). Laid BY PROGRAM, IN A SANDBOX (cutbox-door.mjs). By AI agents, Wed Nov 11 2026. No macro, syntax, notation, axiom, sorry.
-/
import Derived.Test.YtmnmnbpecdofnaaDoorRows
import GoSem.ClaimSeven
namespace Go.Proofs.YtmnmnbpecdofnaaDoor
namespace Rows

/-- THE TIED CARD OF 'chandlerylaw02.VercmpTells'. -/
def vercmpTellsCard : Claim7 := { stood := { row := vercmpTellsRow, standIns := [], harness := (true, "8c3a7a77ccb1d1e9df9de3415d952c57653514be1e15cf317f8de1b659ee2b3b"), looks := false }, kinds := [], alts := [], laidByText := true, laidKinds := [.data, .pinned], laidTests := true, laidLooks := .later }
def VercmpTellsCardSaid : Prop := Claim7.holds Tryd.pinned (.plain (OpenSpec.ofChange vercmpTellsSpec)) vercmpTellsCard

/-- THE TIED CARD OF 'chandlerylaw02.VercmpSorts'. -/
def vercmpSortsCard : Claim7 := { stood := { row := vercmpSortsRow, standIns := [], harness := (true, "8c3a7a77ccb1d1e9df9de3415d952c57653514be1e15cf317f8de1b659ee2b3b"), looks := false }, kinds := [], alts := [], laidByText := true, laidKinds := [.data, .pinned], laidTests := true, laidLooks := .later }
def VercmpSortsCardSaid : Prop := Claim7.holds Tryd.pinned (.plain (OpenSpec.ofChange vercmpSortsSpec)) vercmpSortsCard

/-- THE TIED CARD OF 'chandlerylaw02.VercmpNames'. -/
def vercmpNamesCard : Claim7 := { stood := { row := vercmpNamesRow, standIns := [], harness := (true, "8c3a7a77ccb1d1e9df9de3415d952c57653514be1e15cf317f8de1b659ee2b3b"), looks := false }, kinds := [], alts := [], laidByText := true, laidKinds := [.data, .pinned], laidTests := true, laidLooks := .later }
def VercmpNamesCardSaid : Prop := Claim7.holds Tryd.pinned (.plain (OpenSpec.ofChange vercmpNamesSpec)) vercmpNamesCard

/-- THE TIED CARD OF 'chandlerylaw02.VercmpRow'. -/
def vercmpRowCard : Claim7 := { stood := { row := vercmpRowRow, standIns := [], harness := (true, "8c3a7a77ccb1d1e9df9de3415d952c57653514be1e15cf317f8de1b659ee2b3b"), looks := false }, kinds := [], alts := [], laidByText := true, laidKinds := [.data, .pinned], laidTests := true, laidLooks := .later }
def VercmpRowCardSaid : Prop := Claim7.holds Tryd.pinned (.plain (OpenSpec.ofChange vercmpRowSpec)) vercmpRowCard

/-- THE TIED CARD OF 'chandlerylaw02.VercmpBehind'. -/
def vercmpBehindCard : Claim7 := { stood := { row := vercmpBehindRow, standIns := [], harness := (true, "8c3a7a77ccb1d1e9df9de3415d952c57653514be1e15cf317f8de1b659ee2b3b"), looks := false }, kinds := [], alts := [], laidByText := true, laidKinds := [.data, .pinned], laidTests := true, laidLooks := .later }
def VercmpBehindCardSaid : Prop := Claim7.holds Tryd.pinned (.plain (OpenSpec.ofChange vercmpBehindSpec)) vercmpBehindCard

/-- THE TIED CARD OF 'chandlerylaw02.VercmpNothing'. -/
def vercmpNothingCard : Claim7 := { stood := { row := vercmpNothingRow, standIns := [], harness := (true, "8c3a7a77ccb1d1e9df9de3415d952c57653514be1e15cf317f8de1b659ee2b3b"), looks := false }, kinds := [], alts := [], laidByText := true, laidKinds := [.data, .pinned], laidTests := true, laidLooks := .later }
def VercmpNothingCardSaid : Prop := Claim7.holds Tryd.pinned (.plain (OpenSpec.ofChange vercmpNothingSpec)) vercmpNothingCard

/-- THE TIED CARD OF 'chandlerylaw02.VercmpAhead'. -/
def vercmpAheadCard : Claim7 := { stood := { row := vercmpAheadRow, standIns := [], harness := (true, "8c3a7a77ccb1d1e9df9de3415d952c57653514be1e15cf317f8de1b659ee2b3b"), looks := false }, kinds := [], alts := [], laidByText := true, laidKinds := [.data, .pinned], laidTests := true, laidLooks := .later }
def VercmpAheadCardSaid : Prop := Claim7.holds Tryd.pinned (.plain (OpenSpec.ofChange vercmpAheadSpec)) vercmpAheadCard

/-- THE TIED CARD OF 'chandlerylaw02.VercmpSorted'. -/
def vercmpSortedCard : Claim7 := { stood := { row := vercmpSortedRow, standIns := [], harness := (true, "8c3a7a77ccb1d1e9df9de3415d952c57653514be1e15cf317f8de1b659ee2b3b"), looks := false }, kinds := [], alts := [], laidByText := true, laidKinds := [.data, .pinned], laidTests := true, laidLooks := .later }
def VercmpSortedCardSaid : Prop := Claim7.holds Tryd.pinned (.plain (OpenSpec.ofChange vercmpSortedSpec)) vercmpSortedCard

/-- THE SECOND FORM's CARD OF 'chandlerylaw02.VercmpTells'. -/
def vercmpTellsUptoCard : Claim7 := { stood := { row := vercmpTellsUptoRow, standIns := [], harness := (true, "8c3a7a77ccb1d1e9df9de3415d952c57653514be1e15cf317f8de1b659ee2b3b"), looks := false }, kinds := [], alts := [], laidByText := true, laidKinds := [.data, .pinned], laidTests := true, laidLooks := .later }
def VercmpTellsUptoCardSaid : Prop := Claim7.holds Tryd.pinned (.plain (OpenSpec.upto vercmpTellsSpec)) vercmpTellsUptoCard

/-- THE SECOND FORM's CARD OF 'chandlerylaw02.VercmpSorts'. -/
def vercmpSortsUptoCard : Claim7 := { stood := { row := vercmpSortsUptoRow, standIns := [], harness := (true, "8c3a7a77ccb1d1e9df9de3415d952c57653514be1e15cf317f8de1b659ee2b3b"), looks := false }, kinds := [], alts := [], laidByText := true, laidKinds := [.data, .pinned], laidTests := true, laidLooks := .later }
def VercmpSortsUptoCardSaid : Prop := Claim7.holds Tryd.pinned (.plain (OpenSpec.upto vercmpSortsSpec)) vercmpSortsUptoCard

/-- THE SECOND FORM's CARD OF 'chandlerylaw02.VercmpNames'. -/
def vercmpNamesUptoCard : Claim7 := { stood := { row := vercmpNamesUptoRow, standIns := [], harness := (true, "8c3a7a77ccb1d1e9df9de3415d952c57653514be1e15cf317f8de1b659ee2b3b"), looks := false }, kinds := [], alts := [], laidByText := true, laidKinds := [.data, .pinned], laidTests := true, laidLooks := .later }
def VercmpNamesUptoCardSaid : Prop := Claim7.holds Tryd.pinned (.plain (OpenSpec.upto vercmpNamesSpec)) vercmpNamesUptoCard

/-- THE SECOND FORM's CARD OF 'chandlerylaw02.VercmpRow'. -/
def vercmpRowUptoCard : Claim7 := { stood := { row := vercmpRowUptoRow, standIns := [], harness := (true, "8c3a7a77ccb1d1e9df9de3415d952c57653514be1e15cf317f8de1b659ee2b3b"), looks := false }, kinds := [], alts := [], laidByText := true, laidKinds := [.data, .pinned], laidTests := true, laidLooks := .later }
def VercmpRowUptoCardSaid : Prop := Claim7.holds Tryd.pinned (.plain (OpenSpec.upto vercmpRowSpec)) vercmpRowUptoCard

/-- THE SECOND FORM's CARD OF 'chandlerylaw02.VercmpBehind'. -/
def vercmpBehindUptoCard : Claim7 := { stood := { row := vercmpBehindUptoRow, standIns := [], harness := (true, "8c3a7a77ccb1d1e9df9de3415d952c57653514be1e15cf317f8de1b659ee2b3b"), looks := false }, kinds := [], alts := [], laidByText := true, laidKinds := [.data, .pinned], laidTests := true, laidLooks := .later }
def VercmpBehindUptoCardSaid : Prop := Claim7.holds Tryd.pinned (.plain (OpenSpec.upto vercmpBehindSpec)) vercmpBehindUptoCard

/-- THE SECOND FORM's CARD OF 'chandlerylaw02.VercmpNothing'. -/
def vercmpNothingUptoCard : Claim7 := { stood := { row := vercmpNothingUptoRow, standIns := [], harness := (true, "8c3a7a77ccb1d1e9df9de3415d952c57653514be1e15cf317f8de1b659ee2b3b"), looks := false }, kinds := [], alts := [], laidByText := true, laidKinds := [.data, .pinned], laidTests := true, laidLooks := .later }
def VercmpNothingUptoCardSaid : Prop := Claim7.holds Tryd.pinned (.plain (OpenSpec.upto vercmpNothingSpec)) vercmpNothingUptoCard

/-- THE SECOND FORM's CARD OF 'chandlerylaw02.VercmpAhead'. -/
def vercmpAheadUptoCard : Claim7 := { stood := { row := vercmpAheadUptoRow, standIns := [], harness := (true, "8c3a7a77ccb1d1e9df9de3415d952c57653514be1e15cf317f8de1b659ee2b3b"), looks := false }, kinds := [], alts := [], laidByText := true, laidKinds := [.data, .pinned], laidTests := true, laidLooks := .later }
def VercmpAheadUptoCardSaid : Prop := Claim7.holds Tryd.pinned (.plain (OpenSpec.upto vercmpAheadSpec)) vercmpAheadUptoCard

/-- THE SECOND FORM's CARD OF 'chandlerylaw02.VercmpSorted'. -/
def vercmpSortedUptoCard : Claim7 := { stood := { row := vercmpSortedUptoRow, standIns := [], harness := (true, "8c3a7a77ccb1d1e9df9de3415d952c57653514be1e15cf317f8de1b659ee2b3b"), looks := false }, kinds := [], alts := [], laidByText := true, laidKinds := [.data, .pinned], laidTests := true, laidLooks := .later }
def VercmpSortedUptoCardSaid : Prop := Claim7.holds Tryd.pinned (.plain (OpenSpec.upto vercmpSortedSpec)) vercmpSortedUptoCard
end Rows
end Go.Proofs.YtmnmnbpecdofnaaDoor
