/-
  DERIVED. GIVEN WITH THE SEED: THE CARDS: each row of YtlpalepkomkngaaDoorRows.lean that lists a variable, with what it lists TIED to the program's text (the seventh form; the later family's looks); each row that meets fmt, with fmt's text TOLD by the authors' own Lean function (tested against real Go, not proved from fmt's source: count such statements apart). THE CARD IS WHAT COUNTS. Prove the row's statement (the work); the ties are given (YtlpalepkomkngaaDoorTie.lean); close each card by the builder's one call (the guide's Derived/Test/ToyasCard.lean, 'card_holds'). Laid BY PROGRAM, IN A SANDBOX (cutbox-door.mjs). By AI agents, Wed Nov 11 2026. No macro, syntax, notation, axiom, sorry.
-/
import Derived.Test.YtlpalepkomkngaaDoorRows
import GoSem.ClaimSeven
namespace Go.Proofs.YtlpalepkomkngaaDoor
namespace Rows

/-- THE TIED CARD OF 'chandlerylaw12.PoolRow'. -/
def poolRowCard : Claim7 := { stood := { row := poolRowRow, standIns := [], harness := (true, "39df3b3de92a89f04e46f0bcabc246575c532ecb4e747c50f38a2d06ddfd0e93"), looks := false }, kinds := [], alts := [], laidByText := true, laidKinds := [.data, .data, .data], laidTests := true, laidLooks := .later }
def PoolRowCardSaid : Prop := Claim7.holds Tryd.pinned (.plain (OpenSpec.ofChange poolRowSpec)) poolRowCard

/-- THE TIED CARD OF 'chandlerylaw12.PoolLess'. -/
def poolLessCard : Claim7 := { stood := { row := poolLessRow, standIns := [], harness := (true, "39df3b3de92a89f04e46f0bcabc246575c532ecb4e747c50f38a2d06ddfd0e93"), looks := false }, kinds := [], alts := [], laidByText := true, laidKinds := [.data, .data, .data], laidTests := true, laidLooks := .later }
def PoolLessCardSaid : Prop := Claim7.holds Tryd.pinned (.plain (OpenSpec.ofChange poolLessSpec)) poolLessCard

/-- THE SECOND FORM's CARD OF 'chandlerylaw12.PoolRow'. -/
def poolRowUptoCard : Claim7 := { stood := { row := poolRowUptoRow, standIns := [], harness := (true, "39df3b3de92a89f04e46f0bcabc246575c532ecb4e747c50f38a2d06ddfd0e93"), looks := false }, kinds := [], alts := [], laidByText := true, laidKinds := [.data, .data, .data], laidTests := true, laidLooks := .later }
def PoolRowUptoCardSaid : Prop := Claim7.holds Tryd.pinned (.plain (OpenSpec.upto poolRowSpec)) poolRowUptoCard

/-- THE SECOND FORM's CARD OF 'chandlerylaw12.PoolLess'. -/
def poolLessUptoCard : Claim7 := { stood := { row := poolLessUptoRow, standIns := [], harness := (true, "39df3b3de92a89f04e46f0bcabc246575c532ecb4e747c50f38a2d06ddfd0e93"), looks := false }, kinds := [], alts := [], laidByText := true, laidKinds := [.data, .data, .data], laidTests := true, laidLooks := .later }
def PoolLessUptoCardSaid : Prop := Claim7.holds Tryd.pinned (.plain (OpenSpec.upto poolLessSpec)) poolLessUptoCard
end Rows
end Go.Proofs.YtlpalepkomkngaaDoor
