/-
  From what a row of layer 10 lists of the program's own tables to what the walks ask of them. Conditions: as each theorem states.
-/
import Derived.Test.YtbofbkndmnidpaaDoorK28
import Derived.Test.YtbofbkndmnidpaaDoorK18
namespace Go.Proofs.YtbofbkndmnidpaaDoor
open Go.ChangeShapes Go.WideShapes Go.ChangeAt Go.RowKit Rich

theorem pkW_of {W : World} (h1 : NotW W) (h2 : TabW9 W) (h3 : NamesW W) : PkW W := ⟨h1, h2, h3, World.block_lt_of_cell? W _ (h3.names 0 (by omega))⟩
end Go.Proofs.YtbofbkndmnidpaaDoor
