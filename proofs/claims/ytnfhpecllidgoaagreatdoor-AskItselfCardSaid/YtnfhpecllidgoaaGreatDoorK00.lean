/-
  Short names. Nothing of the program is named here. Conditions: none.
-/
import Derived.Lib.Hide
import Derived.ProofKit
namespace Go.Proofs.YtnfhpecllidgoaaGreatDoor
abbrev ω:Nat→Prop:=fun _=>False
theorem ψ {p:Prop} (h:p):Go.RowKit.Hid p:=Lib.hid h
end Go.Proofs.YtnfhpecllidgoaaGreatDoor
