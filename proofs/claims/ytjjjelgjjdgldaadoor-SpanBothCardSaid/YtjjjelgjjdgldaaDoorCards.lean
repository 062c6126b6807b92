/-
  DERIVED. GIVEN WITH THE SEED: THE CARDS: each row of YtjjjelgjjdgldaaDoorRows.lean that lists a variable, with what it lists TIED to the program's text (the seventh form; the later family's looks); each row that meets fmt, with fmt's text TOLD by the authors' own Lean function (tested against real Go, not proved from fmt's source: count such statements apart). THE CARD IS WHAT COUNTS. Prove the row's statement (the work); the ties are given (YtjjjelgjjdgldaaDoorTie.lean); close each card by the builder's one call (the guide's Derived/Test/ToyasCard.lean, 'card_holds'). Laid BY PROGRAM, IN A SANDBOX (cutbox-door.mjs). By AI agents, Wed Nov 11 2026. No macro, syntax, notation, axiom, sorry.
-/
import Derived.Test.YtjjjelgjjdgldaaDoorRows
import GoSem.ClaimSeven
namespace Go.Proofs.YtjjjelgjjdgldaaDoor
namespace Rows

/-- THE TIED CARD OF 'chandlerylaw04.SpanOps'. -/
def spanOpsCard : Claim7 := { stood := { row := spanOpsRow, standIns := [], harness := (true, "98921573f3308eff1e3b35d368c32148183ba2e83cf85bb401e5fb312e4e70a0"), looks := false }, kinds := [], alts := [], laidByText := true, laidKinds := [.data, .pinned], laidTests := true, laidLooks := .later }
def SpanOpsCardSaid : Prop := Claim7.holds Tryd.pinned (.plain (OpenSpec.ofChange spanOpsSpec)) spanOpsCard

/-- THE TIED CARD OF 'chandlerylaw04.SpanMeets'. -/
def spanMeetsCard : Claim7 := { stood := { row := spanMeetsRow, standIns := [], harness := (true, "98921573f3308eff1e3b35d368c32148183ba2e83cf85bb401e5fb312e4e70a0"), looks := false }, kinds := [], alts := [], laidByText := true, laidKinds := [.data, .pinned], laidTests := true, laidLooks := .later }
def SpanMeetsCardSaid : Prop := Claim7.holds Tryd.pinned (.plain (OpenSpec.ofChange spanMeetsSpec)) spanMeetsCard

/-- THE TIED CARD OF 'chandlerylaw04.SpanNames'. -/
def spanNamesCard : Claim7 := { stood := { row := spanNamesRow, standIns := [], harness := (true, "98921573f3308eff1e3b35d368c32148183ba2e83cf85bb401e5fb312e4e70a0"), looks := false }, kinds := [], alts := [], laidByText := true, laidKinds := [.data, .pinned], laidTests := true, laidLooks := .later }
def SpanNamesCardSaid : Prop := Claim7.holds Tryd.pinned (.plain (OpenSpec.ofChange spanNamesSpec)) spanNamesCard

/-- THE TIED CARD OF 'chandlerylaw04.SpanEither'. -/
def spanEitherCard : Claim7 := { stood := { row := spanEitherRow, standIns := [], harness := (true, "98921573f3308eff1e3b35d368c32148183ba2e83cf85bb401e5fb312e4e70a0"), looks := false }, kinds := [], alts := [], laidByText := true, laidKinds := [.data, .pinned], laidTests := true, laidLooks := .later }
def SpanEitherCardSaid : Prop := Claim7.holds Tryd.pinned (.plain (OpenSpec.ofChange spanEitherSpec)) spanEitherCard

/-- THE TIED CARD OF 'chandlerylaw04.SpanBoth'. -/
def spanBothCard : Claim7 := { stood := { row := spanBothRow, standIns := [], harness := (true, "98921573f3308eff1e3b35d368c32148183ba2e83cf85bb401e5fb312e4e70a0"), looks := false }, kinds := [], alts := [], laidByText := true, laidKinds := [.data, .pinned], laidTests := true, laidLooks := .later }
def SpanBothCardSaid : Prop := Claim7.holds Tryd.pinned (.plain (OpenSpec.ofChange spanBothSpec)) spanBothCard

/-- THE TIED CARD OF 'chandlerylaw04.SpanMore'. -/
def spanMoreCard : Claim7 := { stood := { row := spanMoreRow, standIns := [], harness := (true, "98921573f3308eff1e3b35d368c32148183ba2e83cf85bb401e5fb312e4e70a0"), looks := false }, kinds := [], alts := [], laidByText := true, laidKinds := [.data, .pinned], laidTests := true, laidLooks := .later }
def SpanMoreCardSaid : Prop := Claim7.holds Tryd.pinned (.plain (OpenSpec.ofChange spanMoreSpec)) spanMoreCard

/-- THE TIED CARD OF 'chandlerylaw04.SpanParted'. -/
def spanPartedCard : Claim7 := { stood := { row := spanPartedRow, standIns := [], harness := (true, "98921573f3308eff1e3b35d368c32148183ba2e83cf85bb401e5fb312e4e70a0"), looks := false }, kinds := [], alts := [], laidByText := true, laidKinds := [.data, .pinned], laidTests := true, laidLooks := .later }
def SpanPartedCardSaid : Prop := Claim7.holds Tryd.pinned (.plain (OpenSpec.ofChange spanPartedSpec)) spanPartedCard

/-- THE SECOND FORM's CARD OF 'chandlerylaw04.SpanOps'. -/
def spanOpsUptoCard : Claim7 := { stood := { row := spanOpsUptoRow, standIns := [], harness := (true, "98921573f3308eff1e3b35d368c32148183ba2e83cf85bb401e5fb312e4e70a0"), looks := false }, kinds := [], alts := [], laidByText := true, laidKinds := [.data, .pinned], laidTests := true, laidLooks := .later }
def SpanOpsUptoCardSaid : Prop := Claim7.holds Tryd.pinned (.plain (OpenSpec.upto spanOpsSpec)) spanOpsUptoCard

/-- THE SECOND FORM's CARD OF 'chandlerylaw04.SpanMeets'. -/
def spanMeetsUptoCard : Claim7 := { stood := { row := spanMeetsUptoRow, standIns := [], harness := (true, "98921573f3308eff1e3b35d368c32148183ba2e83cf85bb401e5fb312e4e70a0"), looks := false }, kinds := [], alts := [], laidByText := true, laidKinds := [.data, .pinned], laidTests := true, laidLooks := .later }
def SpanMeetsUptoCardSaid : Prop := Claim7.holds Tryd.pinned (.plain (OpenSpec.upto spanMeetsSpec)) spanMeetsUptoCard

/-- THE SECOND FORM's CARD OF 'chandlerylaw04.SpanNames'. -/
def spanNamesUptoCard : Claim7 := { stood := { row := spanNamesUptoRow, standIns := [], harness := (true, "98921573f3308eff1e3b35d368c32148183ba2e83cf85bb401e5fb312e4e70a0"), looks := false }, kinds := [], alts := [], laidByText := true, laidKinds := [.data, .pinned], laidTests := true, laidLooks := .later }
def SpanNamesUptoCardSaid : Prop := Claim7.holds Tryd.pinned (.plain (OpenSpec.upto spanNamesSpec)) spanNamesUptoCard

/-- THE SECOND FORM's CARD OF 'chandlerylaw04.SpanEither'. -/
def spanEitherUptoCard : Claim7 := { stood := { row := spanEitherUptoRow, standIns := [], harness := (true, "98921573f3308eff1e3b35d368c32148183ba2e83cf85bb401e5fb312e4e70a0"), looks := false }, kinds := [], alts := [], laidByText := true, laidKinds := [.data, .pinned], laidTests := true, laidLooks := .later }
def SpanEitherUptoCardSaid : Prop := Claim7.holds Tryd.pinned (.plain (OpenSpec.upto spanEitherSpec)) spanEitherUptoCard

/-- THE SECOND FORM's CARD OF 'chandlerylaw04.SpanBoth'. -/
def spanBothUptoCard : Claim7 := { stood := { row := spanBothUptoRow, standIns := [], harness := (true, "98921573f3308eff1e3b35d368c32148183ba2e83cf85bb401e5fb312e4e70a0"), looks := false }, kinds := [], alts := [], laidByText := true, laidKinds := [.data, .pinned], laidTests := true, laidLooks := .later }
def SpanBothUptoCardSaid : Prop := Claim7.holds Tryd.pinned (.plain (OpenSpec.upto spanBothSpec)) spanBothUptoCard

/-- THE SECOND FORM's CARD OF 'chandlerylaw04.SpanMore'. -/
def spanMoreUptoCard : Claim7 := { stood := { row := spanMoreUptoRow, standIns := [], harness := (true, "98921573f3308eff1e3b35d368c32148183ba2e83cf85bb401e5fb312e4e70a0"), looks := false }, kinds := [], alts := [], laidByText := true, laidKinds := [.data, .pinned], laidTests := true, laidLooks := .later }
def SpanMoreUptoCardSaid : Prop := Claim7.holds Tryd.pinned (.plain (OpenSpec.upto spanMoreSpec)) spanMoreUptoCard

/-- THE SECOND FORM's CARD OF 'chandlerylaw04.SpanParted'. -/
def spanPartedUptoCard : Claim7 := { stood := { row := spanPartedUptoRow, standIns := [], harness := (true, "98921573f3308eff1e3b35d368c32148183ba2e83cf85bb401e5fb312e4e70a0"), looks := false }, kinds := [], alts := [], laidByText := true, laidKinds := [.data, .pinned], laidTests := true, laidLooks := .later }
def SpanPartedUptoCardSaid : Prop := Claim7.holds Tryd.pinned (.plain (OpenSpec.upto spanPartedSpec)) spanPartedUptoCard
end Rows
end Go.Proofs.YtjjjelgjjdgldaaDoor
