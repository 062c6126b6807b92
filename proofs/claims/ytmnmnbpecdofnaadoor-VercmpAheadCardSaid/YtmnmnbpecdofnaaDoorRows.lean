/-
  NARROWER THAN 'FOR EVERY INPUT', by the rows' own cells (each row's printed sentence says how): VercmpTells: laid · VercmpSorts: laid · VercmpNames: laid · VercmpRow: laid · VercmpBehind: laid · VercmpNothing: laid · VercmpAhead: laid · VercmpSorted: laid.
  DERIVED. THE GIVEN ROWS OF THIS SEAT. 8 by the template 'for every input the law returns true; each argument reads behind the call as it read before'; 0 by the template 'total and deterministic' (their statements: YtmnmnbpecdofnaaDoorTotals.lean).
  GIVEN WITH THE SEED: the statements are not yours to turn. If you find one false, say at which input.
  Laid BY PROGRAM, IN A SANDBOX (cutbox-rows.mjs): the forced cells as the released guide's own fill.sh prints them over the translation 99b32f2d0146a520… (all of the seat's roots in one cut). By AI agents, Wed Nov 11 2026. No macro, syntax, notation, axiom, sorry.
-/
import Derived.Test.YtmnmnbpecdofnaaDoorChecked
import GoSem.PinnedTables
import GoSem.Claim
import GoSem.ClaimJoined
import GoSem.ClaimMapViews
import Derived.JoinedTies
import Derived.KernelRfl
namespace Go.Proofs.YtmnmnbpecdofnaaDoor
/- THE CELL 'sum', in the pinned program and in every row, IS THE sha256 OF THE DUMP (.gsa) THAT YtmnmnbpecdofnaaDoorProg.lean LOADS. Nothing in Lean hashes anything: it is a label: what it is worth is what the hold of that sum in a sandbox is worth. -/
noncomputable def Tryd.pinned : Pinned := { name := "ytmnmnbpecdofnaadoor", sum := "99b32f2d0146a5209a59c25fb997d907ce4c7cb59c44fd87740b262cc55b1985", checked := Tryd.checked }
namespace Rows
def none {H : Type} : Left H := { results := [], args := [] }

/- WHAT THE LISTED PACKAGE-LEVEL VARIABLES READ AS WHEN THE CALL BEGINS. Each datum BY PROGRAM (the guide's laid-datum.mjs) off the statement by which the dump's own 'gosem.cut.vars' lays the variable. In a bare row this is a premise. The card (YtmnmnbpecdofnaaDoorCards.lean) ties it to the program's text. -/
def laid_unicode_utf8_acceptRanges {H : Type} : DataW H := .agg [.agg [.lit (.int .u8 128), .lit (.int .u8 191)], .agg [.lit (.int .u8 160), .lit (.int .u8 191)], .agg [.lit (.int .u8 128), .lit (.int .u8 159)], .agg [.lit (.int .u8 144), .lit (.int .u8 191)], .agg [.lit (.int .u8 128), .lit (.int .u8 143)], .agg [.lit (.int .u8 0), .lit (.int .u8 0)], .agg [.lit (.int .u8 0), .lit (.int .u8 0)], .agg [.lit (.int .u8 0), .lit (.int .u8 0)], .agg [.lit (.int .u8 0), .lit (.int .u8 0)], .agg [.lit (.int .u8 0), .lit (.int .u8 0)], .agg [.lit (.int .u8 0), .lit (.int .u8 0)], .agg [.lit (.int .u8 0), .lit (.int .u8 0)], .agg [.lit (.int .u8 0), .lit (.int .u8 0)], .agg [.lit (.int .u8 0), .lit (.int .u8 0)], .agg [.lit (.int .u8 0), .lit (.int .u8 0)], .agg [.lit (.int .u8 0), .lit (.int .u8 0)]]
/-- One of Go's own tables, pinned by name: the form's constant. -/
def laid_unicode_utf8_first : DataW Unit := Go.Pinned.utf8First

/-- 'chandlerylaw02.VercmpTells': WHATEVER THE INPUT: true; the input reads as it did. -/
def vercmpTellsSpec : ChangeSpec := { name := "vercmpTells", fn := fun _ => fun
  | [d1, d2] => { results := [.lit (.bool true)], args := [d1, d2] }
  | _ => none }
def vercmpTellsRow : OpenClaim := { program := "ytmnmnbpecdofnaadoor", sum := "99b32f2d0146a5209a59c25fb997d907ce4c7cb59c44fd87740b262cc55b1985", func := "chandlery/chandlerylaw02.VercmpTells", spec := "vercmpTells", inPlace := ["internal/bytealg.IndexByteString", "internal/bytealg.IndexString", "internal/reflectlite.ValueOf", "internal/reflectlite.Swapper", "(internal/reflectlite.Value).Len"], unfollowed := true, recurses := true, named := ["unicode/utf8.first", "unicode/utf8.acceptRanges", "internal/bytealg.MaxLen"], apart := false, laid := [("unicode/utf8.acceptRanges", laid_unicode_utf8_acceptRanges), ("unicode/utf8.first", laid_unicode_utf8_first)] }
def VercmpTellsSaid : Prop := vercmpTellsRow.holds Tryd.pinned (OpenSpec.ofChange vercmpTellsSpec)

/-- ITS FALSE NEIGHBOUR: 'it returns false'. Refute it at one input. -/
def vercmpTellsWrong : ChangeSpec := { name := "vercmpTells", fn := fun _ => fun
  | [d1, d2] => { results := [.lit (.bool false)], args := [d1, d2] }
  | _ => none }
def VercmpTellsWrongFalsely : Prop := vercmpTellsRow.holds Tryd.pinned (OpenSpec.ofChange vercmpTellsWrong)

/-- 'chandlerylaw02.VercmpSorts': WHATEVER THE INPUT: true; the input reads as it did. -/
def vercmpSortsSpec : ChangeSpec := { name := "vercmpSorts", fn := fun _ => fun
  | [d] => { results := [.lit (.bool true)], args := [d] }
  | _ => none }
def vercmpSortsRow : OpenClaim := { program := "ytmnmnbpecdofnaadoor", sum := "99b32f2d0146a5209a59c25fb997d907ce4c7cb59c44fd87740b262cc55b1985", func := "chandlery/chandlerylaw02.VercmpSorts", spec := "vercmpSorts", inPlace := ["internal/bytealg.IndexByteString", "internal/bytealg.IndexString", "internal/reflectlite.ValueOf", "internal/reflectlite.Swapper", "(internal/reflectlite.Value).Len"], unfollowed := true, recurses := true, named := ["unicode/utf8.first", "unicode/utf8.acceptRanges", "internal/bytealg.MaxLen"], apart := false, laid := [("unicode/utf8.acceptRanges", laid_unicode_utf8_acceptRanges), ("unicode/utf8.first", laid_unicode_utf8_first)] }
def VercmpSortsSaid : Prop := vercmpSortsRow.holds Tryd.pinned (OpenSpec.ofChange vercmpSortsSpec)

/-- ITS FALSE NEIGHBOUR: 'it returns false'. Refute it at one input. -/
def vercmpSortsWrong : ChangeSpec := { name := "vercmpSorts", fn := fun _ => fun
  | [d] => { results := [.lit (.bool false)], args := [d] }
  | _ => none }
def VercmpSortsWrongFalsely : Prop := vercmpSortsRow.holds Tryd.pinned (OpenSpec.ofChange vercmpSortsWrong)

/-- 'chandlerylaw02.VercmpNames': WHATEVER THE INPUT: true; the input reads as it did. -/
def vercmpNamesSpec : ChangeSpec := { name := "vercmpNames", fn := fun _ => fun
  | [] => { results := [.lit (.bool true)], args := [] }
  | _ => none }
def vercmpNamesRow : OpenClaim := { program := "ytmnmnbpecdofnaadoor", sum := "99b32f2d0146a5209a59c25fb997d907ce4c7cb59c44fd87740b262cc55b1985", func := "chandlery/chandlerylaw02.VercmpNames", spec := "vercmpNames", inPlace := ["internal/bytealg.IndexByteString", "internal/bytealg.IndexString", "internal/reflectlite.ValueOf", "internal/reflectlite.Swapper", "(internal/reflectlite.Value).Len"], unfollowed := true, recurses := true, named := ["unicode/utf8.first", "unicode/utf8.acceptRanges", "internal/bytealg.MaxLen"], apart := false, laid := [("unicode/utf8.acceptRanges", laid_unicode_utf8_acceptRanges), ("unicode/utf8.first", laid_unicode_utf8_first)] }
def VercmpNamesSaid : Prop := vercmpNamesRow.holds Tryd.pinned (OpenSpec.ofChange vercmpNamesSpec)

/-- ITS FALSE NEIGHBOUR: 'it returns false'. Refute it at one input. -/
def vercmpNamesWrong : ChangeSpec := { name := "vercmpNames", fn := fun _ => fun
  | [] => { results := [.lit (.bool false)], args := [] }
  | _ => none }
def VercmpNamesWrongFalsely : Prop := vercmpNamesRow.holds Tryd.pinned (OpenSpec.ofChange vercmpNamesWrong)

/-- 'chandlerylaw02.VercmpRow': WHATEVER THE INPUT: true; the input reads as it did. -/
def vercmpRowSpec : ChangeSpec := { name := "vercmpRow", fn := fun _ => fun
  | [d1, d2, d3] => { results := [.lit (.bool true)], args := [d1, d2, d3] }
  | _ => none }
def vercmpRowRow : OpenClaim := { program := "ytmnmnbpecdofnaadoor", sum := "99b32f2d0146a5209a59c25fb997d907ce4c7cb59c44fd87740b262cc55b1985", func := "chandlery/chandlerylaw02.VercmpRow", spec := "vercmpRow", inPlace := ["internal/bytealg.IndexByteString", "internal/bytealg.IndexString", "internal/reflectlite.ValueOf", "internal/reflectlite.Swapper", "(internal/reflectlite.Value).Len"], unfollowed := true, recurses := true, named := ["unicode/utf8.first", "unicode/utf8.acceptRanges", "internal/bytealg.MaxLen"], apart := false, laid := [("unicode/utf8.acceptRanges", laid_unicode_utf8_acceptRanges), ("unicode/utf8.first", laid_unicode_utf8_first)] }
def VercmpRowSaid : Prop := vercmpRowRow.holds Tryd.pinned (OpenSpec.ofChange vercmpRowSpec)

/-- ITS FALSE NEIGHBOUR: 'it returns false'. Refute it at one input. -/
def vercmpRowWrong : ChangeSpec := { name := "vercmpRow", fn := fun _ => fun
  | [d1, d2, d3] => { results := [.lit (.bool false)], args := [d1, d2, d3] }
  | _ => none }
def VercmpRowWrongFalsely : Prop := vercmpRowRow.holds Tryd.pinned (OpenSpec.ofChange vercmpRowWrong)

/-- 'chandlerylaw02.VercmpBehind': WHATEVER THE INPUT: true; the input reads as it did. -/
def vercmpBehindSpec : ChangeSpec := { name := "vercmpBehind", fn := fun _ => fun
  | [d1, d2] => { results := [.lit (.bool true)], args := [d1, d2] }
  | _ => none }
def vercmpBehindRow : OpenClaim := { program := "ytmnmnbpecdofnaadoor", sum := "99b32f2d0146a5209a59c25fb997d907ce4c7cb59c44fd87740b262cc55b1985", func := "chandlery/chandlerylaw02.VercmpBehind", spec := "vercmpBehind", inPlace := ["internal/bytealg.IndexByteString", "internal/bytealg.IndexString", "internal/reflectlite.ValueOf", "internal/reflectlite.Swapper", "(internal/reflectlite.Value).Len"], unfollowed := true, recurses := true, named := ["unicode/utf8.first", "unicode/utf8.acceptRanges", "internal/bytealg.MaxLen"], apart := false, laid := [("unicode/utf8.acceptRanges", laid_unicode_utf8_acceptRanges), ("unicode/utf8.first", laid_unicode_utf8_first)] }
def VercmpBehindSaid : Prop := vercmpBehindRow.holds Tryd.pinned (OpenSpec.ofChange vercmpBehindSpec)

/-- ITS FALSE NEIGHBOUR: 'it returns false'. Refute it at one input. -/
def vercmpBehindWrong : ChangeSpec := { name := "vercmpBehind", fn := fun _ => fun
  | [d1, d2] => { results := [.lit (.bool false)], args := [d1, d2] }
  | _ => none }
def VercmpBehindWrongFalsely : Prop := vercmpBehindRow.holds Tryd.pinned (OpenSpec.ofChange vercmpBehindWrong)

/-- 'chandlerylaw02.VercmpNothing': WHATEVER THE INPUT: true; the input reads as it did. -/
def vercmpNothingSpec : ChangeSpec := { name := "vercmpNothing", fn := fun _ => fun
  | [d1, d2, d3, d4] => { results := [.lit (.bool true)], args := [d1, d2, d3, d4] }
  | _ => none }
def vercmpNothingRow : OpenClaim := { program := "ytmnmnbpecdofnaadoor", sum := "99b32f2d0146a5209a59c25fb997d907ce4c7cb59c44fd87740b262cc55b1985", func := "chandlery/chandlerylaw02.VercmpNothing", spec := "vercmpNothing", inPlace := ["internal/bytealg.IndexByteString", "internal/bytealg.IndexString", "internal/reflectlite.ValueOf", "internal/reflectlite.Swapper", "(internal/reflectlite.Value).Len"], unfollowed := true, recurses := true, named := ["unicode/utf8.first", "unicode/utf8.acceptRanges", "internal/bytealg.MaxLen"], apart := false, laid := [("unicode/utf8.acceptRanges", laid_unicode_utf8_acceptRanges), ("unicode/utf8.first", laid_unicode_utf8_first)] }
def VercmpNothingSaid : Prop := vercmpNothingRow.holds Tryd.pinned (OpenSpec.ofChange vercmpNothingSpec)

/-- ITS FALSE NEIGHBOUR: 'it returns false'. Refute it at one input. -/
def vercmpNothingWrong : ChangeSpec := { name := "vercmpNothing", fn := fun _ => fun
  | [d1, d2, d3, d4] => { results := [.lit (.bool false)], args := [d1, d2, d3, d4] }
  | _ => none }
def VercmpNothingWrongFalsely : Prop := vercmpNothingRow.holds Tryd.pinned (OpenSpec.ofChange vercmpNothingWrong)

/-- 'chandlerylaw02.VercmpAhead': WHATEVER THE INPUT: true; the input reads as it did. -/
def vercmpAheadSpec : ChangeSpec := { name := "vercmpAhead", fn := fun _ => fun
  | [d1, d2, d3] => { results := [.lit (.bool true)], args := [d1, d2, d3] }
  | _ => none }
def vercmpAheadRow : OpenClaim := { program := "ytmnmnbpecdofnaadoor", sum := "99b32f2d0146a5209a59c25fb997d907ce4c7cb59c44fd87740b262cc55b1985", func := "chandlery/chandlerylaw02.VercmpAhead", spec := "vercmpAhead", inPlace := ["internal/bytealg.IndexByteString", "internal/bytealg.IndexString", "internal/reflectlite.ValueOf", "internal/reflectlite.Swapper", "(internal/reflectlite.Value).Len"], unfollowed := true, recurses := true, named := ["unicode/utf8.first", "unicode/utf8.acceptRanges", "internal/bytealg.MaxLen"], apart := false, laid := [("unicode/utf8.acceptRanges", laid_unicode_utf8_acceptRanges), ("unicode/utf8.first", laid_unicode_utf8_first)] }
def VercmpAheadSaid : Prop := vercmpAheadRow.holds Tryd.pinned (OpenSpec.ofChange vercmpAheadSpec)

/-- ITS FALSE NEIGHBOUR: 'it returns false'. Refute it at one input. -/
def vercmpAheadWrong : ChangeSpec := { name := "vercmpAhead", fn := fun _ => fun
  | [d1, d2, d3] => { results := [.lit (.bool false)], args := [d1, d2, d3] }
  | _ => none }
def VercmpAheadWrongFalsely : Prop := vercmpAheadRow.holds Tryd.pinned (OpenSpec.ofChange vercmpAheadWrong)

/-- 'chandlerylaw02.VercmpSorted': WHATEVER THE INPUT: true; the input reads as it did. -/
def vercmpSortedSpec : ChangeSpec := { name := "vercmpSorted", fn := fun _ => fun
  | [d] => { results := [.lit (.bool true)], args := [d] }
  | _ => none }
def vercmpSortedRow : OpenClaim := { program := "ytmnmnbpecdofnaadoor", sum := "99b32f2d0146a5209a59c25fb997d907ce4c7cb59c44fd87740b262cc55b1985", func := "chandlery/chandlerylaw02.VercmpSorted", spec := "vercmpSorted", inPlace := ["internal/bytealg.IndexByteString", "internal/bytealg.IndexString", "internal/reflectlite.ValueOf", "internal/reflectlite.Swapper", "(internal/reflectlite.Value).Len"], unfollowed := true, recurses := true, named := ["unicode/utf8.first", "unicode/utf8.acceptRanges", "internal/bytealg.MaxLen"], apart := false, laid := [("unicode/utf8.acceptRanges", laid_unicode_utf8_acceptRanges), ("unicode/utf8.first", laid_unicode_utf8_first)] }
def VercmpSortedSaid : Prop := vercmpSortedRow.holds Tryd.pinned (OpenSpec.ofChange vercmpSortedSpec)

/-- ITS FALSE NEIGHBOUR: 'it returns false'. Refute it at one input. -/
def vercmpSortedWrong : ChangeSpec := { name := "vercmpSorted", fn := fun _ => fun
  | [d] => { results := [.lit (.bool false)], args := [d] }
  | _ => none }
def VercmpSortedWrongFalsely : Prop := vercmpSortedRow.holds Tryd.pinned (OpenSpec.ofChange vercmpSortedWrong)

/- THE SECOND FORM. 'bulk': how many values and letters a reading holds, each counted each time it is reached (what is shared counts as often as it is met; a slice's spare places count too). A statement '..UptoSaid' is the law's where the arguments, and the package variables that the reading takes, are together of bulk at most 1048576: NARROWER than '..Said'. Prove '..Said' where nothing that the law and all that it calls make is longer than what came in: it says more and counts as full. Else prove '..UptoSaid'. A law counts once. -/
mutual
def uptoBulk {H : Type} : DataW H → Nat
  | .lit (.string bytes) => bytes.length + 1
  | .lit _ => 1
  | .nil => 1
  | .ptr d => uptoBulk d + 1
  | .slice elems spare => uptoBulkAll elems + uptoBulkAll spare + 1
  | .agg parts => uptoBulkAll parts + 1
  | .iface _ d => uptoBulk d + 1
  | .map entries => uptoBulkEntries entries + 1
  | .held _ => 1
def uptoBulkAll {H : Type} : List (DataW H) → Nat
  | [] => 0
  | d :: r => uptoBulk d + uptoBulkAll r
def uptoBulkEntries {H : Type} : List (Lit × DataW H) → Nat
  | [] => 0
  | x :: r => uptoBulkEntry x + uptoBulkEntries r
def uptoBulkEntry {H : Type} : Lit × DataW H → Nat
  | (.string bytes, d) => bytes.length + uptoBulk d + 1
  | (_, d) => uptoBulk d + 1
 end
def uptoSmall : (H : Type) → List (DataW H) → Bool := fun _ ds => decide (uptoBulkAll ds ≤ 1048576)
def OpenSpec.upto (s : _root_.Go.ChangeSpec) : _root_.Go.OpenSpec := { _root_.Go.OpenSpec.ofChange s with cond := some uptoSmall }

/-- 'chandlerylaw02.VercmpTells', WHERE WHAT IT READS IS OF BULK AT MOST 1048576: true; the input reads as it did. -/
def vercmpTellsUptoRow : OpenClaim := { program := "ytmnmnbpecdofnaadoor", sum := "99b32f2d0146a5209a59c25fb997d907ce4c7cb59c44fd87740b262cc55b1985", func := "chandlery/chandlerylaw02.VercmpTells", spec := "vercmpTells", inPlace := ["internal/bytealg.IndexByteString", "internal/bytealg.IndexString", "internal/reflectlite.ValueOf", "internal/reflectlite.Swapper", "(internal/reflectlite.Value).Len"], unfollowed := true, recurses := true, named := ["unicode/utf8.first", "unicode/utf8.acceptRanges", "internal/bytealg.MaxLen"], apart := false, laid := [("unicode/utf8.acceptRanges", laid_unicode_utf8_acceptRanges), ("unicode/utf8.first", laid_unicode_utf8_first)], narrowed := true }
def VercmpTellsUptoSaid : Prop := vercmpTellsUptoRow.holds Tryd.pinned (OpenSpec.upto vercmpTellsSpec)

/-- 'chandlerylaw02.VercmpSorts', WHERE WHAT IT READS IS OF BULK AT MOST 1048576: true; the input reads as it did. -/
def vercmpSortsUptoRow : OpenClaim := { program := "ytmnmnbpecdofnaadoor", sum := "99b32f2d0146a5209a59c25fb997d907ce4c7cb59c44fd87740b262cc55b1985", func := "chandlery/chandlerylaw02.VercmpSorts", spec := "vercmpSorts", inPlace := ["internal/bytealg.IndexByteString", "internal/bytealg.IndexString", "internal/reflectlite.ValueOf", "internal/reflectlite.Swapper", "(internal/reflectlite.Value).Len"], unfollowed := true, recurses := true, named := ["unicode/utf8.first", "unicode/utf8.acceptRanges", "internal/bytealg.MaxLen"], apart := false, laid := [("unicode/utf8.acceptRanges", laid_unicode_utf8_acceptRanges), ("unicode/utf8.first", laid_unicode_utf8_first)], narrowed := true }
def VercmpSortsUptoSaid : Prop := vercmpSortsUptoRow.holds Tryd.pinned (OpenSpec.upto vercmpSortsSpec)

/-- 'chandlerylaw02.VercmpNames', WHERE WHAT IT READS IS OF BULK AT MOST 1048576: true; the input reads as it did. -/
def vercmpNamesUptoRow : OpenClaim := { program := "ytmnmnbpecdofnaadoor", sum := "99b32f2d0146a5209a59c25fb997d907ce4c7cb59c44fd87740b262cc55b1985", func := "chandlery/chandlerylaw02.VercmpNames", spec := "vercmpNames", inPlace := ["internal/bytealg.IndexByteString", "internal/bytealg.IndexString", "internal/reflectlite.ValueOf", "internal/reflectlite.Swapper", "(internal/reflectlite.Value).Len"], unfollowed := true, recurses := true, named := ["unicode/utf8.first", "unicode/utf8.acceptRanges", "internal/bytealg.MaxLen"], apart := false, laid := [("unicode/utf8.acceptRanges", laid_unicode_utf8_acceptRanges), ("unicode/utf8.first", laid_unicode_utf8_first)], narrowed := true }
def VercmpNamesUptoSaid : Prop := vercmpNamesUptoRow.holds Tryd.pinned (OpenSpec.upto vercmpNamesSpec)

/-- 'chandlerylaw02.VercmpRow', WHERE WHAT IT READS IS OF BULK AT MOST 1048576: true; the input reads as it did. -/
def vercmpRowUptoRow : OpenClaim := { program := "ytmnmnbpecdofnaadoor", sum := "99b32f2d0146a5209a59c25fb997d907ce4c7cb59c44fd87740b262cc55b1985", func := "chandlery/chandlerylaw02.VercmpRow", spec := "vercmpRow", inPlace := ["internal/bytealg.IndexByteString", "internal/bytealg.IndexString", "internal/reflectlite.ValueOf", "internal/reflectlite.Swapper", "(internal/reflectlite.Value).Len"], unfollowed := true, recurses := true, named := ["unicode/utf8.first", "unicode/utf8.acceptRanges", "internal/bytealg.MaxLen"], apart := false, laid := [("unicode/utf8.acceptRanges", laid_unicode_utf8_acceptRanges), ("unicode/utf8.first", laid_unicode_utf8_first)], narrowed := true }
def VercmpRowUptoSaid : Prop := vercmpRowUptoRow.holds Tryd.pinned (OpenSpec.upto vercmpRowSpec)

/-- 'chandlerylaw02.VercmpBehind', WHERE WHAT IT READS IS OF BULK AT MOST 1048576: true; the input reads as it did. -/
def vercmpBehindUptoRow : OpenClaim := { program := "ytmnmnbpecdofnaadoor", sum := "99b32f2d0146a5209a59c25fb997d907ce4c7cb59c44fd87740b262cc55b1985", func := "chandlery/chandlerylaw02.VercmpBehind", spec := "vercmpBehind", inPlace := ["internal/bytealg.IndexByteString", "internal/bytealg.IndexString", "internal/reflectlite.ValueOf", "internal/reflectlite.Swapper", "(internal/reflectlite.Value).Len"], unfollowed := true, recurses := true, named := ["unicode/utf8.first", "unicode/utf8.acceptRanges", "internal/bytealg.MaxLen"], apart := false, laid := [("unicode/utf8.acceptRanges", laid_unicode_utf8_acceptRanges), ("unicode/utf8.first", laid_unicode_utf8_first)], narrowed := true }
def VercmpBehindUptoSaid : Prop := vercmpBehindUptoRow.holds Tryd.pinned (OpenSpec.upto vercmpBehindSpec)

/-- 'chandlerylaw02.VercmpNothing', WHERE WHAT IT READS IS OF BULK AT MOST 1048576: true; the input reads as it did. -/
def vercmpNothingUptoRow : OpenClaim := { program := "ytmnmnbpecdofnaadoor", sum := "99b32f2d0146a5209a59c25fb997d907ce4c7cb59c44fd87740b262cc55b1985", func := "chandlery/chandlerylaw02.VercmpNothing", spec := "vercmpNothing", inPlace := ["internal/bytealg.IndexByteString", "internal/bytealg.IndexString", "internal/reflectlite.ValueOf", "internal/reflectlite.Swapper", "(internal/reflectlite.Value).Len"], unfollowed := true, recurses := true, named := ["unicode/utf8.first", "unicode/utf8.acceptRanges", "internal/bytealg.MaxLen"], apart := false, laid := [("unicode/utf8.acceptRanges", laid_unicode_utf8_acceptRanges), ("unicode/utf8.first", laid_unicode_utf8_first)], narrowed := true }
def VercmpNothingUptoSaid : Prop := vercmpNothingUptoRow.holds Tryd.pinned (OpenSpec.upto vercmpNothingSpec)

/-- 'chandlerylaw02.VercmpAhead', WHERE WHAT IT READS IS OF BULK AT MOST 1048576: true; the input reads as it did. -/
def vercmpAheadUptoRow : OpenClaim := { program := "ytmnmnbpecdofnaadoor", sum := "99b32f2d0146a5209a59c25fb997d907ce4c7cb59c44fd87740b262cc55b1985", func := "chandlery/chandlerylaw02.VercmpAhead", spec := "vercmpAhead", inPlace := ["internal/bytealg.IndexByteString", "internal/bytealg.IndexString", "internal/reflectlite.ValueOf", "internal/reflectlite.Swapper", "(internal/reflectlite.Value).Len"], unfollowed := true, recurses := true, named := ["unicode/utf8.first", "unicode/utf8.acceptRanges", "internal/bytealg.MaxLen"], apart := false, laid := [("unicode/utf8.acceptRanges", laid_unicode_utf8_acceptRanges), ("unicode/utf8.first", laid_unicode_utf8_first)], narrowed := true }
def VercmpAheadUptoSaid : Prop := vercmpAheadUptoRow.holds Tryd.pinned (OpenSpec.upto vercmpAheadSpec)

/-- 'chandlerylaw02.VercmpSorted', WHERE WHAT IT READS IS OF BULK AT MOST 1048576: true; the input reads as it did. -/
def vercmpSortedUptoRow : OpenClaim := { program := "ytmnmnbpecdofnaadoor", sum := "99b32f2d0146a5209a59c25fb997d907ce4c7cb59c44fd87740b262cc55b1985", func := "chandlery/chandlerylaw02.VercmpSorted", spec := "vercmpSorted", inPlace := ["internal/bytealg.IndexByteString", "internal/bytealg.IndexString", "internal/reflectlite.ValueOf", "internal/reflectlite.Swapper", "(internal/reflectlite.Value).Len"], unfollowed := true, recurses := true, named := ["unicode/utf8.first", "unicode/utf8.acceptRanges", "internal/bytealg.MaxLen"], apart := false, laid := [("unicode/utf8.acceptRanges", laid_unicode_utf8_acceptRanges), ("unicode/utf8.first", laid_unicode_utf8_first)], narrowed := true }
def VercmpSortedUptoSaid : Prop := vercmpSortedUptoRow.holds Tryd.pinned (OpenSpec.upto vercmpSortedSpec)

end Rows
end Go.Proofs.YtmnmnbpecdofnaaDoor
