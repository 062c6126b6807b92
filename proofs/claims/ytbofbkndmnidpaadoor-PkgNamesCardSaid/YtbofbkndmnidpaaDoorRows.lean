/-
  NARROWER THAN 'FOR EVERY INPUT', by the rows' own cells (each row's printed sentence says how): PkgNames: laid · PkgLess: loops, laid.
  DERIVED. THE GIVEN ROWS OF THIS SEAT. 2 by the template 'for every input the law returns true; each argument reads behind the call as it read before'; 0 by the template 'total and deterministic' (their statements: YtbofbkndmnidpaaDoorTotals.lean).
  GIVEN WITH THE SEED: the statements are not yours to turn. If you find one false, say at which input.
  Laid BY PROGRAM, IN A SANDBOX (cutbox-rows.mjs): the forced cells as the released guide's own fill.sh prints them over the translation 0c04adf0d3e93fe9… (all of the seat's roots in one cut). By AI agents, Wed Nov 11 2026. No macro, syntax, notation, axiom, sorry.
-/
import Derived.Test.YtbofbkndmnidpaaDoorChecked
import GoSem.PinnedTables
import GoSem.Claim
import GoSem.ClaimJoined
import GoSem.ClaimMapViews
import Derived.JoinedTies
import Derived.KernelRfl
namespace Go.Proofs.YtbofbkndmnidpaaDoor
/- THE CELL 'sum', in the pinned program and in every row, IS THE sha256 OF THE DUMP (.gsa) THAT YtbofbkndmnidpaaDoorProg.lean LOADS. Nothing in Lean hashes anything: it is a label: what it is worth is what the hold of that sum in a sandbox is worth. -/
noncomputable def Tryd.pinned : Pinned := { name := "ytbofbkndmnidpaadoor", sum := "0c04adf0d3e93fe9f3e5deb5a06cfad1a1cc5ead85ee913b9a58f870a0267637", checked := Tryd.checked }
namespace Rows
def none {H : Type} : Left H := { results := [], args := [] }

/- WHAT THE LISTED PACKAGE-LEVEL VARIABLES READ AS WHEN THE CALL BEGINS. Each datum BY PROGRAM (the guide's laid-datum.mjs) off the statement by which the dump's own 'gosem.cut.vars' lays the variable. In a bare row this is a premise. The card (YtbofbkndmnidpaaDoorCards.lean) ties it to the program's text. -/
def laid_unicode_utf8_acceptRanges {H : Type} : DataW H := .agg [.agg [.lit (.int .u8 128), .lit (.int .u8 191)], .agg [.lit (.int .u8 160), .lit (.int .u8 191)], .agg [.lit (.int .u8 128), .lit (.int .u8 159)], .agg [.lit (.int .u8 144), .lit (.int .u8 191)], .agg [.lit (.int .u8 128), .lit (.int .u8 143)], .agg [.lit (.int .u8 0), .lit (.int .u8 0)], .agg [.lit (.int .u8 0), .lit (.int .u8 0)], .agg [.lit (.int .u8 0), .lit (.int .u8 0)], .agg [.lit (.int .u8 0), .lit (.int .u8 0)], .agg [.lit (.int .u8 0), .lit (.int .u8 0)], .agg [.lit (.int .u8 0), .lit (.int .u8 0)], .agg [.lit (.int .u8 0), .lit (.int .u8 0)], .agg [.lit (.int .u8 0), .lit (.int .u8 0)], .agg [.lit (.int .u8 0), .lit (.int .u8 0)], .agg [.lit (.int .u8 0), .lit (.int .u8 0)], .agg [.lit (.int .u8 0), .lit (.int .u8 0)]]
def laid_chandlery_arch_names {H : Type} : DataW H := .agg [.lit (.string []), .lit (.string [110, 111, 97, 114, 99, 104]), .lit (.string [120, 56, 54, 95, 54, 52]), .lit (.string [105, 54, 56, 54]), .lit (.string [97, 97, 114, 99, 104, 54, 52])]
def laid_chandlery_dep_notNames {H : Type} : DataW H := .agg [.lit (.string [97, 110, 100]), .lit (.string [111, 114]), .lit (.string [105, 102]), .lit (.string [101, 108, 115, 101]), .lit (.string [117, 110, 108, 101, 115, 115]), .lit (.string [119, 105, 116, 104]), .lit (.string [119, 105, 116, 104, 111, 117, 116])]
def laid_chandlery_shape_rows {H : Type} : DataW H := .agg [.agg [.lit (.bool false), .lit (.int .i64 0), .lit (.int .i64 0), .lit (.int .u8 0), .lit (.bool false)], .agg [.lit (.bool true), .lit (.int .i64 0), .lit (.int .i64 0), .lit (.int .u8 3), .lit (.bool true)], .agg [.lit (.bool false), .lit (.int .i64 2), .lit (.int .i64 24), .lit (.int .u8 3), .lit (.bool true)], .agg [.lit (.bool false), .lit (.int .i64 2), .lit (.int .i64 24), .lit (.int .u8 3), .lit (.bool true)], .agg [.lit (.bool false), .lit (.int .i64 2), .lit (.int .i64 3), .lit (.int .u8 1), .lit (.bool false)], .agg [.lit (.bool false), .lit (.int .i64 2), .lit (.int .i64 3), .lit (.int .u8 2), .lit (.bool false)], .agg [.lit (.bool false), .lit (.int .i64 2), .lit (.int .i64 24), .lit (.int .u8 3), .lit (.bool true)], .agg [.lit (.bool false), .lit (.int .i64 2), .lit (.int .i64 2), .lit (.int .u8 3), .lit (.bool true)]]
/-- One of Go's own tables, pinned by name: the form's constant. -/
def laid_unicode_utf8_first : DataW Unit := Go.Pinned.utf8First

/-- 'chandlerylaw10.PkgNames': WHATEVER THE INPUT: true; the input reads as it did. -/
def pkgNamesSpec : ChangeSpec := { name := "pkgNames", fn := fun _ => fun
  | [] => { results := [.lit (.bool true)], args := [] }
  | _ => none }
def pkgNamesRow : OpenClaim := { program := "ytbofbkndmnidpaadoor", sum := "0c04adf0d3e93fe9f3e5deb5a06cfad1a1cc5ead85ee913b9a58f870a0267637", func := "chandlery/chandlerylaw10.PkgNames", spec := "pkgNames", inPlace := ["internal/bytealg.IndexByteString", "internal/bytealg.IndexString"], unfollowed := true, recurses := true, named := ["chandlery/dep.notNames", "chandlery/arch.names", "chandlery/shape.rows", "unicode/utf8.first", "unicode/utf8.acceptRanges", "internal/bytealg.MaxLen"], apart := false, laid := [("unicode/utf8.acceptRanges", laid_unicode_utf8_acceptRanges), ("chandlery/arch.names", laid_chandlery_arch_names), ("chandlery/dep.notNames", laid_chandlery_dep_notNames), ("chandlery/shape.rows", laid_chandlery_shape_rows), ("unicode/utf8.first", laid_unicode_utf8_first)] }
def PkgNamesSaid : Prop := pkgNamesRow.holds Tryd.pinned (OpenSpec.ofChange pkgNamesSpec)

/-- ITS FALSE NEIGHBOUR: 'it returns false'. Refute it at one input. -/
def pkgNamesWrong : ChangeSpec := { name := "pkgNames", fn := fun _ => fun
  | [] => { results := [.lit (.bool false)], args := [] }
  | _ => none }
def PkgNamesWrongFalsely : Prop := pkgNamesRow.holds Tryd.pinned (OpenSpec.ofChange pkgNamesWrong)

/-- 'chandlerylaw10.PkgLess': WHATEVER THE INPUT: true; the input reads as it did. -/
def pkgLessSpec : ChangeSpec := { name := "pkgLess", fn := fun _ => fun
  | [d1, d2] => { results := [.lit (.bool true)], args := [d1, d2] }
  | _ => none }
def pkgLessRow : OpenClaim := { program := "ytbofbkndmnidpaadoor", sum := "0c04adf0d3e93fe9f3e5deb5a06cfad1a1cc5ead85ee913b9a58f870a0267637", func := "chandlery/chandlerylaw10.PkgLess", spec := "pkgLess", inPlace := ["internal/bytealg.IndexByteString", "internal/bytealg.IndexString"], unfollowed := true, recurses := true, named := ["chandlery/dep.notNames", "chandlery/arch.names", "chandlery/shape.rows", "unicode/utf8.first", "unicode/utf8.acceptRanges", "internal/bytealg.MaxLen"], loops := true, apart := false, laid := [("unicode/utf8.acceptRanges", laid_unicode_utf8_acceptRanges), ("chandlery/arch.names", laid_chandlery_arch_names), ("chandlery/dep.notNames", laid_chandlery_dep_notNames), ("chandlery/shape.rows", laid_chandlery_shape_rows), ("unicode/utf8.first", laid_unicode_utf8_first)] }
def PkgLessSaid : Prop := pkgLessRow.holds Tryd.pinned (OpenSpec.ofChange pkgLessSpec)

/-- ITS FALSE NEIGHBOUR: 'it returns false'. Refute it at one input. -/
def pkgLessWrong : ChangeSpec := { name := "pkgLess", fn := fun _ => fun
  | [d1, d2] => { results := [.lit (.bool false)], args := [d1, d2] }
  | _ => none }
def PkgLessWrongFalsely : Prop := pkgLessRow.holds Tryd.pinned (OpenSpec.ofChange pkgLessWrong)

/- THE SECOND FORM. 'bulk': how many values and letters a reading holds, each counted each time it is reached (what is shared counts as often as it is met; a slice's spare places count too). A statement '..UptoSaid' is the law's where the arguments, and the package variables that the reading takes, are together of bulk at most 1048576: NARROWER than '..Said'. Prove '..Said' where nothing that the law and all that it calls make is longer than what came in: it says more and counts as full. Else prove '..UptoSaid'. A law counts once. -/
mutual
def uptoBulk {H : Type} : DataW H → Nat
  | .lit (.string bytes) => bytes.length + 1
  | .lit _ => 1
  | .nil => 1
  | .ptr d => uptoBulk d + 1
  | .slice elems spare => uptoBulkAll elems + uptoBulkAll spare + 1
  | .agg parts => uptoBulkAll parts + 1
  | .iface _ d => uptoBulk d + 1
  | .map entries => uptoBulkEntries entries + 1
  | .held _ => 1
def uptoBulkAll {H : Type} : List (DataW H) → Nat
  | [] => 0
  | d :: r => uptoBulk d + uptoBulkAll r
def uptoBulkEntries {H : Type} : List (Lit × DataW H) → Nat
  | [] => 0
  | x :: r => uptoBulkEntry x + uptoBulkEntries r
def uptoBulkEntry {H : Type} : Lit × DataW H → Nat
  | (.string bytes, d) => bytes.length + uptoBulk d + 1
  | (_, d) => uptoBulk d + 1
 end
def uptoSmall : (H : Type) → List (DataW H) → Bool := fun _ ds => decide (uptoBulkAll ds ≤ 1048576)
def OpenSpec.upto (s : _root_.Go.ChangeSpec) : _root_.Go.OpenSpec := { _root_.Go.OpenSpec.ofChange s with cond := some uptoSmall }

/-- 'chandlerylaw10.PkgNames', WHERE WHAT IT READS IS OF BULK AT MOST 1048576: true; the input reads as it did. -/
def pkgNamesUptoRow : OpenClaim := { program := "ytbofbkndmnidpaadoor", sum := "0c04adf0d3e93fe9f3e5deb5a06cfad1a1cc5ead85ee913b9a58f870a0267637", func := "chandlery/chandlerylaw10.PkgNames", spec := "pkgNames", inPlace := ["internal/bytealg.IndexByteString", "internal/bytealg.IndexString"], unfollowed := true, recurses := true, named := ["chandlery/dep.notNames", "chandlery/arch.names", "chandlery/shape.rows", "unicode/utf8.first", "unicode/utf8.acceptRanges", "internal/bytealg.MaxLen"], apart := false, laid := [("unicode/utf8.acceptRanges", laid_unicode_utf8_acceptRanges), ("chandlery/arch.names", laid_chandlery_arch_names), ("chandlery/dep.notNames", laid_chandlery_dep_notNames), ("chandlery/shape.rows", laid_chandlery_shape_rows), ("unicode/utf8.first", laid_unicode_utf8_first)], narrowed := true }
def PkgNamesUptoSaid : Prop := pkgNamesUptoRow.holds Tryd.pinned (OpenSpec.upto pkgNamesSpec)

/-- 'chandlerylaw10.PkgLess', WHERE WHAT IT READS IS OF BULK AT MOST 1048576: true; the input reads as it did. -/
def pkgLessUptoRow : OpenClaim := { program := "ytbofbkndmnidpaadoor", sum := "0c04adf0d3e93fe9f3e5deb5a06cfad1a1cc5ead85ee913b9a58f870a0267637", func := "chandlery/chandlerylaw10.PkgLess", spec := "pkgLess", inPlace := ["internal/bytealg.IndexByteString", "internal/bytealg.IndexString"], unfollowed := true, recurses := true, named := ["chandlery/dep.notNames", "chandlery/arch.names", "chandlery/shape.rows", "unicode/utf8.first", "unicode/utf8.acceptRanges", "internal/bytealg.MaxLen"], loops := true, apart := false, laid := [("unicode/utf8.acceptRanges", laid_unicode_utf8_acceptRanges), ("chandlery/arch.names", laid_chandlery_arch_names), ("chandlery/dep.notNames", laid_chandlery_dep_notNames), ("chandlery/shape.rows", laid_chandlery_shape_rows), ("unicode/utf8.first", laid_unicode_utf8_first)], narrowed := true }
def PkgLessUptoSaid : Prop := pkgLessUptoRow.holds Tryd.pinned (OpenSpec.upto pkgLessSpec)

end Rows
end Go.Proofs.YtbofbkndmnidpaaDoor
