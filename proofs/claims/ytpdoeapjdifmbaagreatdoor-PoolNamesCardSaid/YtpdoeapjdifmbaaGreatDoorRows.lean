/-
  NARROWER THAN 'FOR EVERY INPUT', by the rows' own cells (each row's printed sentence says how): PoolTells: loops, laid · PoolNames: laid · PoolOwn: loops, laid · MatchNames: laid · MatchEach: loops, laid · MatchTurned: loops, laid.
  DERIVED. THE GIVEN ROWS OF THIS SEAT. 6 by the template 'for every input the law returns true; each argument reads behind the call as it read before'; 0 by the template 'total and deterministic' (their statements: YtpdoeapjdifmbaaGreatDoorTotals.lean).
  GIVEN WITH THE SEED: the statements are not yours to turn. If you find one false, say at which input.
  Laid BY PROGRAM, IN A SANDBOX (cutbox-rows.mjs): the forced cells as the released guide's own fill.sh prints them over the translation 1e890f1567a4be78… (all of the seat's roots in one cut). By AI agents, Wed Nov 11 2026. No macro, syntax, notation, axiom, sorry.
-/
import Derived.Test.YtpdoeapjdifmbaaGreatDoorChecked
import GoSem.PinnedTables
import GoSem.Claim
import GoSem.ClaimJoined
import GoSem.ClaimMapViews
import Derived.JoinedTies
import Derived.KernelRfl
namespace Go.Proofs.YtpdoeapjdifmbaaGreatDoor
/- THE CELL 'sum', in the pinned program and in every row, IS THE sha256 OF THE DUMP (.gsa) THAT YtpdoeapjdifmbaaGreatDoorProg.lean LOADS. Nothing in Lean hashes anything: it is a label: what it is worth is what the hold of that sum in a sandbox is worth. -/
noncomputable def Tryz.pinned : Pinned := { name := "ytpdoeapjdifmbaagreatdoor", sum := "1e890f1567a4be78c6cec25b06282a8bcb7399436f516bafc58fc0a16147dc94", checked := Tryz.checked }
namespace Rows
def none {H : Type} : Left H := { results := [], args := [] }

/- WHAT THE LISTED PACKAGE-LEVEL VARIABLES READ AS WHEN THE CALL BEGINS. Each datum BY PROGRAM (the guide's laid-datum.mjs) off the statement by which the dump's own 'gosem.cut.vars' lays the variable. In a bare row this is a premise. The card (YtpdoeapjdifmbaaGreatDoorCards.lean) ties it to the program's text. -/
def laid_unicode_utf8_acceptRanges {H : Type} : DataW H := .agg [.agg [.lit (.int .u8 128), .lit (.int .u8 191)], .agg [.lit (.int .u8 160), .lit (.int .u8 191)], .agg [.lit (.int .u8 128), .lit (.int .u8 159)], .agg [.lit (.int .u8 144), .lit (.int .u8 191)], .agg [.lit (.int .u8 128), .lit (.int .u8 143)], .agg [.lit (.int .u8 0), .lit (.int .u8 0)], .agg [.lit (.int .u8 0), .lit (.int .u8 0)], .agg [.lit (.int .u8 0), .lit (.int .u8 0)], .agg [.lit (.int .u8 0), .lit (.int .u8 0)], .agg [.lit (.int .u8 0), .lit (.int .u8 0)], .agg [.lit (.int .u8 0), .lit (.int .u8 0)], .agg [.lit (.int .u8 0), .lit (.int .u8 0)], .agg [.lit (.int .u8 0), .lit (.int .u8 0)], .agg [.lit (.int .u8 0), .lit (.int .u8 0)], .agg [.lit (.int .u8 0), .lit (.int .u8 0)], .agg [.lit (.int .u8 0), .lit (.int .u8 0)]]
def laid_chandlery_arch_names {H : Type} : DataW H := .agg [.lit (.string []), .lit (.string [110, 111, 97, 114, 99, 104]), .lit (.string [120, 56, 54, 95, 54, 52]), .lit (.string [105, 54, 56, 54]), .lit (.string [97, 97, 114, 99, 104, 54, 52])]
def laid_chandlery_dep_notNames {H : Type} : DataW H := .agg [.lit (.string [97, 110, 100]), .lit (.string [111, 114]), .lit (.string [105, 102]), .lit (.string [101, 108, 115, 101]), .lit (.string [117, 110, 108, 101, 115, 115]), .lit (.string [119, 105, 116, 104]), .lit (.string [119, 105, 116, 104, 111, 117, 116])]
def laid_chandlery_shape_rows {H : Type} : DataW H := .agg [.agg [.lit (.bool false), .lit (.int .i64 0), .lit (.int .i64 0), .lit (.int .u8 0), .lit (.bool false)], .agg [.lit (.bool true), .lit (.int .i64 0), .lit (.int .i64 0), .lit (.int .u8 3), .lit (.bool true)], .agg [.lit (.bool false), .lit (.int .i64 2), .lit (.int .i64 24), .lit (.int .u8 3), .lit (.bool true)], .agg [.lit (.bool false), .lit (.int .i64 2), .lit (.int .i64 24), .lit (.int .u8 3), .lit (.bool true)], .agg [.lit (.bool false), .lit (.int .i64 2), .lit (.int .i64 3), .lit (.int .u8 1), .lit (.bool false)], .agg [.lit (.bool false), .lit (.int .i64 2), .lit (.int .i64 3), .lit (.int .u8 2), .lit (.bool false)], .agg [.lit (.bool false), .lit (.int .i64 2), .lit (.int .i64 24), .lit (.int .u8 3), .lit (.bool true)], .agg [.lit (.bool false), .lit (.int .i64 2), .lit (.int .i64 2), .lit (.int .u8 3), .lit (.bool true)]]
/-- One of Go's own tables, pinned by name: the form's constant. -/
def laid_unicode_utf8_first : DataW Unit := Go.Pinned.utf8First

/-- 'chandlerylaw12.PoolTells': WHATEVER THE INPUT: true; the input reads as it did. -/
def poolTellsSpec : ChangeSpec := { name := "poolTells", fn := fun _ => fun
  | [d1, d2, d3, d4, d5] => { results := [.lit (.bool true)], args := [d1, d2, d3, d4, d5] }
  | _ => none }
def poolTellsRow : OpenClaim := { program := "ytpdoeapjdifmbaagreatdoor", sum := "1e890f1567a4be78c6cec25b06282a8bcb7399436f516bafc58fc0a16147dc94", func := "chandlery/chandlerylaw12.PoolTells", spec := "poolTells", inPlace := ["internal/bytealg.IndexByteString", "internal/bytealg.IndexString"], unfollowed := true, recurses := true, named := ["chandlery/dep.notNames", "chandlery/arch.names", "chandlery/shape.rows", "unicode/utf8.first", "unicode/utf8.acceptRanges", "internal/bytealg.MaxLen"], loops := true, apart := false, laid := [("unicode/utf8.acceptRanges", laid_unicode_utf8_acceptRanges), ("chandlery/arch.names", laid_chandlery_arch_names), ("chandlery/dep.notNames", laid_chandlery_dep_notNames), ("chandlery/shape.rows", laid_chandlery_shape_rows), ("unicode/utf8.first", laid_unicode_utf8_first)] }
def PoolTellsSaid : Prop := poolTellsRow.holds Tryz.pinned (OpenSpec.ofChange poolTellsSpec)

/-- ITS FALSE NEIGHBOUR: 'it returns false'. Refute it at one input. -/
def poolTellsWrong : ChangeSpec := { name := "poolTells", fn := fun _ => fun
  | [d1, d2, d3, d4, d5] => { results := [.lit (.bool false)], args := [d1, d2, d3, d4, d5] }
  | _ => none }
def PoolTellsWrongFalsely : Prop := poolTellsRow.holds Tryz.pinned (OpenSpec.ofChange poolTellsWrong)

/-- 'chandlerylaw12.PoolNames': WHATEVER THE INPUT: true; the input reads as it did. -/
def poolNamesSpec : ChangeSpec := { name := "poolNames", fn := fun _ => fun
  | [] => { results := [.lit (.bool true)], args := [] }
  | _ => none }
def poolNamesRow : OpenClaim := { program := "ytpdoeapjdifmbaagreatdoor", sum := "1e890f1567a4be78c6cec25b06282a8bcb7399436f516bafc58fc0a16147dc94", func := "chandlery/chandlerylaw12.PoolNames", spec := "poolNames", inPlace := ["internal/bytealg.IndexByteString", "internal/bytealg.IndexString"], unfollowed := true, recurses := true, named := ["unicode/utf8.first", "unicode/utf8.acceptRanges", "chandlery/dep.notNames", "chandlery/arch.names", "chandlery/shape.rows", "internal/bytealg.MaxLen"], apart := false, laid := [("unicode/utf8.acceptRanges", laid_unicode_utf8_acceptRanges), ("chandlery/arch.names", laid_chandlery_arch_names), ("chandlery/dep.notNames", laid_chandlery_dep_notNames), ("chandlery/shape.rows", laid_chandlery_shape_rows), ("unicode/utf8.first", laid_unicode_utf8_first)] }
def PoolNamesSaid : Prop := poolNamesRow.holds Tryz.pinned (OpenSpec.ofChange poolNamesSpec)

/-- ITS FALSE NEIGHBOUR: 'it returns false'. Refute it at one input. -/
def poolNamesWrong : ChangeSpec := { name := "poolNames", fn := fun _ => fun
  | [] => { results := [.lit (.bool false)], args := [] }
  | _ => none }
def PoolNamesWrongFalsely : Prop := poolNamesRow.holds Tryz.pinned (OpenSpec.ofChange poolNamesWrong)

/-- 'chandlerylaw12.PoolOwn': WHATEVER THE INPUT: true; the input reads as it did. -/
def poolOwnSpec : ChangeSpec := { name := "poolOwn", fn := fun _ => fun
  | [d1, d2] => { results := [.lit (.bool true)], args := [d1, d2] }
  | _ => none }
def poolOwnRow : OpenClaim := { program := "ytpdoeapjdifmbaagreatdoor", sum := "1e890f1567a4be78c6cec25b06282a8bcb7399436f516bafc58fc0a16147dc94", func := "chandlery/chandlerylaw12.PoolOwn", spec := "poolOwn", inPlace := ["internal/bytealg.IndexByteString", "internal/bytealg.IndexString"], unfollowed := true, recurses := true, named := ["chandlery/dep.notNames", "chandlery/arch.names", "chandlery/shape.rows", "internal/bytealg.MaxLen"], loops := true, apart := false, laid := [("chandlery/arch.names", laid_chandlery_arch_names), ("chandlery/dep.notNames", laid_chandlery_dep_notNames), ("chandlery/shape.rows", laid_chandlery_shape_rows)] }
def PoolOwnSaid : Prop := poolOwnRow.holds Tryz.pinned (OpenSpec.ofChange poolOwnSpec)

/-- ITS FALSE NEIGHBOUR: 'it returns false'. Refute it at one input. -/
def poolOwnWrong : ChangeSpec := { name := "poolOwn", fn := fun _ => fun
  | [d1, d2] => { results := [.lit (.bool false)], args := [d1, d2] }
  | _ => none }
def PoolOwnWrongFalsely : Prop := poolOwnRow.holds Tryz.pinned (OpenSpec.ofChange poolOwnWrong)

/-- 'chandlerylaw13.MatchNames': WHATEVER THE INPUT: true; the input reads as it did. -/
def matchNamesSpec : ChangeSpec := { name := "matchNames", fn := fun _ => fun
  | [] => { results := [.lit (.bool true)], args := [] }
  | _ => none }
def matchNamesRow : OpenClaim := { program := "ytpdoeapjdifmbaagreatdoor", sum := "1e890f1567a4be78c6cec25b06282a8bcb7399436f516bafc58fc0a16147dc94", func := "chandlery/chandlerylaw13.MatchNames", spec := "matchNames", inPlace := ["internal/bytealg.IndexByteString", "internal/bytealg.IndexString"], unfollowed := true, recurses := true, named := ["chandlery/dep.notNames", "chandlery/arch.names", "chandlery/shape.rows", "unicode/utf8.first", "unicode/utf8.acceptRanges", "internal/bytealg.MaxLen"], apart := false, laid := [("unicode/utf8.acceptRanges", laid_unicode_utf8_acceptRanges), ("chandlery/arch.names", laid_chandlery_arch_names), ("chandlery/dep.notNames", laid_chandlery_dep_notNames), ("chandlery/shape.rows", laid_chandlery_shape_rows), ("unicode/utf8.first", laid_unicode_utf8_first)] }
def MatchNamesSaid : Prop := matchNamesRow.holds Tryz.pinned (OpenSpec.ofChange matchNamesSpec)

/-- ITS FALSE NEIGHBOUR: 'it returns false'. Refute it at one input. -/
def matchNamesWrong : ChangeSpec := { name := "matchNames", fn := fun _ => fun
  | [] => { results := [.lit (.bool false)], args := [] }
  | _ => none }
def MatchNamesWrongFalsely : Prop := matchNamesRow.holds Tryz.pinned (OpenSpec.ofChange matchNamesWrong)

/-- 'chandlerylaw13.MatchEach': WHATEVER THE INPUT: true; the input reads as it did. -/
def matchEachSpec : ChangeSpec := { name := "matchEach", fn := fun _ => fun
  | [d1, d2, d3] => { results := [.lit (.bool true)], args := [d1, d2, d3] }
  | _ => none }
def matchEachRow : OpenClaim := { program := "ytpdoeapjdifmbaagreatdoor", sum := "1e890f1567a4be78c6cec25b06282a8bcb7399436f516bafc58fc0a16147dc94", func := "chandlery/chandlerylaw13.MatchEach", spec := "matchEach", inPlace := ["internal/bytealg.IndexByteString", "internal/bytealg.IndexString"], unfollowed := true, recurses := true, named := ["chandlery/dep.notNames", "chandlery/arch.names", "chandlery/shape.rows", "unicode/utf8.first", "unicode/utf8.acceptRanges", "internal/bytealg.MaxLen"], loops := true, apart := false, laid := [("unicode/utf8.acceptRanges", laid_unicode_utf8_acceptRanges), ("chandlery/arch.names", laid_chandlery_arch_names), ("chandlery/dep.notNames", laid_chandlery_dep_notNames), ("chandlery/shape.rows", laid_chandlery_shape_rows), ("unicode/utf8.first", laid_unicode_utf8_first)] }
def MatchEachSaid : Prop := matchEachRow.holds Tryz.pinned (OpenSpec.ofChange matchEachSpec)

/-- ITS FALSE NEIGHBOUR: 'it returns false'. Refute it at one input. -/
def matchEachWrong : ChangeSpec := { name := "matchEach", fn := fun _ => fun
  | [d1, d2, d3] => { results := [.lit (.bool false)], args := [d1, d2, d3] }
  | _ => none }
def MatchEachWrongFalsely : Prop := matchEachRow.holds Tryz.pinned (OpenSpec.ofChange matchEachWrong)

/-- 'chandlerylaw13.MatchTurned': WHATEVER THE INPUT: true; the input reads as it did. -/
def matchTurnedSpec : ChangeSpec := { name := "matchTurned", fn := fun _ => fun
  | [d1, d2] => { results := [.lit (.bool true)], args := [d1, d2] }
  | _ => none }
def matchTurnedRow : OpenClaim := { program := "ytpdoeapjdifmbaagreatdoor", sum := "1e890f1567a4be78c6cec25b06282a8bcb7399436f516bafc58fc0a16147dc94", func := "chandlery/chandlerylaw13.MatchTurned", spec := "matchTurned", inPlace := ["internal/bytealg.IndexByteString", "internal/bytealg.IndexString"], unfollowed := true, recurses := true, named := ["chandlery/dep.notNames", "chandlery/arch.names", "chandlery/shape.rows", "unicode/utf8.first", "unicode/utf8.acceptRanges", "internal/bytealg.MaxLen"], loops := true, apart := false, laid := [("unicode/utf8.acceptRanges", laid_unicode_utf8_acceptRanges), ("chandlery/arch.names", laid_chandlery_arch_names), ("chandlery/dep.notNames", laid_chandlery_dep_notNames), ("chandlery/shape.rows", laid_chandlery_shape_rows), ("unicode/utf8.first", laid_unicode_utf8_first)] }
def MatchTurnedSaid : Prop := matchTurnedRow.holds Tryz.pinned (OpenSpec.ofChange matchTurnedSpec)

/-- ITS FALSE NEIGHBOUR: 'it returns false'. Refute it at one input. -/
def matchTurnedWrong : ChangeSpec := { name := "matchTurned", fn := fun _ => fun
  | [d1, d2] => { results := [.lit (.bool false)], args := [d1, d2] }
  | _ => none }
def MatchTurnedWrongFalsely : Prop := matchTurnedRow.holds Tryz.pinned (OpenSpec.ofChange matchTurnedWrong)

/- THE SECOND FORM. 'bulk': how many values and letters a reading holds, each counted each time it is reached (what is shared counts as often as it is met; a slice's spare places count too). A statement '..UptoSaid' is the law's where the arguments, and the package variables that the reading takes, are together of bulk at most 1048576: NARROWER than '..Said'. Prove '..Said' where nothing that the law and all that it calls make is longer than what came in: it says more and counts as full. Else prove '..UptoSaid'. A law counts once. -/
mutual
def uptoBulk {H : Type} : DataW H → Nat
  | .lit (.string bytes) => bytes.length + 1
  | .lit _ => 1
  | .nil => 1
  | .ptr d => uptoBulk d + 1
  | .slice elems spare => uptoBulkAll elems + uptoBulkAll spare + 1
  | .agg parts => uptoBulkAll parts + 1
  | .iface _ d => uptoBulk d + 1
  | .map entries => uptoBulkEntries entries + 1
  | .held _ => 1
def uptoBulkAll {H : Type} : List (DataW H) → Nat
  | [] => 0
  | d :: r => uptoBulk d + uptoBulkAll r
def uptoBulkEntries {H : Type} : List (Lit × DataW H) → Nat
  | [] => 0
  | x :: r => uptoBulkEntry x + uptoBulkEntries r
def uptoBulkEntry {H : Type} : Lit × DataW H → Nat
  | (.string bytes, d) => bytes.length + uptoBulk d + 1
  | (_, d) => uptoBulk d + 1
 end
def uptoSmall : (H : Type) → List (DataW H) → Bool := fun _ ds => decide (uptoBulkAll ds ≤ 1048576)
def OpenSpec.upto (s : _root_.Go.ChangeSpec) : _root_.Go.OpenSpec := { _root_.Go.OpenSpec.ofChange s with cond := some uptoSmall }

/-- 'chandlerylaw12.PoolTells', WHERE WHAT IT READS IS OF BULK AT MOST 1048576: true; the input reads as it did. -/
def poolTellsUptoRow : OpenClaim := { program := "ytpdoeapjdifmbaagreatdoor", sum := "1e890f1567a4be78c6cec25b06282a8bcb7399436f516bafc58fc0a16147dc94", func := "chandlery/chandlerylaw12.PoolTells", spec := "poolTells", inPlace := ["internal/bytealg.IndexByteString", "internal/bytealg.IndexString"], unfollowed := true, recurses := true, named := ["chandlery/dep.notNames", "chandlery/arch.names", "chandlery/shape.rows", "unicode/utf8.first", "unicode/utf8.acceptRanges", "internal/bytealg.MaxLen"], loops := true, apart := false, laid := [("unicode/utf8.acceptRanges", laid_unicode_utf8_acceptRanges), ("chandlery/arch.names", laid_chandlery_arch_names), ("chandlery/dep.notNames", laid_chandlery_dep_notNames), ("chandlery/shape.rows", laid_chandlery_shape_rows), ("unicode/utf8.first", laid_unicode_utf8_first)], narrowed := true }
def PoolTellsUptoSaid : Prop := poolTellsUptoRow.holds Tryz.pinned (OpenSpec.upto poolTellsSpec)

/-- 'chandlerylaw12.PoolNames', WHERE WHAT IT READS IS OF BULK AT MOST 1048576: true; the input reads as it did. -/
def poolNamesUptoRow : OpenClaim := { program := "ytpdoeapjdifmbaagreatdoor", sum := "1e890f1567a4be78c6cec25b06282a8bcb7399436f516bafc58fc0a16147dc94", func := "chandlery/chandlerylaw12.PoolNames", spec := "poolNames", inPlace := ["internal/bytealg.IndexByteString", "internal/bytealg.IndexString"], unfollowed := true, recurses := true, named := ["unicode/utf8.first", "unicode/utf8.acceptRanges", "chandlery/dep.notNames", "chandlery/arch.names", "chandlery/shape.rows", "internal/bytealg.MaxLen"], apart := false, laid := [("unicode/utf8.acceptRanges", laid_unicode_utf8_acceptRanges), ("chandlery/arch.names", laid_chandlery_arch_names), ("chandlery/dep.notNames", laid_chandlery_dep_notNames), ("chandlery/shape.rows", laid_chandlery_shape_rows), ("unicode/utf8.first", laid_unicode_utf8_first)], narrowed := true }
def PoolNamesUptoSaid : Prop := poolNamesUptoRow.holds Tryz.pinned (OpenSpec.upto poolNamesSpec)

/-- 'chandlerylaw12.PoolOwn', WHERE WHAT IT READS IS OF BULK AT MOST 1048576: true; the input reads as it did. -/
def poolOwnUptoRow : OpenClaim := { program := "ytpdoeapjdifmbaagreatdoor", sum := "1e890f1567a4be78c6cec25b06282a8bcb7399436f516bafc58fc0a16147dc94", func := "chandlery/chandlerylaw12.PoolOwn", spec := "poolOwn", inPlace := ["internal/bytealg.IndexByteString", "internal/bytealg.IndexString"], unfollowed := true, recurses := true, named := ["chandlery/dep.notNames", "chandlery/arch.names", "chandlery/shape.rows", "internal/bytealg.MaxLen"], loops := true, apart := false, laid := [("chandlery/arch.names", laid_chandlery_arch_names), ("chandlery/dep.notNames", laid_chandlery_dep_notNames), ("chandlery/shape.rows", laid_chandlery_shape_rows)], narrowed := true }
def PoolOwnUptoSaid : Prop := poolOwnUptoRow.holds Tryz.pinned (OpenSpec.upto poolOwnSpec)

/-- 'chandlerylaw13.MatchNames', WHERE WHAT IT READS IS OF BULK AT MOST 1048576: true; the input reads as it did. -/
def matchNamesUptoRow : OpenClaim := { program := "ytpdoeapjdifmbaagreatdoor", sum := "1e890f1567a4be78c6cec25b06282a8bcb7399436f516bafc58fc0a16147dc94", func := "chandlery/chandlerylaw13.MatchNames", spec := "matchNames", inPlace := ["internal/bytealg.IndexByteString", "internal/bytealg.IndexString"], unfollowed := true, recurses := true, named := ["chandlery/dep.notNames", "chandlery/arch.names", "chandlery/shape.rows", "unicode/utf8.first", "unicode/utf8.acceptRanges", "internal/bytealg.MaxLen"], apart := false, laid := [("unicode/utf8.acceptRanges", laid_unicode_utf8_acceptRanges), ("chandlery/arch.names", laid_chandlery_arch_names), ("chandlery/dep.notNames", laid_chandlery_dep_notNames), ("chandlery/shape.rows", laid_chandlery_shape_rows), ("unicode/utf8.first", laid_unicode_utf8_first)], narrowed := true }
def MatchNamesUptoSaid : Prop := matchNamesUptoRow.holds Tryz.pinned (OpenSpec.upto matchNamesSpec)

/-- 'chandlerylaw13.MatchEach', WHERE WHAT IT READS IS OF BULK AT MOST 1048576: true; the input reads as it did. -/
def matchEachUptoRow : OpenClaim := { program := "ytpdoeapjdifmbaagreatdoor", sum := "1e890f1567a4be78c6cec25b06282a8bcb7399436f516bafc58fc0a16147dc94", func := "chandlery/chandlerylaw13.MatchEach", spec := "matchEach", inPlace := ["internal/bytealg.IndexByteString", "internal/bytealg.IndexString"], unfollowed := true, recurses := true, named := ["chandlery/dep.notNames", "chandlery/arch.names", "chandlery/shape.rows", "unicode/utf8.first", "unicode/utf8.acceptRanges", "internal/bytealg.MaxLen"], loops := true, apart := false, laid := [("unicode/utf8.acceptRanges", laid_unicode_utf8_acceptRanges), ("chandlery/arch.names", laid_chandlery_arch_names), ("chandlery/dep.notNames", laid_chandlery_dep_notNames), ("chandlery/shape.rows", laid_chandlery_shape_rows), ("unicode/utf8.first", laid_unicode_utf8_first)], narrowed := true }
def MatchEachUptoSaid : Prop := matchEachUptoRow.holds Tryz.pinned (OpenSpec.upto matchEachSpec)

/-- 'chandlerylaw13.MatchTurned', WHERE WHAT IT READS IS OF BULK AT MOST 1048576: true; the input reads as it did. -/
def matchTurnedUptoRow : OpenClaim := { program := "ytpdoeapjdifmbaagreatdoor", sum := "1e890f1567a4be78c6cec25b06282a8bcb7399436f516bafc58fc0a16147dc94", func := "chandlery/chandlerylaw13.MatchTurned", spec := "matchTurned", inPlace := ["internal/bytealg.IndexByteString", "internal/bytealg.IndexString"], unfollowed := true, recurses := true, named := ["chandlery/dep.notNames", "chandlery/arch.names", "chandlery/shape.rows", "unicode/utf8.first", "unicode/utf8.acceptRanges", "internal/bytealg.MaxLen"], loops := true, apart := false, laid := [("unicode/utf8.acceptRanges", laid_unicode_utf8_acceptRanges), ("chandlery/arch.names", laid_chandlery_arch_names), ("chandlery/dep.notNames", laid_chandlery_dep_notNames), ("chandlery/shape.rows", laid_chandlery_shape_rows), ("unicode/utf8.first", laid_unicode_utf8_first)], narrowed := true }
def MatchTurnedUptoSaid : Prop := matchTurnedUptoRow.holds Tryz.pinned (OpenSpec.upto matchTurnedSpec)

end Rows
end Go.Proofs.YtpdoeapjdifmbaaGreatDoor
