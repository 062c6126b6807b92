/-
  NARROWER THAN 'FOR EVERY INPUT', by the rows' own cells (each row's printed sentence says how): AskNames: laid · AskItself: loops, laid · AskEdits: loops, laid · AskStates: loops, laid.
  DERIVED. THE GIVEN ROWS OF THIS SEAT. 4 by the template 'for every input the law returns true; each argument reads behind the call as it read before'; 0 by the template 'total and deterministic' (their statements: YtnfhpecllidgoaaGreatDoorTotals.lean).
  GIVEN WITH THE SEED: the statements are not yours to turn. If you find one false, say at which input.
  Laid BY PROGRAM, IN A SANDBOX (cutbox-rows.mjs): the forced cells as the released guide's own fill.sh prints them over the translation c5e08703ee136975… (all of the seat's roots in one cut). By AI agents, Wed Nov 11 2026. No macro, syntax, notation, axiom, sorry.
-/
import Derived.Test.YtnfhpecllidgoaaGreatDoorChecked
import GoSem.PinnedTables
import GoSem.Claim
import GoSem.ClaimJoined
import GoSem.ClaimMapViews
import Derived.JoinedTies
import Derived.KernelRfl
namespace Go.Proofs.YtnfhpecllidgoaaGreatDoor
/- THE CELL 'sum', in the pinned program and in every row, IS THE sha256 OF THE DUMP (.gsa) THAT YtnfhpecllidgoaaGreatDoorProg.lean LOADS. Nothing in Lean hashes anything: it is a label: what it is worth is what the hold of that sum in a sandbox is worth. -/
noncomputable def Tryz.pinned : Pinned := { name := "ytnfhpecllidgoaagreatdoor", sum := "c5e08703ee13697519ec6d93ef5135093c52b0c6a4f64838ac84c2617f93e46b", checked := Tryz.checked }
namespace Rows
def none {H : Type} : Left H := { results := [], args := [] }

/- WHAT THE LISTED PACKAGE-LEVEL VARIABLES READ AS WHEN THE CALL BEGINS. Each datum BY PROGRAM (the guide's laid-datum.mjs) off the statement by which the dump's own 'gosem.cut.vars' lays the variable. In a bare row this is a premise. The card (YtnfhpecllidgoaaGreatDoorCards.lean) ties it to the program's text. -/
def laid_unicode_utf8_acceptRanges {H : Type} : DataW H := .agg [.agg [.lit (.int .u8 128), .lit (.int .u8 191)], .agg [.lit (.int .u8 160), .lit (.int .u8 191)], .agg [.lit (.int .u8 128), .lit (.int .u8 159)], .agg [.lit (.int .u8 144), .lit (.int .u8 191)], .agg [.lit (.int .u8 128), .lit (.int .u8 143)], .agg [.lit (.int .u8 0), .lit (.int .u8 0)], .agg [.lit (.int .u8 0), .lit (.int .u8 0)], .agg [.lit (.int .u8 0), .lit (.int .u8 0)], .agg [.lit (.int .u8 0), .lit (.int .u8 0)], .agg [.lit (.int .u8 0), .lit (.int .u8 0)], .agg [.lit (.int .u8 0), .lit (.int .u8 0)], .agg [.lit (.int .u8 0), .lit (.int .u8 0)], .agg [.lit (.int .u8 0), .lit (.int .u8 0)], .agg [.lit (.int .u8 0), .lit (.int .u8 0)], .agg [.lit (.int .u8 0), .lit (.int .u8 0)], .agg [.lit (.int .u8 0), .lit (.int .u8 0)]]
def laid_chandlery_arch_names {H : Type} : DataW H := .agg [.lit (.string []), .lit (.string [110, 111, 97, 114, 99, 104]), .lit (.string [120, 56, 54, 95, 54, 52]), .lit (.string [105, 54, 56, 54]), .lit (.string [97, 97, 114, 99, 104, 54, 52])]
def laid_chandlery_arch_scores {H : Type} : DataW H := .agg [.agg [.lit (.int .i64 0), .lit (.int .i64 0), .lit (.int .i64 0), .lit (.int .i64 0), .lit (.int .i64 0)], .agg [.lit (.int .i64 0), .lit (.int .i64 0), .lit (.int .i64 0), .lit (.int .i64 0), .lit (.int .i64 0)], .agg [.lit (.int .i64 0), .lit (.int .i64 2), .lit (.int .i64 1), .lit (.int .i64 3), .lit (.int .i64 0)], .agg [.lit (.int .i64 0), .lit (.int .i64 2), .lit (.int .i64 0), .lit (.int .i64 1), .lit (.int .i64 0)], .agg [.lit (.int .i64 0), .lit (.int .i64 2), .lit (.int .i64 0), .lit (.int .i64 0), .lit (.int .i64 1)]]
def laid_chandlery_dep_notNames {H : Type} : DataW H := .agg [.lit (.string [97, 110, 100]), .lit (.string [111, 114]), .lit (.string [105, 102]), .lit (.string [101, 108, 115, 101]), .lit (.string [117, 110, 108, 101, 115, 115]), .lit (.string [119, 105, 116, 104]), .lit (.string [119, 105, 116, 104, 111, 117, 116])]
def laid_chandlery_shape_rows {H : Type} : DataW H := .agg [.agg [.lit (.bool false), .lit (.int .i64 0), .lit (.int .i64 0), .lit (.int .u8 0), .lit (.bool false)], .agg [.lit (.bool true), .lit (.int .i64 0), .lit (.int .i64 0), .lit (.int .u8 3), .lit (.bool true)], .agg [.lit (.bool false), .lit (.int .i64 2), .lit (.int .i64 24), .lit (.int .u8 3), .lit (.bool true)], .agg [.lit (.bool false), .lit (.int .i64 2), .lit (.int .i64 24), .lit (.int .u8 3), .lit (.bool true)], .agg [.lit (.bool false), .lit (.int .i64 2), .lit (.int .i64 3), .lit (.int .u8 1), .lit (.bool false)], .agg [.lit (.bool false), .lit (.int .i64 2), .lit (.int .i64 3), .lit (.int .u8 2), .lit (.bool false)], .agg [.lit (.bool false), .lit (.int .i64 2), .lit (.int .i64 24), .lit (.int .u8 3), .lit (.bool true)], .agg [.lit (.bool false), .lit (.int .i64 2), .lit (.int .i64 2), .lit (.int .u8 3), .lit (.bool true)]]
/-- One of Go's own tables, pinned by name: the form's constant. -/
def laid_unicode_utf8_first : DataW Unit := Go.Pinned.utf8First

/-- 'chandlerylaw15.AskNames': WHATEVER THE INPUT: true; the input reads as it did. -/
def askNamesSpec : ChangeSpec := { name := "askNames", fn := fun _ => fun
  | [] => { results := [.lit (.bool true)], args := [] }
  | _ => none }
def askNamesRow : OpenClaim := { program := "ytnfhpecllidgoaagreatdoor", sum := "c5e08703ee13697519ec6d93ef5135093c52b0c6a4f64838ac84c2617f93e46b", func := "chandlery/chandlerylaw15.AskNames", spec := "askNames", inPlace := ["internal/bytealg.IndexByteString", "internal/bytealg.IndexString"], unfollowed := true, recurses := true, named := ["chandlery/dep.notNames", "unicode/utf8.first", "unicode/utf8.acceptRanges", "chandlery/arch.names", "chandlery/shape.rows", "chandlery/arch.scores", "internal/bytealg.MaxLen"], apart := false, laid := [("unicode/utf8.acceptRanges", laid_unicode_utf8_acceptRanges), ("chandlery/arch.names", laid_chandlery_arch_names), ("chandlery/arch.scores", laid_chandlery_arch_scores), ("chandlery/dep.notNames", laid_chandlery_dep_notNames), ("chandlery/shape.rows", laid_chandlery_shape_rows), ("unicode/utf8.first", laid_unicode_utf8_first)] }
def AskNamesSaid : Prop := askNamesRow.holds Tryz.pinned (OpenSpec.ofChange askNamesSpec)

/-- ITS FALSE NEIGHBOUR: 'it returns false'. Refute it at one input. -/
def askNamesWrong : ChangeSpec := { name := "askNames", fn := fun _ => fun
  | [] => { results := [.lit (.bool false)], args := [] }
  | _ => none }
def AskNamesWrongFalsely : Prop := askNamesRow.holds Tryz.pinned (OpenSpec.ofChange askNamesWrong)

/-- 'chandlerylaw15.AskItself': WHATEVER THE INPUT: true; the input reads as it did. -/
def askItselfSpec : ChangeSpec := { name := "askItself", fn := fun _ => fun
  | [d1, d2, d3] => { results := [.lit (.bool true)], args := [d1, d2, d3] }
  | _ => none }
def askItselfRow : OpenClaim := { program := "ytnfhpecllidgoaagreatdoor", sum := "c5e08703ee13697519ec6d93ef5135093c52b0c6a4f64838ac84c2617f93e46b", func := "chandlery/chandlerylaw15.AskItself", spec := "askItself", inPlace := ["internal/bytealg.IndexByteString", "internal/bytealg.IndexString"], unfollowed := true, recurses := true, named := ["chandlery/dep.notNames", "chandlery/arch.names", "chandlery/shape.rows", "unicode/utf8.first", "unicode/utf8.acceptRanges", "chandlery/arch.scores", "internal/bytealg.MaxLen"], loops := true, apart := false, laid := [("unicode/utf8.acceptRanges", laid_unicode_utf8_acceptRanges), ("chandlery/arch.names", laid_chandlery_arch_names), ("chandlery/arch.scores", laid_chandlery_arch_scores), ("chandlery/dep.notNames", laid_chandlery_dep_notNames), ("chandlery/shape.rows", laid_chandlery_shape_rows), ("unicode/utf8.first", laid_unicode_utf8_first)] }
def AskItselfSaid : Prop := askItselfRow.holds Tryz.pinned (OpenSpec.ofChange askItselfSpec)

/-- ITS FALSE NEIGHBOUR: 'it returns false'. Refute it at one input. -/
def askItselfWrong : ChangeSpec := { name := "askItself", fn := fun _ => fun
  | [d1, d2, d3] => { results := [.lit (.bool false)], args := [d1, d2, d3] }
  | _ => none }
def AskItselfWrongFalsely : Prop := askItselfRow.holds Tryz.pinned (OpenSpec.ofChange askItselfWrong)

/-- 'chandlerylaw15.AskEdits': WHATEVER THE INPUT: true; the input reads as it did. -/
def askEditsSpec : ChangeSpec := { name := "askEdits", fn := fun _ => fun
  | [d1, d2, d3, d4] => { results := [.lit (.bool true)], args := [d1, d2, d3, d4] }
  | _ => none }
def askEditsRow : OpenClaim := { program := "ytnfhpecllidgoaagreatdoor", sum := "c5e08703ee13697519ec6d93ef5135093c52b0c6a4f64838ac84c2617f93e46b", func := "chandlery/chandlerylaw15.AskEdits", spec := "askEdits", inPlace := ["internal/bytealg.IndexByteString", "internal/bytealg.IndexString"], unfollowed := true, recurses := true, named := ["chandlery/dep.notNames", "chandlery/arch.names", "chandlery/shape.rows", "unicode/utf8.first", "unicode/utf8.acceptRanges", "internal/bytealg.MaxLen"], loops := true, apart := false, laid := [("unicode/utf8.acceptRanges", laid_unicode_utf8_acceptRanges), ("chandlery/arch.names", laid_chandlery_arch_names), ("chandlery/dep.notNames", laid_chandlery_dep_notNames), ("chandlery/shape.rows", laid_chandlery_shape_rows), ("unicode/utf8.first", laid_unicode_utf8_first)] }
def AskEditsSaid : Prop := askEditsRow.holds Tryz.pinned (OpenSpec.ofChange askEditsSpec)

/-- ITS FALSE NEIGHBOUR: 'it returns false'. Refute it at one input. -/
def askEditsWrong : ChangeSpec := { name := "askEdits", fn := fun _ => fun
  | [d1, d2, d3, d4] => { results := [.lit (.bool false)], args := [d1, d2, d3, d4] }
  | _ => none }
def AskEditsWrongFalsely : Prop := askEditsRow.holds Tryz.pinned (OpenSpec.ofChange askEditsWrong)

/-- 'chandlerylaw15.AskStates': WHATEVER THE INPUT: true; the input reads as it did. -/
def askStatesSpec : ChangeSpec := { name := "askStates", fn := fun _ => fun
  | [d1, d2, d3, d4, d5] => { results := [.lit (.bool true)], args := [d1, d2, d3, d4, d5] }
  | _ => none }
def askStatesRow : OpenClaim := { program := "ytnfhpecllidgoaagreatdoor", sum := "c5e08703ee13697519ec6d93ef5135093c52b0c6a4f64838ac84c2617f93e46b", func := "chandlery/chandlerylaw15.AskStates", spec := "askStates", inPlace := ["internal/bytealg.IndexByteString", "internal/bytealg.IndexString"], unfollowed := true, recurses := true, named := ["chandlery/dep.notNames", "chandlery/arch.names", "chandlery/shape.rows", "unicode/utf8.first", "unicode/utf8.acceptRanges", "chandlery/arch.scores", "internal/bytealg.MaxLen"], loops := true, apart := false, laid := [("unicode/utf8.acceptRanges", laid_unicode_utf8_acceptRanges), ("chandlery/arch.names", laid_chandlery_arch_names), ("chandlery/arch.scores", laid_chandlery_arch_scores), ("chandlery/dep.notNames", laid_chandlery_dep_notNames), ("chandlery/shape.rows", laid_chandlery_shape_rows), ("unicode/utf8.first", laid_unicode_utf8_first)] }
def AskStatesSaid : Prop := askStatesRow.holds Tryz.pinned (OpenSpec.ofChange askStatesSpec)

/-- ITS FALSE NEIGHBOUR: 'it returns false'. Refute it at one input. -/
def askStatesWrong : ChangeSpec := { name := "askStates", fn := fun _ => fun
  | [d1, d2, d3, d4, d5] => { results := [.lit (.bool false)], args := [d1, d2, d3, d4, d5] }
  | _ => none }
def AskStatesWrongFalsely : Prop := askStatesRow.holds Tryz.pinned (OpenSpec.ofChange askStatesWrong)

/- THE SECOND FORM. 'bulk': how many values and letters a reading holds, each counted each time it is reached (what is shared counts as often as it is met; a slice's spare places count too). A statement '..UptoSaid' is the law's where the arguments, and the package variables that the reading takes, are together of bulk at most 1048576: NARROWER than '..Said'. Prove '..Said' where nothing that the law and all that it calls make is longer than what came in: it says more and counts as full. Else prove '..UptoSaid'. A law counts once. -/
mutual
def uptoBulk {H : Type} : DataW H → Nat
  | .lit (.string bytes) => bytes.length + 1
  | .lit _ => 1
  | .nil => 1
  | .ptr d => uptoBulk d + 1
  | .slice elems spare => uptoBulkAll elems + uptoBulkAll spare + 1
  | .agg parts => uptoBulkAll parts + 1
  | .iface _ d => uptoBulk d + 1
  | .map entries => uptoBulkEntries entries + 1
  | .held _ => 1
def uptoBulkAll {H : Type} : List (DataW H) → Nat
  | [] => 0
  | d :: r => uptoBulk d + uptoBulkAll r
def uptoBulkEntries {H : Type} : List (Lit × DataW H) → Nat
  | [] => 0
  | x :: r => uptoBulkEntry x + uptoBulkEntries r
def uptoBulkEntry {H : Type} : Lit × DataW H → Nat
  | (.string bytes, d) => bytes.length + uptoBulk d + 1
  | (_, d) => uptoBulk d + 1
 end
def uptoSmall : (H : Type) → List (DataW H) → Bool := fun _ ds => decide (uptoBulkAll ds ≤ 1048576)
def OpenSpec.upto (s : _root_.Go.ChangeSpec) : _root_.Go.OpenSpec := { _root_.Go.OpenSpec.ofChange s with cond := some uptoSmall }

/-- 'chandlerylaw15.AskNames', WHERE WHAT IT READS IS OF BULK AT MOST 1048576: true; the input reads as it did. -/
def askNamesUptoRow : OpenClaim := { program := "ytnfhpecllidgoaagreatdoor", sum := "c5e08703ee13697519ec6d93ef5135093c52b0c6a4f64838ac84c2617f93e46b", func := "chandlery/chandlerylaw15.AskNames", spec := "askNames", inPlace := ["internal/bytealg.IndexByteString", "internal/bytealg.IndexString"], unfollowed := true, recurses := true, named := ["chandlery/dep.notNames", "unicode/utf8.first", "unicode/utf8.acceptRanges", "chandlery/arch.names", "chandlery/shape.rows", "chandlery/arch.scores", "internal/bytealg.MaxLen"], apart := false, laid := [("unicode/utf8.acceptRanges", laid_unicode_utf8_acceptRanges), ("chandlery/arch.names", laid_chandlery_arch_names), ("chandlery/arch.scores", laid_chandlery_arch_scores), ("chandlery/dep.notNames", laid_chandlery_dep_notNames), ("chandlery/shape.rows", laid_chandlery_shape_rows), ("unicode/utf8.first", laid_unicode_utf8_first)], narrowed := true }
def AskNamesUptoSaid : Prop := askNamesUptoRow.holds Tryz.pinned (OpenSpec.upto askNamesSpec)

/-- 'chandlerylaw15.AskItself', WHERE WHAT IT READS IS OF BULK AT MOST 1048576: true; the input reads as it did. -/
def askItselfUptoRow : OpenClaim := { program := "ytnfhpecllidgoaagreatdoor", sum := "c5e08703ee13697519ec6d93ef5135093c52b0c6a4f64838ac84c2617f93e46b", func := "chandlery/chandlerylaw15.AskItself", spec := "askItself", inPlace := ["internal/bytealg.IndexByteString", "internal/bytealg.IndexString"], unfollowed := true, recurses := true, named := ["chandlery/dep.notNames", "chandlery/arch.names", "chandlery/shape.rows", "unicode/utf8.first", "unicode/utf8.acceptRanges", "chandlery/arch.scores", "internal/bytealg.MaxLen"], loops := true, apart := false, laid := [("unicode/utf8.acceptRanges", laid_unicode_utf8_acceptRanges), ("chandlery/arch.names", laid_chandlery_arch_names), ("chandlery/arch.scores", laid_chandlery_arch_scores), ("chandlery/dep.notNames", laid_chandlery_dep_notNames), ("chandlery/shape.rows", laid_chandlery_shape_rows), ("unicode/utf8.first", laid_unicode_utf8_first)], narrowed := true }
def AskItselfUptoSaid : Prop := askItselfUptoRow.holds Tryz.pinned (OpenSpec.upto askItselfSpec)

/-- 'chandlerylaw15.AskEdits', WHERE WHAT IT READS IS OF BULK AT MOST 1048576: true; the input reads as it did. -/
def askEditsUptoRow : OpenClaim := { program := "ytnfhpecllidgoaagreatdoor", sum := "c5e08703ee13697519ec6d93ef5135093c52b0c6a4f64838ac84c2617f93e46b", func := "chandlery/chandlerylaw15.AskEdits", spec := "askEdits", inPlace := ["internal/bytealg.IndexByteString", "internal/bytealg.IndexString"], unfollowed := true, recurses := true, named := ["chandlery/dep.notNames", "chandlery/arch.names", "chandlery/shape.rows", "unicode/utf8.first", "unicode/utf8.acceptRanges", "internal/bytealg.MaxLen"], loops := true, apart := false, laid := [("unicode/utf8.acceptRanges", laid_unicode_utf8_acceptRanges), ("chandlery/arch.names", laid_chandlery_arch_names), ("chandlery/dep.notNames", laid_chandlery_dep_notNames), ("chandlery/shape.rows", laid_chandlery_shape_rows), ("unicode/utf8.first", laid_unicode_utf8_first)], narrowed := true }
def AskEditsUptoSaid : Prop := askEditsUptoRow.holds Tryz.pinned (OpenSpec.upto askEditsSpec)

/-- 'chandlerylaw15.AskStates', WHERE WHAT IT READS IS OF BULK AT MOST 1048576: true; the input reads as it did. -/
def askStatesUptoRow : OpenClaim := { program := "ytnfhpecllidgoaagreatdoor", sum := "c5e08703ee13697519ec6d93ef5135093c52b0c6a4f64838ac84c2617f93e46b", func := "chandlery/chandlerylaw15.AskStates", spec := "askStates", inPlace := ["internal/bytealg.IndexByteString", "internal/bytealg.IndexString"], unfollowed := true, recurses := true, named := ["chandlery/dep.notNames", "chandlery/arch.names", "chandlery/shape.rows", "unicode/utf8.first", "unicode/utf8.acceptRanges", "chandlery/arch.scores", "internal/bytealg.MaxLen"], loops := true, apart := false, laid := [("unicode/utf8.acceptRanges", laid_unicode_utf8_acceptRanges), ("chandlery/arch.names", laid_chandlery_arch_names), ("chandlery/arch.scores", laid_chandlery_arch_scores), ("chandlery/dep.notNames", laid_chandlery_dep_notNames), ("chandlery/shape.rows", laid_chandlery_shape_rows), ("unicode/utf8.first", laid_unicode_utf8_first)], narrowed := true }
def AskStatesUptoSaid : Prop := askStatesUptoRow.holds Tryz.pinned (OpenSpec.upto askStatesSpec)

end Rows
end Go.Proofs.YtnfhpecllidgoaaGreatDoor
