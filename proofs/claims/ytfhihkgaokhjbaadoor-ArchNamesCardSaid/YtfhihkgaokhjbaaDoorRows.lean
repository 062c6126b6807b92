/-
  NARROWER THAN 'FOR EVERY INPUT', by the rows' own cells (each row's printed sentence says how): ArchNames: laid · ArchTells: laid · ArchOwn: laid · ArchEither: laid.
  DERIVED. THE GIVEN ROWS OF THIS SEAT. 4 by the template 'for every input the law returns true; each argument reads behind the call as it read before'; 0 by the template 'total and deterministic' (their statements: YtfhihkgaokhjbaaDoorTotals.lean).
  GIVEN WITH THE SEED: the statements are not yours to turn. If you find one false, say at which input.
  Laid BY PROGRAM, IN A SANDBOX (cutbox-rows.mjs): the forced cells as the released guide's own fill.sh prints them over the translation 42ad14339ef68fa0… (all of the seat's roots in one cut). By AI agents, Wed Nov 11 2026. No macro, syntax, notation, axiom, sorry.
-/
import Derived.Test.YtfhihkgaokhjbaaDoorChecked
import GoSem.Claim
import GoSem.ClaimJoined
import GoSem.ClaimMapViews
import Derived.JoinedTies
import Derived.KernelRfl
namespace Go.Proofs.YtfhihkgaokhjbaaDoor
/- THE CELL 'sum', in the pinned program and in every row, IS THE sha256 OF THE DUMP (.gsa) THAT YtfhihkgaokhjbaaDoorProg.lean LOADS. Nothing in Lean hashes anything: it is a label: what it is worth is what the hold of that sum in a sandbox is worth. -/
noncomputable def Tryd.pinned : Pinned := { name := "ytfhihkgaokhjbaadoor", sum := "42ad14339ef68fa06bb65c3c13a7574c13c6a9b137635bda3338fd34f519db5b", checked := Tryd.checked }
namespace Rows
def none {H : Type} : Left H := { results := [], args := [] }

/- WHAT THE LISTED PACKAGE-LEVEL VARIABLES READ AS WHEN THE CALL BEGINS. Each datum BY PROGRAM (the guide's laid-datum.mjs) off the statement by which the dump's own 'gosem.cut.vars' lays the variable. In a bare row this is a premise. The card (YtfhihkgaokhjbaaDoorCards.lean) ties it to the program's text. -/
def laid_chandlery_arch_names {H : Type} : DataW H := .agg [.lit (.string []), .lit (.string [110, 111, 97, 114, 99, 104]), .lit (.string [120, 56, 54, 95, 54, 52]), .lit (.string [105, 54, 56, 54]), .lit (.string [97, 97, 114, 99, 104, 54, 52])]
def laid_chandlery_arch_scores {H : Type} : DataW H := .agg [.agg [.lit (.int .i64 0), .lit (.int .i64 0), .lit (.int .i64 0), .lit (.int .i64 0), .lit (.int .i64 0)], .agg [.lit (.int .i64 0), .lit (.int .i64 0), .lit (.int .i64 0), .lit (.int .i64 0), .lit (.int .i64 0)], .agg [.lit (.int .i64 0), .lit (.int .i64 2), .lit (.int .i64 1), .lit (.int .i64 3), .lit (.int .i64 0)], .agg [.lit (.int .i64 0), .lit (.int .i64 2), .lit (.int .i64 0), .lit (.int .i64 1), .lit (.int .i64 0)], .agg [.lit (.int .i64 0), .lit (.int .i64 2), .lit (.int .i64 0), .lit (.int .i64 0), .lit (.int .i64 1)]]

/-- 'chandlerylaw05.ArchNames': WHATEVER THE INPUT: true; the input reads as it did. -/
def archNamesSpec : ChangeSpec := { name := "archNames", fn := fun _ => fun
  | [] => { results := [.lit (.bool true)], args := [] }
  | _ => none }
def archNamesRow : OpenClaim := { program := "ytfhihkgaokhjbaadoor", sum := "42ad14339ef68fa06bb65c3c13a7574c13c6a9b137635bda3338fd34f519db5b", func := "chandlery/chandlerylaw05.ArchNames", spec := "archNames", named := ["chandlery/arch.scores", "chandlery/arch.names"], apart := false, laid := [("chandlery/arch.names", laid_chandlery_arch_names), ("chandlery/arch.scores", laid_chandlery_arch_scores)] }
def ArchNamesSaid : Prop := archNamesRow.holds Tryd.pinned (OpenSpec.ofChange archNamesSpec)

/-- ITS FALSE NEIGHBOUR: 'it returns false'. Refute it at one input. -/
def archNamesWrong : ChangeSpec := { name := "archNames", fn := fun _ => fun
  | [] => { results := [.lit (.bool false)], args := [] }
  | _ => none }
def ArchNamesWrongFalsely : Prop := archNamesRow.holds Tryd.pinned (OpenSpec.ofChange archNamesWrong)

/-- 'chandlerylaw05.ArchTells': WHATEVER THE INPUT: true; the input reads as it did. -/
def archTellsSpec : ChangeSpec := { name := "archTells", fn := fun _ => fun
  | [d1, d2, d3] => { results := [.lit (.bool true)], args := [d1, d2, d3] }
  | _ => none }
def archTellsRow : OpenClaim := { program := "ytfhihkgaokhjbaadoor", sum := "42ad14339ef68fa06bb65c3c13a7574c13c6a9b137635bda3338fd34f519db5b", func := "chandlery/chandlerylaw05.ArchTells", spec := "archTells", named := ["chandlery/arch.names", "chandlery/arch.scores"], apart := false, laid := [("chandlery/arch.names", laid_chandlery_arch_names), ("chandlery/arch.scores", laid_chandlery_arch_scores)] }
def ArchTellsSaid : Prop := archTellsRow.holds Tryd.pinned (OpenSpec.ofChange archTellsSpec)

/-- ITS FALSE NEIGHBOUR: 'it returns false'. Refute it at one input. -/
def archTellsWrong : ChangeSpec := { name := "archTells", fn := fun _ => fun
  | [d1, d2, d3] => { results := [.lit (.bool false)], args := [d1, d2, d3] }
  | _ => none }
def ArchTellsWrongFalsely : Prop := archTellsRow.holds Tryd.pinned (OpenSpec.ofChange archTellsWrong)

/-- 'chandlerylaw05.ArchOwn': WHATEVER THE INPUT: true; the input reads as it did. -/
def archOwnSpec : ChangeSpec := { name := "archOwn", fn := fun _ => fun
  | [d1, d2, d3] => { results := [.lit (.bool true)], args := [d1, d2, d3] }
  | _ => none }
def archOwnRow : OpenClaim := { program := "ytfhihkgaokhjbaadoor", sum := "42ad14339ef68fa06bb65c3c13a7574c13c6a9b137635bda3338fd34f519db5b", func := "chandlery/chandlerylaw05.ArchOwn", spec := "archOwn", named := ["chandlery/arch.scores", "chandlery/arch.names"], apart := false, laid := [("chandlery/arch.names", laid_chandlery_arch_names), ("chandlery/arch.scores", laid_chandlery_arch_scores)] }
def ArchOwnSaid : Prop := archOwnRow.holds Tryd.pinned (OpenSpec.ofChange archOwnSpec)

/-- ITS FALSE NEIGHBOUR: 'it returns false'. Refute it at one input. -/
def archOwnWrong : ChangeSpec := { name := "archOwn", fn := fun _ => fun
  | [d1, d2, d3] => { results := [.lit (.bool false)], args := [d1, d2, d3] }
  | _ => none }
def ArchOwnWrongFalsely : Prop := archOwnRow.holds Tryd.pinned (OpenSpec.ofChange archOwnWrong)

/-- 'chandlerylaw05.ArchEither': WHATEVER THE INPUT: true; the input reads as it did. -/
def archEitherSpec : ChangeSpec := { name := "archEither", fn := fun _ => fun
  | [d1, d2] => { results := [.lit (.bool true)], args := [d1, d2] }
  | _ => none }
def archEitherRow : OpenClaim := { program := "ytfhihkgaokhjbaadoor", sum := "42ad14339ef68fa06bb65c3c13a7574c13c6a9b137635bda3338fd34f519db5b", func := "chandlery/chandlerylaw05.ArchEither", spec := "archEither", named := ["chandlery/arch.scores"], apart := false, laid := [("chandlery/arch.scores", laid_chandlery_arch_scores)] }
def ArchEitherSaid : Prop := archEitherRow.holds Tryd.pinned (OpenSpec.ofChange archEitherSpec)

/-- ITS FALSE NEIGHBOUR: 'it returns false'. Refute it at one input. -/
def archEitherWrong : ChangeSpec := { name := "archEither", fn := fun _ => fun
  | [d1, d2] => { results := [.lit (.bool false)], args := [d1, d2] }
  | _ => none }
def ArchEitherWrongFalsely : Prop := archEitherRow.holds Tryd.pinned (OpenSpec.ofChange archEitherWrong)

/- THE SECOND FORM. 'bulk': how many values and letters a reading holds, each counted each time it is reached (what is shared counts as often as it is met; a slice's spare places count too). A statement '..UptoSaid' is the law's where the arguments, and the package variables that the reading takes, are together of bulk at most 1048576: NARROWER than '..Said'. Prove '..Said' where nothing that the law and all that it calls make is longer than what came in: it says more and counts as full. Else prove '..UptoSaid'. A law counts once. -/
mutual
def uptoBulk {H : Type} : DataW H → Nat
  | .lit (.string bytes) => bytes.length + 1
  | .lit _ => 1
  | .nil => 1
  | .ptr d => uptoBulk d + 1
  | .slice elems spare => uptoBulkAll elems + uptoBulkAll spare + 1
  | .agg parts => uptoBulkAll parts + 1
  | .iface _ d => uptoBulk d + 1
  | .map entries => uptoBulkEntries entries + 1
  | .held _ => 1
def uptoBulkAll {H : Type} : List (DataW H) → Nat
  | [] => 0
  | d :: r => uptoBulk d + uptoBulkAll r
def uptoBulkEntries {H : Type} : List (Lit × DataW H) → Nat
  | [] => 0
  | x :: r => uptoBulkEntry x + uptoBulkEntries r
def uptoBulkEntry {H : Type} : Lit × DataW H → Nat
  | (.string bytes, d) => bytes.length + uptoBulk d + 1
  | (_, d) => uptoBulk d + 1
 end
def uptoSmall : (H : Type) → List (DataW H) → Bool := fun _ ds => decide (uptoBulkAll ds ≤ 1048576)
def OpenSpec.upto (s : _root_.Go.ChangeSpec) : _root_.Go.OpenSpec := { _root_.Go.OpenSpec.ofChange s with cond := some uptoSmall }

/-- 'chandlerylaw05.ArchNames', WHERE WHAT IT READS IS OF BULK AT MOST 1048576: true; the input reads as it did. -/
def archNamesUptoRow : OpenClaim := { program := "ytfhihkgaokhjbaadoor", sum := "42ad14339ef68fa06bb65c3c13a7574c13c6a9b137635bda3338fd34f519db5b", func := "chandlery/chandlerylaw05.ArchNames", spec := "archNames", named := ["chandlery/arch.scores", "chandlery/arch.names"], apart := false, laid := [("chandlery/arch.names", laid_chandlery_arch_names), ("chandlery/arch.scores", laid_chandlery_arch_scores)], narrowed := true }
def ArchNamesUptoSaid : Prop := archNamesUptoRow.holds Tryd.pinned (OpenSpec.upto archNamesSpec)

/-- 'chandlerylaw05.ArchTells', WHERE WHAT IT READS IS OF BULK AT MOST 1048576: true; the input reads as it did. -/
def archTellsUptoRow : OpenClaim := { program := "ytfhihkgaokhjbaadoor", sum := "42ad14339ef68fa06bb65c3c13a7574c13c6a9b137635bda3338fd34f519db5b", func := "chandlery/chandlerylaw05.ArchTells", spec := "archTells", named := ["chandlery/arch.names", "chandlery/arch.scores"], apart := false, laid := [("chandlery/arch.names", laid_chandlery_arch_names), ("chandlery/arch.scores", laid_chandlery_arch_scores)], narrowed := true }
def ArchTellsUptoSaid : Prop := archTellsUptoRow.holds Tryd.pinned (OpenSpec.upto archTellsSpec)

/-- 'chandlerylaw05.ArchOwn', WHERE WHAT IT READS IS OF BULK AT MOST 1048576: true; the input reads as it did. -/
def archOwnUptoRow : OpenClaim := { program := "ytfhihkgaokhjbaadoor", sum := "42ad14339ef68fa06bb65c3c13a7574c13c6a9b137635bda3338fd34f519db5b", func := "chandlery/chandlerylaw05.ArchOwn", spec := "archOwn", named := ["chandlery/arch.scores", "chandlery/arch.names"], apart := false, laid := [("chandlery/arch.names", laid_chandlery_arch_names), ("chandlery/arch.scores", laid_chandlery_arch_scores)], narrowed := true }
def ArchOwnUptoSaid : Prop := archOwnUptoRow.holds Tryd.pinned (OpenSpec.upto archOwnSpec)

/-- 'chandlerylaw05.ArchEither', WHERE WHAT IT READS IS OF BULK AT MOST 1048576: true; the input reads as it did. -/
def archEitherUptoRow : OpenClaim := { program := "ytfhihkgaokhjbaadoor", sum := "42ad14339ef68fa06bb65c3c13a7574c13c6a9b137635bda3338fd34f519db5b", func := "chandlery/chandlerylaw05.ArchEither", spec := "archEither", named := ["chandlery/arch.scores"], apart := false, laid := [("chandlery/arch.scores", laid_chandlery_arch_scores)], narrowed := true }
def ArchEitherUptoSaid : Prop := archEitherUptoRow.holds Tryd.pinned (OpenSpec.upto archEitherSpec)

end Rows
end Go.Proofs.YtfhihkgaokhjbaaDoor
