/-
  NARROWER THAN 'FOR EVERY INPUT', by the rows' own cells (each row's printed sentence says how): PoolRow: loops, laid · PoolLess: loops, laid.
  DERIVED. THE GIVEN ROWS OF THIS SEAT. 2 by the template 'for every input the law returns true; each argument reads behind the call as it read before'; 0 by the template 'total and deterministic' (their statements: YtlpalepkomkngaaDoorTotals.lean).
  GIVEN WITH THE SEED: the statements are not yours to turn. If you find one false, say at which input.
  Laid BY PROGRAM, IN A SANDBOX (cutbox-rows.mjs): the forced cells as the released guide's own fill.sh prints them over the translation 455a9613570a154c… (all of the seat's roots in one cut). By AI agents, Wed Nov 11 2026. No macro, syntax, notation, axiom, sorry.
-/
import Derived.Test.YtlpalepkomkngaaDoorChecked
import GoSem.Claim
import GoSem.ClaimJoined
import GoSem.ClaimMapViews
import Derived.JoinedTies
import Derived.KernelRfl
namespace Go.Proofs.YtlpalepkomkngaaDoor
/- THE CELL 'sum', in the pinned program and in every row, IS THE sha256 OF THE DUMP (.gsa) THAT YtlpalepkomkngaaDoorProg.lean LOADS. Nothing in Lean hashes anything: it is a label: what it is worth is what the hold of that sum in a sandbox is worth. -/
noncomputable def Tryd.pinned : Pinned := { name := "ytlpalepkomkngaadoor", sum := "455a9613570a154c1aa829217a21adda2b6479fce8467aac43656db6f56212bd", checked := Tryd.checked }
namespace Rows
def none {H : Type} : Left H := { results := [], args := [] }

/- WHAT THE LISTED PACKAGE-LEVEL VARIABLES READ AS WHEN THE CALL BEGINS. Each datum BY PROGRAM (the guide's laid-datum.mjs) off the statement by which the dump's own 'gosem.cut.vars' lays the variable. In a bare row this is a premise. The card (YtlpalepkomkngaaDoorCards.lean) ties it to the program's text. -/
def laid_chandlery_arch_names {H : Type} : DataW H := .agg [.lit (.string []), .lit (.string [110, 111, 97, 114, 99, 104]), .lit (.string [120, 56, 54, 95, 54, 52]), .lit (.string [105, 54, 56, 54]), .lit (.string [97, 97, 114, 99, 104, 54, 52])]
def laid_chandlery_dep_notNames {H : Type} : DataW H := .agg [.lit (.string [97, 110, 100]), .lit (.string [111, 114]), .lit (.string [105, 102]), .lit (.string [101, 108, 115, 101]), .lit (.string [117, 110, 108, 101, 115, 115]), .lit (.string [119, 105, 116, 104]), .lit (.string [119, 105, 116, 104, 111, 117, 116])]
def laid_chandlery_shape_rows {H : Type} : DataW H := .agg [.agg [.lit (.bool false), .lit (.int .i64 0), .lit (.int .i64 0), .lit (.int .u8 0), .lit (.bool false)], .agg [.lit (.bool true), .lit (.int .i64 0), .lit (.int .i64 0), .lit (.int .u8 3), .lit (.bool true)], .agg [.lit (.bool false), .lit (.int .i64 2), .lit (.int .i64 24), .lit (.int .u8 3), .lit (.bool true)], .agg [.lit (.bool false), .lit (.int .i64 2), .lit (.int .i64 24), .lit (.int .u8 3), .lit (.bool true)], .agg [.lit (.bool false), .lit (.int .i64 2), .lit (.int .i64 3), .lit (.int .u8 1), .lit (.bool false)], .agg [.lit (.bool false), .lit (.int .i64 2), .lit (.int .i64 3), .lit (.int .u8 2), .lit (.bool false)], .agg [.lit (.bool false), .lit (.int .i64 2), .lit (.int .i64 24), .lit (.int .u8 3), .lit (.bool true)], .agg [.lit (.bool false), .lit (.int .i64 2), .lit (.int .i64 2), .lit (.int .u8 3), .lit (.bool true)]]

/-- 'chandlerylaw12.PoolRow': WHATEVER THE INPUT: true; the input reads as it did. -/
def poolRowSpec : ChangeSpec := { name := "poolRow", fn := fun _ => fun
  | [d1, d2] => { results := [.lit (.bool true)], args := [d1, d2] }
  | _ => none }
def poolRowRow : OpenClaim := { program := "ytlpalepkomkngaadoor", sum := "455a9613570a154c1aa829217a21adda2b6479fce8467aac43656db6f56212bd", func := "chandlery/chandlerylaw12.PoolRow", spec := "poolRow", inPlace := ["internal/bytealg.IndexByteString", "internal/bytealg.IndexString"], unfollowed := true, recurses := true, named := ["chandlery/dep.notNames", "chandlery/arch.names", "chandlery/shape.rows", "internal/bytealg.MaxLen"], loops := true, apart := false, laid := [("chandlery/arch.names", laid_chandlery_arch_names), ("chandlery/dep.notNames", laid_chandlery_dep_notNames), ("chandlery/shape.rows", laid_chandlery_shape_rows)] }
def PoolRowSaid : Prop := poolRowRow.holds Tryd.pinned (OpenSpec.ofChange poolRowSpec)

/-- ITS FALSE NEIGHBOUR: 'it returns false'. Refute it at one input. -/
def poolRowWrong : ChangeSpec := { name := "poolRow", fn := fun _ => fun
  | [d1, d2] => { results := [.lit (.bool false)], args := [d1, d2] }
  | _ => none }
def PoolRowWrongFalsely : Prop := poolRowRow.holds Tryd.pinned (OpenSpec.ofChange poolRowWrong)

/-- 'chandlerylaw12.PoolLess': WHATEVER THE INPUT: true; the input reads as it did. -/
def poolLessSpec : ChangeSpec := { name := "poolLess", fn := fun _ => fun
  | [d1, d2] => { results := [.lit (.bool true)], args := [d1, d2] }
  | _ => none }
def poolLessRow : OpenClaim := { program := "ytlpalepkomkngaadoor", sum := "455a9613570a154c1aa829217a21adda2b6479fce8467aac43656db6f56212bd", func := "chandlery/chandlerylaw12.PoolLess", spec := "poolLess", inPlace := ["internal/bytealg.IndexByteString", "internal/bytealg.IndexString"], unfollowed := true, recurses := true, named := ["chandlery/dep.notNames", "chandlery/arch.names", "chandlery/shape.rows", "internal/bytealg.MaxLen"], loops := true, apart := false, laid := [("chandlery/arch.names", laid_chandlery_arch_names), ("chandlery/dep.notNames", laid_chandlery_dep_notNames), ("chandlery/shape.rows", laid_chandlery_shape_rows)] }
def PoolLessSaid : Prop := poolLessRow.holds Tryd.pinned (OpenSpec.ofChange poolLessSpec)

/-- ITS FALSE NEIGHBOUR: 'it returns false'. Refute it at one input. -/
def poolLessWrong : ChangeSpec := { name := "poolLess", fn := fun _ => fun
  | [d1, d2] => { results := [.lit (.bool false)], args := [d1, d2] }
  | _ => none }
def PoolLessWrongFalsely : Prop := poolLessRow.holds Tryd.pinned (OpenSpec.ofChange poolLessWrong)

/- THE SECOND FORM. 'bulk': how many values and letters a reading holds, each counted each time it is reached (what is shared counts as often as it is met; a slice's spare places count too). A statement '..UptoSaid' is the law's where the arguments, and the package variables that the reading takes, are together of bulk at most 1048576: NARROWER than '..Said'. Prove '..Said' where nothing that the law and all that it calls make is longer than what came in: it says more and counts as full. Else prove '..UptoSaid'. A law counts once. -/
mutual
def uptoBulk {H : Type} : DataW H → Nat
  | .lit (.string bytes) => bytes.length + 1
  | .lit _ => 1
  | .nil => 1
  | .ptr d => uptoBulk d + 1
  | .slice elems spare => uptoBulkAll elems + uptoBulkAll spare + 1
  | .agg parts => uptoBulkAll parts + 1
  | .iface _ d => uptoBulk d + 1
  | .map entries => uptoBulkEntries entries + 1
  | .held _ => 1
def uptoBulkAll {H : Type} : List (DataW H) → Nat
  | [] => 0
  | d :: r => uptoBulk d + uptoBulkAll r
def uptoBulkEntries {H : Type} : List (Lit × DataW H) → Nat
  | [] => 0
  | x :: r => uptoBulkEntry x + uptoBulkEntries r
def uptoBulkEntry {H : Type} : Lit × DataW H → Nat
  | (.string bytes, d) => bytes.length + uptoBulk d + 1
  | (_, d) => uptoBulk d + 1
 end
def uptoSmall : (H : Type) → List (DataW H) → Bool := fun _ ds => decide (uptoBulkAll ds ≤ 1048576)
def OpenSpec.upto (s : _root_.Go.ChangeSpec) : _root_.Go.OpenSpec := { _root_.Go.OpenSpec.ofChange s with cond := some uptoSmall }

/-- 'chandlerylaw12.PoolRow', WHERE WHAT IT READS IS OF BULK AT MOST 1048576: true; the input reads as it did. -/
def poolRowUptoRow : OpenClaim := { program := "ytlpalepkomkngaadoor", sum := "455a9613570a154c1aa829217a21adda2b6479fce8467aac43656db6f56212bd", func := "chandlery/chandlerylaw12.PoolRow", spec := "poolRow", inPlace := ["internal/bytealg.IndexByteString", "internal/bytealg.IndexString"], unfollowed := true, recurses := true, named := ["chandlery/dep.notNames", "chandlery/arch.names", "chandlery/shape.rows", "internal/bytealg.MaxLen"], loops := true, apart := false, laid := [("chandlery/arch.names", laid_chandlery_arch_names), ("chandlery/dep.notNames", laid_chandlery_dep_notNames), ("chandlery/shape.rows", laid_chandlery_shape_rows)], narrowed := true }
def PoolRowUptoSaid : Prop := poolRowUptoRow.holds Tryd.pinned (OpenSpec.upto poolRowSpec)

/-- 'chandlerylaw12.PoolLess', WHERE WHAT IT READS IS OF BULK AT MOST 1048576: true; the input reads as it did. -/
def poolLessUptoRow : OpenClaim := { program := "ytlpalepkomkngaadoor", sum := "455a9613570a154c1aa829217a21adda2b6479fce8467aac43656db6f56212bd", func := "chandlery/chandlerylaw12.PoolLess", spec := "poolLess", inPlace := ["internal/bytealg.IndexByteString", "internal/bytealg.IndexString"], unfollowed := true, recurses := true, named := ["chandlery/dep.notNames", "chandlery/arch.names", "chandlery/shape.rows", "internal/bytealg.MaxLen"], loops := true, apart := false, laid := [("chandlery/arch.names", laid_chandlery_arch_names), ("chandlery/dep.notNames", laid_chandlery_dep_notNames), ("chandlery/shape.rows", laid_chandlery_shape_rows)], narrowed := true }
def PoolLessUptoSaid : Prop := poolLessUptoRow.holds Tryd.pinned (OpenSpec.upto poolLessSpec)

end Rows
end Go.Proofs.YtlpalepkomkngaaDoor
