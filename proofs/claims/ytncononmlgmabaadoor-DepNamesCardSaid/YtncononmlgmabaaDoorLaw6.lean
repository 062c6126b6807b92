/-
  From what a row of layer 6 lists of the library's variables, and of the program's own array, to what the walks ask of them. Conditions: as each theorem states.
-/
import Derived.Test.YtncononmlgmabaaDoorLawRow3
import Derived.Test.YtncononmlgmabaaDoorNum3
import Derived.Test.YtncononmlgmabaaDoorName6
import Derived.Test.YtncononmlgmabaaDoorFlat
import Derived.Stop.LaidErr
import Derived.LaidSub
import Derived.MakeChecks
namespace Go.Proofs.YtncononmlgmabaaDoor
open Go.ChangeShapes Go.WideShapes Go.ChangeAt Go.RowKit

theorem es_type : (Tryd.prog.globals[5]?).map (·.type) = some 75 := by kernel_rfl
theorem er_type : (Tryd.prog.globals[6]?).map (·.type) = some 75 := by kernel_rfl
theorem star_name : "*" ++ "errors.errorString" = "*errors.errorString" := by decide
theorem es_row (u : TypeId) (h : Tryd.prog.typeName? 3 u = some "*errors.errorString") : u = 131 :=
  typeName_ptr_named (nm := "errors.errorString") (by rw [star_name]; kernel_rfl) (by kernel_rfl) (by decide) u (by rw [star_name]; exact h)
theorem es_cells : Tryd.prog.cellsOf 133 = 1 := by kernel_rfl
theorem st_cells : Tryd.prog.cellsOf 9 = 1 := by kernel_rfl
set_option maxRecDepth 100000 in
theorem libW_of6 {W : World} {L : List (String × DataW Unit)} (h : laidMetH Tryd.prog L W) (hq : laidMetH Tryd.prog L W = laidMet Tryd.prog L W)
    (p1 : (L.filter fun x => x.1 == "internal/strconv.uint64pow10") = [("internal/strconv.uint64pow10", Lib.tabData .u64 Lib.pow10Tab)])
    (p2 : (L.filter fun x => x.1 == "strconv.ErrSyntax") = [("strconv.ErrSyntax", Rows.laid_strconv_ErrSyntax)])
    (p3 : (L.filter fun x => x.1 == "strconv.ErrRange") = [("strconv.ErrRange", Rows.laid_strconv_ErrRange)]) : LibW W := by
  rw [hq] at h
  have h1 := h.filter (fun x => x.1 == "internal/strconv.uint64pow10")
  have h2 := h.filter (fun x => x.1 == "strconv.ErrSyntax")
  have h3 := h.filter (fun x => x.1 == "strconv.ErrRange")
  rw [p1] at h1
  rw [p2] at h2
  rw [p3] at h3
  obtain ⟨a1, _, v1, _⟩ := laid_sentinel h2 (show Tryd.prog.globalNamed "strconv.ErrSyntax" = some 5 by kernel_rfl) es_type Tryd.underlying75 es_row Tryd.underlying131 Tryd.underlying133 rfl rfl Tryd.underlying9 es_cells st_cells
  obtain ⟨a2, _, v2, _⟩ := laid_sentinel h3 (show Tryd.prog.globalNamed "strconv.ErrRange" = some 6 by kernel_rfl) er_type Tryd.underlying75 es_row Tryd.underlying131 Tryd.underlying133 rfl rfl Tryd.underlying9 es_cells st_cells
  exact ⟨Lib.tabIs_of_head (show Tryd.prog.globalNamed "internal/strconv.uint64pow10" = some 4 by kernel_rfl) (show (Tryd.prog.globals[4]?).map (·.type) = some 120 by kernel_rfl) Tryd.underlying120 Tryd.underlying101 (by kernel_rfl) (by kernel_rfl) h1, ⟨_, _, v1⟩, ⟨_, _, v2⟩⟩
theorem nn_cells : flatC Tryd.prog 3 58 (Rows.laid_chandlery_dep_notNames : DataW Unit) = some [.string nn0, .string nn1, .string nn2, .string nn3, .string nn4, .string nn5, .string nn6] := by kernel_rfl
theorem notW_of {W : World} {L : List (String × DataW Unit)} (h : laidMetH Tryd.prog L W) (hp : (L.filter fun x => x.1 == "chandlery/dep.notNames") = [("chandlery/dep.notNames", Rows.laid_chandlery_dep_notNames)]) (hq : laidMetH Tryd.prog L W = laidMet Tryd.prog L W) : NotW W := by
  rw [hq] at h
  have h1 := h.filter (fun x => x.1 == "chandlery/dep.notNames")
  rw [hp] at h1
  have hc := laid_cells 3 (show Tryd.prog.globalNamed "chandlery/dep.notNames" = some 0 by kernel_rfl) (show (Tryd.prog.globals[0]?).map (·.type) = some 58 by kernel_rfl) nn_cells h1
  exact ⟨World.block_lt_of_cell? W _ (hc 0), hc 0, hc 1, hc 2, hc 3, hc 4, hc 5, hc 6⟩
end Go.Proofs.YtncononmlgmabaaDoor
