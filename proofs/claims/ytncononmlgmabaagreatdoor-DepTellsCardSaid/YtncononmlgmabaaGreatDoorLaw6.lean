/-
  From what a row of layer 6 lists of the library's variables, and of the program's own array, to what the walks ask of them. Conditions: as each theorem states.
-/
import Derived.Test.YtncononmlgmabaaGreatDoorLawRow3
import Derived.Test.YtncononmlgmabaaGreatDoorNum3
import Derived.Test.YtncononmlgmabaaGreatDoorName6
import Derived.Test.YtncononmlgmabaaGreatDoorFlat
import Derived.Stop.LaidErr
import Derived.LaidSub
import Derived.MakeChecks
namespace Go.Proofs.YtncononmlgmabaaGreatDoor
open Go.ChangeShapes Go.WideShapes Go.ChangeAt Go.RowKit

theorem es_type : (Tryz.prog.globals[7]?).map (·.type) = some 57 := by kernel_rfl
theorem er_type : (Tryz.prog.globals[8]?).map (·.type) = some 57 := by kernel_rfl
theorem star_name : "*" ++ "errors.errorString" = "*errors.errorString" := by decide
theorem es_row (u : TypeId) (h : Tryz.prog.typeName? 3 u = some "*errors.errorString") : u = 128 :=
  typeName_ptr_named (nm := "errors.errorString") (by rw [star_name]; kernel_rfl) (by kernel_rfl) (by decide) u (by rw [star_name]; exact h)
theorem es_cells : Tryz.prog.cellsOf 130 = 1 := by kernel_rfl
theorem st_cells : Tryz.prog.cellsOf 9 = 1 := by kernel_rfl
set_option maxRecDepth 100000 in
theorem libW_of6 {W : World} {L : List (String × DataW Unit)} (h : laidMetH Tryz.prog L W) (hq : laidMetH Tryz.prog L W = laidMet Tryz.prog L W)
    (p1 : (L.filter fun x => x.1 == "internal/strconv.uint64pow10") = [("internal/strconv.uint64pow10", Lib.tabData .u64 Lib.pow10Tab)])
    (p2 : (L.filter fun x => x.1 == "strconv.ErrSyntax") = [("strconv.ErrSyntax", Rows.laid_strconv_ErrSyntax)])
    (p3 : (L.filter fun x => x.1 == "strconv.ErrRange") = [("strconv.ErrRange", Rows.laid_strconv_ErrRange)]) : LibW W := by
  rw [hq] at h
  have h1 := h.filter (fun x => x.1 == "internal/strconv.uint64pow10")
  have h2 := h.filter (fun x => x.1 == "strconv.ErrSyntax")
  have h3 := h.filter (fun x => x.1 == "strconv.ErrRange")
  rw [p1] at h1
  rw [p2] at h2
  rw [p3] at h3
  obtain ⟨a1, _, v1, _⟩ := laid_sentinel h2 (show Tryz.prog.globalNamed "strconv.ErrSyntax" = some 7 by kernel_rfl) es_type Tryz.underlying57 es_row Tryz.underlying128 Tryz.underlying130 rfl rfl Tryz.underlying9 es_cells st_cells
  obtain ⟨a2, _, v2, _⟩ := laid_sentinel h3 (show Tryz.prog.globalNamed "strconv.ErrRange" = some 8 by kernel_rfl) er_type Tryz.underlying57 es_row Tryz.underlying128 Tryz.underlying130 rfl rfl Tryz.underlying9 es_cells st_cells
  exact ⟨Lib.tabIs_of_head (show Tryz.prog.globalNamed "internal/strconv.uint64pow10" = some 2 by kernel_rfl) (show (Tryz.prog.globals[2]?).map (·.type) = some 101 by kernel_rfl) Tryz.underlying101 Tryz.underlying93 (by kernel_rfl) (by kernel_rfl) h1, ⟨_, _, v1⟩, ⟨_, _, v2⟩⟩
theorem nn_cells : flatC Tryz.prog 3 45 (Rows.laid_chandlery_dep_notNames : DataW Unit) = some [.string nn0, .string nn1, .string nn2, .string nn3, .string nn4, .string nn5, .string nn6] := by kernel_rfl
theorem notW_of {W : World} {L : List (String × DataW Unit)} (h : laidMetH Tryz.prog L W) (hp : (L.filter fun x => x.1 == "chandlery/dep.notNames") = [("chandlery/dep.notNames", Rows.laid_chandlery_dep_notNames)]) (hq : laidMetH Tryz.prog L W = laidMet Tryz.prog L W) : NotW W := by
  rw [hq] at h
  have h1 := h.filter (fun x => x.1 == "chandlery/dep.notNames")
  rw [hp] at h1
  have hc := laid_cells 3 (show Tryz.prog.globalNamed "chandlery/dep.notNames" = some 0 by kernel_rfl) (show (Tryz.prog.globals[0]?).map (·.type) = some 45 by kernel_rfl) nn_cells h1
  exact ⟨World.block_lt_of_cell? W _ (hc 0), hc 0, hc 1, hc 2, hc 3, hc 4, hc 5, hc 6⟩
end Go.Proofs.YtncononmlgmabaaGreatDoor
