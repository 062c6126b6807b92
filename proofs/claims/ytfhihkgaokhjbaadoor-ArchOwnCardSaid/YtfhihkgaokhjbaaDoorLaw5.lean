/-
  From what a row lists of the two tables of layer 5 to what the walks ask of them. Conditions: as each theorem states.
-/
import Derived.Test.YtfhihkgaokhjbaaDoorLawRow2
import Derived.Test.YtfhihkgaokhjbaaDoorArch05
import Derived.Test.YtfhihkgaokhjbaaDoorFlat
import Derived.LaidSub
import Derived.MakeChecks
namespace Go.Proofs.YtfhihkgaokhjbaaDoor
open Go.ChangeShapes Go.WideShapes Go.ChangeAt Go.RowKit Arch

theorem nm_cells : flatC Tryd.prog 3 33 (Rows.laid_chandlery_arch_names : DataW Unit) = some ((List.range 5).map fun i => .string (nameB i)) := by kernel_rfl
theorem sc_cells : flatC Tryd.prog 3 35 (Rows.laid_chandlery_arch_scores : DataW Unit) = some ((List.range 25).map fun i => .int .i64 (score (i / 5) (i % 5) : Int)) := by kernel_rfl
theorem namesW_of {W : World} {L : List (String × DataW Unit)} (h : laidMetH Tryd.prog L W) (hp : (L.filter fun x => x.1 == "chandlery/arch.names") = [("chandlery/arch.names", Rows.laid_chandlery_arch_names)]) (hq : laidMetH Tryd.prog L W = laidMet Tryd.prog L W) : NamesW W := by
  rw [hq] at h
  have h1 := h.filter (fun x => x.1 == "chandlery/arch.names")
  rw [hp] at h1
  refine ⟨fun i hi => ?_⟩
  rw [laid_cells 3 (show Tryd.prog.globalNamed "chandlery/arch.names" = some 0 by kernel_rfl) (show (Tryd.prog.globals[0]?).map (·.type) = some 33 by kernel_rfl) nm_cells h1 i]
  simp [hi]
theorem scoresW_of {W : World} {L : List (String × DataW Unit)} (h : laidMetH Tryd.prog L W) (hp : (L.filter fun x => x.1 == "chandlery/arch.scores") = [("chandlery/arch.scores", Rows.laid_chandlery_arch_scores)]) (hq : laidMetH Tryd.prog L W = laidMet Tryd.prog L W) : ScoresW W := by
  rw [hq] at h
  have h1 := h.filter (fun x => x.1 == "chandlery/arch.scores")
  rw [hp] at h1
  refine ⟨fun m a hm ha => ?_⟩
  rw [laid_cells 3 (show Tryd.prog.globalNamed "chandlery/arch.scores" = some 1 by kernel_rfl) (show (Tryd.prog.globals[1]?).map (·.type) = some 35 by kernel_rfl) sc_cells h1 (m * 5 + a)]
  have h25 : m * 5 + a < 25 := by omega
  have e1 : (m * 5 + a) / 5 = m := by omega
  have e2 : (m * 5 + a) % 5 = a := by omega
  simp [h25, e1, e2]
end Go.Proofs.YtfhihkgaokhjbaaDoor
