/-
  Arguments of the laws of layer 3, opened: EVRs. Conditions: as each theorem states.
-/
import Derived.Test.YtncononmlgmabaaGreatDoorLawRow
import Derived.Deep.Strs
namespace Go.Proofs.YtncononmlgmabaaGreatDoor
open Go.ChangeShapes Go.WideShapes Go.Deep Go.RowKit

section
variable {H : Type} {enc : TypeId × Value → H} {W : World} {v : Value} {d : DataW H} {p : List MemPlace}
set_option maxRecDepth 100000 in
theorem evr_open (h : DataW.Trod enc Tryz.prog W 0 (fun _ => true) true 23 v d p) {r : Reach} {b0 : Nat} (hv : Value.okWide Tryz.prog W r b0 23 v) :
    ∃ (n : Int) (x y : ByteArray), v = .agg #[.int .i64 n, .string x, .string y] := by
  obtain ⟨cs, rfl, hsz⟩ := okWide_struct Tryz.underlying23 hv
  have h3 : (Tryz.prog).cellsOf 23 = 3 := by kernel_rfl
  have ci : (Tryz.prog).cellsOf 3 = 1 := by kernel_rfl
  have cst : (Tryz.prog).cellsOf 9 = 1 := by kernel_rfl
  rw [h3] at hsz
  obtain ⟨fuel, hf⟩ := h
  obtain ⟨xs, m, rfl, _, _, hxs, hall⟩ := DataW.trod_struct Tryz.underlying23 hf
  obtain ⟨l⟩ := cs
  match l, hsz with
  | [a, b, c], _ =>
    have f0 := hall 0 _ rfl
    have f1 := hall 1 _ rfl
    have f2 := hall 2 _ rfl
    have hx : xs.length = 3 := hxs
    rw [List.getElem?_eq_getElem (by omega)] at f0 f1 f2
    change DataW.trod enc Tryz.prog W 0 (fun _ => true) true m 3 (([a, b, c].drop 0).take ((Tryz.prog).cellsOf 3)) = _ at f0
    change DataW.trod enc Tryz.prog W 0 (fun _ => true) true m 9 (([a, b, c].drop 1).take ((Tryz.prog).cellsOf 9)) = _ at f1
    change DataW.trod enc Tryz.prog W 0 (fun _ => true) true m 9 (([a, b, c].drop 2).take ((Tryz.prog).cellsOf 9)) = _ at f2
    rw [ci] at f0
    rw [cst] at f1 f2
    obtain ⟨n, e0, _, _⟩ := DataW.trod_int Tryz.underlying3 f0
    obtain ⟨x, e1, _, _⟩ := DataW.trod_string Tryz.underlying9 f1
    obtain ⟨y, e2, _, _⟩ := DataW.trod_string Tryz.underlying9 f2
    have g0 : [a] = [Value.int .i64 n] := e0
    have g1 : [b] = [Value.string x] := e1
    have g2 : [c] = [Value.string y] := e2
    injection g0 with g0 _
    injection g1 with g1 _
    injection g2 with g2 _
    subst g0; subst g1; subst g2
    exact ⟨n, x, y, rfl⟩
end
end Go.Proofs.YtncononmlgmabaaGreatDoor
