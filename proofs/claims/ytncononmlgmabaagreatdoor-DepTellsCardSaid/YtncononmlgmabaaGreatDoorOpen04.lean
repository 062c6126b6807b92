/-
  Arguments of the laws of layer 4, opened: dependencies, Ops, numbers. Conditions: as each theorem states.
-/
import Derived.Test.YtncononmlgmabaaGreatDoorOpen03
import Derived.Test.YtncononmlgmabaaGreatDoorOpenNum
import Derived.Test.YtncononmlgmabaaGreatDoorMem
namespace Go.Proofs.YtncononmlgmabaaGreatDoor
open Go.ChangeShapes Go.WideShapes Go.Deep Go.RowKit

section
variable {H : Type} {enc : TypeId × Value → H} {W : World} {v : Value} {d : DataW H} {p : List MemPlace}
set_option maxRecDepth 100000 in
theorem dep_open (h : DataW.Trod enc Tryz.prog W 0 (fun _ => true) true 25 v d p) {r : Reach} {b0 : Nat} (hv : Value.okWide Tryz.prog W r b0 25 v) :
    ∃ (nm : ByteArray) (o : Nat) (n : Int) (x y : ByteArray), v = .agg #[.string nm, .int .u8 (o : Int), .int .i64 n, .string x, .string y] ∧ o < 256 := by
  obtain ⟨cs, rfl, hsz⟩ := okWide_struct Tryz.underlying25 hv
  have h5 : (Tryz.prog).cellsOf 25 = 5 := by kernel_rfl
  have h3 : (Tryz.prog).cellsOf 23 = 3 := by kernel_rfl
  have cu : (Tryz.prog).cellsOf 5 = 1 := by kernel_rfl
  have ci : (Tryz.prog).cellsOf 3 = 1 := by kernel_rfl
  have cst : (Tryz.prog).cellsOf 9 = 1 := by kernel_rfl
  rw [h5] at hsz
  obtain ⟨fuel, hf⟩ := h
  obtain ⟨xs, m, rfl, _, _, hxs, hall⟩ := DataW.trod_struct Tryz.underlying25 hf
  obtain ⟨l⟩ := cs
  match l, hsz with
  | [a, b, c, e, f], _ =>
    have f0 := hall 0 _ rfl
    have f1 := hall 1 _ rfl
    have f2 := hall 2 _ rfl
    have hx : xs.length = 3 := hxs
    rw [List.getElem?_eq_getElem (by omega)] at f0 f1 f2
    change DataW.trod enc Tryz.prog W 0 (fun _ => true) true m 9 (([a, b, c, e, f].drop 0).take ((Tryz.prog).cellsOf 9)) = _ at f0
    change DataW.trod enc Tryz.prog W 0 (fun _ => true) true m 5 (([a, b, c, e, f].drop 1).take ((Tryz.prog).cellsOf 5)) = _ at f1
    change DataW.trod enc Tryz.prog W 0 (fun _ => true) true m 23 (([a, b, c, e, f].drop 2).take ((Tryz.prog).cellsOf 23)) = _ at f2
    rw [cst] at f0
    rw [cu] at f1
    rw [h3] at f2
    obtain ⟨nm, e0, _, _⟩ := DataW.trod_string Tryz.underlying9 f0
    obtain ⟨z, e1, _, hw⟩ := DataW.trod_int Tryz.underlying5 f1
    have hb := bounds_u8 hw
    obtain ⟨ys, m2, rfl, _, _, hys, hal2⟩ := DataW.trod_struct Tryz.underlying23 f2
    have k0 := hal2 0 _ rfl
    have k1 := hal2 1 _ rfl
    have k2 := hal2 2 _ rfl
    have hy : ys.length = 3 := hys
    rw [List.getElem?_eq_getElem (by omega)] at k0 k1 k2
    change DataW.trod enc Tryz.prog W 0 (fun _ => true) true m2 3 (([c, e, f].drop 0).take ((Tryz.prog).cellsOf 3)) = _ at k0
    change DataW.trod enc Tryz.prog W 0 (fun _ => true) true m2 9 (([c, e, f].drop 1).take ((Tryz.prog).cellsOf 9)) = _ at k1
    change DataW.trod enc Tryz.prog W 0 (fun _ => true) true m2 9 (([c, e, f].drop 2).take ((Tryz.prog).cellsOf 9)) = _ at k2
    rw [ci] at k0
    rw [cst] at k1 k2
    obtain ⟨n, e2, _, _⟩ := DataW.trod_int Tryz.underlying3 k0
    obtain ⟨x, e3, _, _⟩ := DataW.trod_string Tryz.underlying9 k1
    obtain ⟨y, e4, _, _⟩ := DataW.trod_string Tryz.underlying9 k2
    have g0 : [a] = [Value.string nm] := e0
    have g1 : [b] = [Value.int .u8 z] := e1
    have g2 : [c] = [Value.int .i64 n] := e2
    have g3 : [e] = [Value.string x] := e3
    have g4 : [f] = [Value.string y] := e4
    injection g0 with g0 _
    injection g1 with g1 _
    injection g2 with g2 _
    injection g3 with g3 _
    injection g4 with g4 _
    subst g0; subst g1; subst g2; subst g3; subst g4
    obtain ⟨o, rfl⟩ := Int.eq_ofNat_of_zero_le hb.1
    exact ⟨nm, o, n, x, y, rfl, by omega⟩
end
end Go.Proofs.YtncononmlgmabaaGreatDoor
