/-
  Arguments of laws, opened: whole numbers, bytes as numbers. Conditions: as each theorem states.
-/
import Derived.Test.YtdmpfonfghkffaaLawRow
import Derived.Deep.Strs
namespace Go.Proofs.Ytdmpfonfghkffaa
open Go.ChangeShapes Go.WideShapes Go.Deep Go.RowKit

section
variable {H : Type} {enc : TypeId × Value → H} {W : World} {v : Value} {d : DataW H} {p : List MemPlace}
set_option maxRecDepth 100000 in
theorem whole_open (h : DataW.Trod enc Try.prog W 0 (fun _ => true) true 3 v d p) {r : Reach} {b0 : Nat} (hv : Value.okWide Try.prog W r b0 3 v) : ∃ z : Int, v = .int .i64 z := by
  obtain ⟨z0, rfl⟩ : ∃ z0, v = .int .i64 z0 := by
    simp only [Value.okWide, Try.underlying3, Cell.okWide] at hv
    cases v <;> simp_all [Cell.ok]
  exact ⟨z0, rfl⟩
set_option maxRecDepth 100000 in
theorem op_open (h : DataW.Trod enc Try.prog W 0 (fun _ => true) true 5 v d p) {r : Reach} {b0 : Nat} (hv : Value.okWide Try.prog W r b0 5 v) : ∃ o : Nat, v = .int .u8 (o : Int) ∧ o < 256 := by
  obtain ⟨z0, rfl⟩ : ∃ z0, v = .int .u8 z0 := by
    simp only [Value.okWide, Try.underlying5, Cell.okWide] at hv
    cases v <;> simp_all [Cell.ok]
  obtain ⟨fuel, hf⟩ := h
  obtain ⟨z, e, _, hw⟩ := DataW.trod_int Try.underlying5 hf
  have hb := bounds_u8 hw
  have : [Value.int .u8 z0] = [Value.int .u8 z] := e
  injection this with h1 _
  injection h1 with _ h1
  subst h1
  obtain ⟨n, rfl⟩ := Int.eq_ofNat_of_zero_le hb.1
  exact ⟨n, rfl, by omega⟩
end
end Go.Proofs.Ytdmpfonfghkffaa
