/-
  Proved: the closed law WireNames returns true (the examples of chapter 1, its bounds, what is asked of nil). Conditions: none but the row's own.
-/
import Derived.Test.YtbhdiklhpfackaaNames01
import Derived.Test.YtbhdiklhpfackaaLawRow
namespace Go.Proofs.Ytbhdiklhpfackaa
open Go.ChangeShapes Go.WideShapes Go.ChangeAt Go.RowKit

set_option maxRecDepth 100000 in
theorem names_lifted (os : Os) (started : os.Started) (H : Type) (enc : TypeId × Value → H) :
    ReturnsInHanded {} Try.checked os 3 .any (Rows.wireNamesSpec.pre6 enc Try.prog Try.f3 Rows.wireNamesRow.domain false)
      (Rows.wireNamesSpec.post enc Try.prog Try.f3 false true false false) := by
  refine law_lift os started _ Try.f3 Rows.wireNamesSpec (by kernel_rfl) Try.func3 rfl ?_ rfl ?_
    (ChangeSpec.witness6 (enc := enc) (C := Try.checked) false ⟨#[], #[], []⟩ 8 (by kernel_rfl) (by kernel_rfl) (by kernel_rfl) (by kernel_rfl)) ?_
  · intro t ht
    rw [Try.params3] at ht
    simp at ht
  · intro ds vs W p h
    rw [Try.params3] at h
    obtain ⟨rfl, rfl, rfl⟩ := trodAll_nil h
    rfl
  · intro W base args ds p hval hA hz
    rw [Try.params3] at hA
    obtain ⟨hargs, rfl, rfl⟩ := trodAll_nil hA
    obtain rfl : args = #[] := by cases args; simp_all
    exact (names_walk W).mono fun e W' hh => ⟨hh.1, hh.2.below (Nat.le_refl _) (fun _ x => x.elim)⟩

theorem names_holds : Rows.WireNamesSaid :=
  OpenClaim.holds_of_wide 3 Try.f3 rfl rfl rfl rfl rfl rfl rfl ⟨rfl, rfl, rfl, rfl, rfl⟩ rfl rfl rfl rfl rfl (by kernel_rfl) Try.func3 (by kernel_rfl)
    (of_decide_eq_true (by kernel_rfl)) (by unfold Func.isWrapper; first | (rw [if_pos (by decide +kernel)]; kernel_rfl) | (rw [if_neg (by decide +kernel)]; exact ⟨rfl, rfl⟩))
    (fun os started H enc _ => names_lifted os started H enc)
#print axioms names_holds
end Go.Proofs.Ytbhdiklhpfackaa
