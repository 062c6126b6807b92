/-
  Proved: for every text, LexPlaces returns true, and leaves its arguments as they were. Conditions: none but the row's own.
-/
import Derived.Test.YtdmpfonfghkffaaLex7c
import Derived.Test.YtdmpfonfghkffaaLex7d
import Derived.Test.YtdmpfonfghkffaaPlaces07
import Derived.Test.YtdmpfonfghkffaaLawRow
namespace Go.Proofs.Ytdmpfonfghkffaa
open Go.ChangeShapes Go.WideShapes Go.ChangeAt Go.RowKit

set_option maxRecDepth 100000 in
theorem places_lifted (os : Os) (started : os.Started) (H : Type) (enc : TypeId × Value → H) :
    ReturnsInHanded {} Try.checked os 6 .any (Rows.lexPlacesSpec.pre6 enc Try.prog Try.f6 Rows.lexPlacesRow.domain false)
      (Rows.lexPlacesSpec.post enc Try.prog Try.f6 false true false false) := by
  refine law_lift os started _ Try.f6 Rows.lexPlacesSpec (by kernel_rfl) Try.func6 rfl ?_ rfl ?_
    (ChangeSpec.witness6 (enc := enc) (C := Try.checked) false ⟨#[], #[.string ⟨#[]⟩], []⟩ 8 (by kernel_rfl) (by kernel_rfl) (by kernel_rfl) (by kernel_rfl)) ?_
  · intro t ht
    rw [Try.params6] at ht
    have ht' : t = 9 := by simpa using ht
    rcases ht' with rfl
    all_goals exact ⟨by kernel_rfl, of_decide_eq_true (by kernel_rfl)⟩
  · intro ds vs W p h
    rw [Try.params6] at h
    obtain ⟨v0, vs0, d0, ds0, p0, q0, HV, rfl, rfl, h0, r0⟩ := trodAll_cons h
    obtain ⟨rfl, rfl, rfl⟩ := trodAll_nil r0
    rfl
  · intro W base args ds p hval hA hz
    rw [Try.params6] at hA hval
    obtain ⟨v0, vs0, d0, ds0, p0, q0, HV, rfl, rfl, h0, r0⟩ := trodAll_cons hA
    obtain ⟨rfl, rfl, rfl⟩ := trodAll_nil r0
    obtain rfl : args = #[v0] := by cases args; simp_all
    obtain ⟨s0, rfl⟩ := okWide_string Try.underlying9 (hval 0 _ _ rfl rfl)
    exact (lexplaces_walk W s0).mono fun _ _ h => ⟨h.1, h.2.below (Nat.le_refl _) (fun _ h => h.elim)⟩

theorem places_holds : Rows.LexPlacesSaid :=
  OpenClaim.holds_of_wide 6 Try.f6 rfl rfl rfl rfl rfl rfl rfl ⟨rfl, rfl, rfl, rfl, rfl⟩ rfl rfl rfl rfl rfl (by kernel_rfl) Try.func6 (by kernel_rfl)
    (of_decide_eq_true (by kernel_rfl)) (by unfold Func.isWrapper; first | (rw [if_pos (by decide +kernel)]; kernel_rfl) | (rw [if_neg (by decide +kernel)]; exact ⟨rfl, rfl⟩))
    (fun os started H enc _ => places_lifted os started H enc)
#print axioms places_holds
end Go.Proofs.Ytdmpfonfghkffaa
