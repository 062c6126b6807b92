/-
  Proved: for every text and number, LexSpaces returns true, and leaves its arguments as they were. Conditions: none but the row's own.
-/
import Derived.Test.YtdmpfonfghkffaaLex7c
import Derived.Test.YtdmpfonfghkffaaLex7d
import Derived.Test.YtdmpfonfghkffaaSpaces07
import Derived.Test.YtdmpfonfghkffaaOpenNum
import Derived.Test.YtdmpfonfghkffaaLawRow
namespace Go.Proofs.Ytdmpfonfghkffaa
open Go.ChangeShapes Go.WideShapes Go.ChangeAt Go.RowKit

set_option maxRecDepth 100000 in
theorem spaces_lifted (os : Os) (started : os.Started) (H : Type) (enc : TypeId × Value → H) :
    ReturnsInHanded {} Try.checked os 7 .any (Rows.lexSpacesSpec.pre6 enc Try.prog Try.f7 Rows.lexSpacesRow.domain false)
      (Rows.lexSpacesSpec.post enc Try.prog Try.f7 false true false false) := by
  refine law_lift os started _ Try.f7 Rows.lexSpacesSpec (by kernel_rfl) Try.func7 rfl ?_ rfl ?_
    (ChangeSpec.witness6 (enc := enc) (C := Try.checked) false ⟨#[], #[.string ⟨#[]⟩, .int .i64 0], []⟩ 8 (by kernel_rfl) (by kernel_rfl) (by kernel_rfl) (by kernel_rfl)) ?_
  · intro t ht
    rw [Try.params7] at ht
    have ht' : t = 9 ∨ t = 3 := by simpa using ht
    rcases ht' with rfl | rfl
    all_goals exact ⟨by kernel_rfl, of_decide_eq_true (by kernel_rfl)⟩
  · intro ds vs W p h
    rw [Try.params7] at h
    obtain ⟨v0, vs0, d0, ds0, p0, q0, HV, rfl, rfl, h0, r0⟩ := trodAll_cons h
    obtain ⟨v1, vs1, d1, ds1, p1, q1, rfl, rfl, rfl, h1, r1⟩ := trodAll_cons r0
    obtain ⟨rfl, rfl, rfl⟩ := trodAll_nil r1
    rfl
  · intro W base args ds p hval hA hz
    rw [Try.params7] at hA hval
    obtain ⟨v0, vs0, d0, ds0, p0, q0, HV, rfl, rfl, h0, r0⟩ := trodAll_cons hA
    obtain ⟨v1, vs1, d1, ds1, p1, q1, rfl, rfl, rfl, h1, r1⟩ := trodAll_cons r0
    obtain ⟨rfl, rfl, rfl⟩ := trodAll_nil r1
    obtain rfl : args = #[v0, v1] := by cases args; simp_all
    obtain ⟨s0, rfl⟩ := okWide_string Try.underlying9 (hval 0 _ _ rfl rfl)
    obtain ⟨i1, rfl⟩ := whole_open h1 (hval 1 _ _ rfl rfl)
    exact (lexspaces_walk W s0 i1).mono fun _ _ h => ⟨h.1, h.2.below (Nat.le_refl _) (fun _ h => h.elim)⟩

theorem spaces_holds : Rows.LexSpacesSaid :=
  OpenClaim.holds_of_wide 7 Try.f7 rfl rfl rfl rfl rfl rfl rfl ⟨rfl, rfl, rfl, rfl, rfl⟩ rfl rfl rfl rfl rfl (by kernel_rfl) Try.func7 (by kernel_rfl)
    (of_decide_eq_true (by kernel_rfl)) (by unfold Func.isWrapper; first | (rw [if_pos (by decide +kernel)]; kernel_rfl) | (rw [if_neg (by decide +kernel)]; exact ⟨rfl, rfl⟩))
    (fun os started H enc _ => spaces_lifted os started H enc)
#print axioms spaces_holds
end Go.Proofs.Ytdmpfonfghkffaa
