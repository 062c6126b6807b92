/-
  Proved: for every string and every slice of steps, the law WireAnew returns true (what was read, written anew, are the bytes gone over), and both read afterwards as before. Conditions: none but the row's own.
-/
import Derived.Test.YtbhdiklhpfackaaAnew
import Derived.Test.YtbhdiklhpfackaaSteps01O
import Derived.Test.YtbhdiklhpfackaaLawRow
namespace Go.Proofs.Ytbhdiklhpfackaa
open Go.ChangeMaps (open_string)
open Go.ChangeShapes Go.WideShapes Go.ChangeAt Go.RowKit

set_option maxRecDepth 100000 in
theorem anew_lifted (os : Os) (started : os.Started) (H : Type) (enc : TypeId × Value → H) :
    ReturnsInHanded {} Try.checked os 6 .any (Rows.wireAnewSpec.pre6 enc Try.prog Try.f6 Rows.wireAnewRow.domain false)
      (Rows.wireAnewSpec.post enc Try.prog Try.f6 false true false false) := by
  refine law_lift os started _ Try.f6 Rows.wireAnewSpec (by kernel_rfl) Try.func6 rfl ?_ rfl ?_
    (ChangeSpec.witness6 (enc := enc) (C := Try.checked) false ⟨#[], #[.string ⟨#[]⟩, .slice none 0 0], []⟩ 8 (by kernel_rfl) (by kernel_rfl) (by kernel_rfl) (by kernel_rfl)) ?_
  · intro t ht
    rw [Try.params6] at ht
    have ht2 : t = 9 ∨ t = 42 := by simpa using ht
    rcases ht2 with rfl | rfl
    · exact ⟨by kernel_rfl, of_decide_eq_true (by kernel_rfl)⟩
    · exact ⟨by kernel_rfl, of_decide_eq_true (by kernel_rfl)⟩
  · intro ds vs W p h
    rw [Try.params6] at h
    obtain ⟨v0, vs0, d0, ds0, p0, q0, rfl, rfl, rfl, h0, r0⟩ := trodAll_cons h
    obtain ⟨v1, vs1, d1, ds1, p1, q1, rfl, rfl, rfl, h1, r1⟩ := trodAll_cons r0
    obtain ⟨rfl, rfl, rfl⟩ := trodAll_nil r1
    rfl
  · intro W base args ds p hval hA hz
    rw [Try.params6] at hA hval hz
    obtain ⟨v0, vs0, d0, ds0, p0, q0, hargs, rfl, rfl, h0, r0⟩ := trodAll_cons hA
    obtain ⟨v1, vs1, d1, ds1, p1, q1, rfl, rfl, rfl, h1, r1⟩ := trodAll_cons r0
    obtain ⟨rfl, rfl, rfl⟩ := trodAll_nil r1
    obtain rfl : args = #[v0, v1] := by cases args; simp_all
    obtain ⟨s, rfl, rfl, rfl, hs⟩ := open_string Try.underlying9 (hval 0 _ v0 rfl rfl) h0
    obtain ⟨a, len, cap, L, rfl, hlen, hL⟩ := steps_open (hval 1 _ v1 rfl rfl) h1 hz (j := 1) rfl rfl
    exact anew_walk W s a len cap L hlen hL

theorem anew_holds : Rows.WireAnewSaid :=
  OpenClaim.holds_of_wide 6 Try.f6 rfl rfl rfl rfl rfl rfl rfl ⟨rfl, rfl, rfl, rfl, rfl⟩ rfl rfl rfl rfl rfl (by kernel_rfl) Try.func6 (by kernel_rfl)
    (of_decide_eq_true (by kernel_rfl)) (by unfold Func.isWrapper; first | (rw [if_pos (by decide +kernel)]; kernel_rfl) | (rw [if_neg (by decide +kernel)]; exact ⟨rfl, rfl⟩))
    (fun os started H enc _ => anew_lifted os started H enc)
#print axioms anew_holds
end Go.Proofs.Ytbhdiklhpfackaa
