/-
  Proved: for every list of words, LexBack returns true, and leaves its arguments as they were. Conditions: none but the row's own.
-/
import Derived.Test.YtdmpfonfghkffaaLex7c
import Derived.Test.YtdmpfonfghkffaaLex7d
import Derived.Test.YtdmpfonfghkffaaBack07
import Derived.Test.YtdmpfonfghkffaaOpenStrs
import Derived.Test.YtdmpfonfghkffaaLawRow
namespace Go.Proofs.Ytdmpfonfghkffaa
open Go.ChangeShapes Go.WideShapes Go.ChangeAt Go.RowKit

set_option maxRecDepth 100000 in
theorem back_lifted (os : Os) (started : os.Started) (H : Type) (enc : TypeId × Value → H) :
    ReturnsInHanded {} Try.checked os 5 .any (Rows.lexBackSpec.pre6 enc Try.prog Try.f5 Rows.lexBackRow.domain false)
      (Rows.lexBackSpec.post enc Try.prog Try.f5 false true false false) := by
  refine law_lift os started _ Try.f5 Rows.lexBackSpec (by kernel_rfl) Try.func5 rfl ?_ rfl ?_
    (ChangeSpec.witness6 (enc := enc) (C := Try.checked) false ⟨#[], #[.slice none 0 0], []⟩ 8 (by kernel_rfl) (by kernel_rfl) (by kernel_rfl) (by kernel_rfl)) ?_
  · intro t ht
    rw [Try.params5] at ht
    have ht' : t = 24 := by simpa using ht
    rcases ht' with rfl
    all_goals exact ⟨by kernel_rfl, of_decide_eq_true (by kernel_rfl)⟩
  · intro ds vs W p h
    rw [Try.params5] at h
    obtain ⟨v0, vs0, d0, ds0, p0, q0, HV, rfl, rfl, h0, r0⟩ := trodAll_cons h
    obtain ⟨rfl, rfl, rfl⟩ := trodAll_nil r0
    rfl
  · intro W base args ds p hval hA hz
    rw [Try.params5] at hA hval hz
    obtain ⟨v0, vs0, d0, ds0, p0, q0, HV, rfl, rfl, h0, r0⟩ := trodAll_cons hA
    obtain ⟨rfl, rfl, rfl⟩ := trodAll_nil r0
    obtain rfl : args = #[v0] := by cases args; simp_all
    obtain ⟨a0, c0, xs0, rfl, hx0, hn0, hs0⟩ := strs_opens h0 hz (j := 0) rfl rfl (hval 0 _ _ rfl rfl)
    exact (lexback_walk W _ xs0 hx0 hn0 hs0).mono fun _ _ h => ⟨h.1, h.2.below (Nat.le_refl _) (fun _ h => h.elim)⟩

theorem back_holds : Rows.LexBackSaid :=
  OpenClaim.holds_of_wide 5 Try.f5 rfl rfl rfl rfl rfl rfl rfl ⟨rfl, rfl, rfl, rfl, rfl⟩ rfl rfl rfl rfl rfl (by kernel_rfl) Try.func5 (by kernel_rfl)
    (of_decide_eq_true (by kernel_rfl)) (by unfold Func.isWrapper; first | (rw [if_pos (by decide +kernel)]; kernel_rfl) | (rw [if_neg (by decide +kernel)]; exact ⟨rfl, rfl⟩))
    (fun os started H enc _ => back_lifted os started H enc)
#print axioms back_holds
end Go.Proofs.Ytdmpfonfghkffaa
