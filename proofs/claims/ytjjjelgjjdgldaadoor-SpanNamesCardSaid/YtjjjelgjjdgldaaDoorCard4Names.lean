/-
  The statement of layer 4 on 'names' (SpanNames), proved of the program at this commit: for every input the law's function answers true, and leaves its arguments as they were. Conditions: the given row's own.
-/
import Derived.Test.YtjjjelgjjdgldaaDoorNames04
import Derived.Test.YtjjjelgjjdgldaaDoorOpen04
import Derived.Test.YtjjjelgjjdgldaaDoorLawRow2
import Derived.Test.YtjjjelgjjdgldaaDoorCards
import Derived.Test.YtjjjelgjjdgldaaDoorTie
import Derived.SevenTiedAt
namespace Go.Proofs.YtjjjelgjjdgldaaDoor
open Go.ChangeShapes Go.WideShapes Go.ChangeAt Go.RowKit

theorem kept_below {w w' : World} {P : Prop} (h : P ∧ Kept (fun _ => False) w w') : P ∧ Below w.heap.size w w' := ⟨h.1, h.2.below (Nat.le_refl _) (fun _ h => h.elim)⟩

set_option maxRecDepth 100000 in
theorem names4_lifted (os : Os) (started : os.Started) (H : Type) (enc : TypeId × Value → H) :
    ReturnsInHanded {} Tryd.checked os 5 .any (fun w args => (Rows.spanNamesSpec.pre enc Tryd.prog Tryd.f5 [] false w args ∧ laidMetH Tryd.prog Rows.spanNamesRow.laid w) ∧ sizedMet enc Tryd.prog Tryd.f5 (OpenSpec.ofChange Rows.spanNamesSpec) false w args)
      (Rows.spanNamesSpec.post enc Tryd.prog Tryd.f5 false true false false) := by
  refine law_lift_laid Rows.spanNamesRow.laid os started _ Tryd.f5 Rows.spanNamesSpec (by kernel_rfl) Tryd.func5 rfl ?_ rfl ?_
    (ChangeSpec.witness_shaped (enc := enc) (C := Tryd.checked) (os := os) (X := fun w _ => laidMetH Tryd.prog Rows.spanNamesRow.laid w) false (World.laidAll Tryd.prog os Rows.spanNamesRow.laid) #[] 8 (World.laidAll_os _ _ _)
      (World.shaped_of_ZipB (by kernel_rfl) (by kernel_rfl)) (by kernel_rfl) (by kernel_rfl) (by kernel_rfl)
      (by rw [MakeChecks.laidMetH_plain _ _ _ (by kernel_rfl)]; exact laidMet_laidAll _ (by kernel_rfl) (by kernel_rfl))) ?_
  · intro t ht
    rw [Tryd.params5] at ht
    simp at ht
  · intro ds vs W p h
    rw [Tryd.params5] at h
    obtain ⟨_, rfl, _⟩ := trodAll_nil h
    rfl
  · intro W base args ds p hval hA hz
    rw [Tryd.params5] at hA hval
    obtain ⟨HV, _, _⟩ := trodAll_nil hA
    obtain rfl : args = #[] := by cases args; simp_all
    exact (spannames_walk W).mono fun _ _ h => kept_below h

theorem names4_of : Rows.SpanNamesSaid :=
  OpenClaim.holds_of_wide 5 Tryd.f5 rfl rfl rfl rfl rfl rfl rfl ⟨rfl, rfl, rfl, rfl, rfl⟩ rfl rfl rfl rfl rfl (by kernel_rfl) Tryd.func5 (by kernel_rfl)
    (of_decide_eq_true (by kernel_rfl)) (by unfold Func.isWrapper; first | (rw [if_pos (by decide +kernel)]; kernel_rfl) | (rw [if_neg (by decide +kernel)]; exact ⟨rfl, rfl⟩))
    (fun os started H enc _ => names4_lifted os started H enc)
theorem names4_card : Rows.SpanNamesCardSaid :=
  Claim7.holds_tied_plain_at .later [] [.data, .pinned] true (true, "98921573f3308eff1e3b35d368c32148183ba2e83cf85bb401e5fb312e4e70a0") false
    names4_of (fun _ h => by cases h) (by kernel_rfl) (fun _ h => by cases h) spanNames_row_tie rfl ⟨rfl, rfl⟩ (by kernel_rfl) rfl
    (fun f fn hf hfn => by
      obtain rfl : f = 5 := Option.some.inj ((show Tryd.prog.funcNamed "chandlery/chandlerylaw04.SpanNames" = some 5 by kernel_rfl).symm.trans hf) |>.symm
      obtain rfl : fn = Tryd.f5 := (Option.some.inj (Tryd.func5.symm.trans hfn)).symm
      exact ⟨by kernel_rfl, fun j t ht => by
        rw [Tryd.params5] at ht
        simp at ht⟩)
    (by kernel_rfl)
end Go.Proofs.YtjjjelgjjdgldaaDoor
