/-
  The statement of layer 9 on 'names' (ShapeNames), proved of the program at this commit: for every input the law's function answers true, and leaves its arguments as they were. Conditions: the given row's own.
-/
import Derived.Test.YtndakcognjaeoaaDoorK29
import Derived.Test.YtndakcognjaeoaaDoorK15
import Derived.Test.YtndakcognjaeoaaDoorCards
import Derived.Test.YtndakcognjaeoaaDoorTie
import Derived.SevenTiedAt
namespace Go.Proofs.YtndakcognjaeoaaDoor
open Go.ChangeShapes Go.WideShapes Go.ChangeAt Go.RowKit Rich

set_option maxRecDepth 100000 in
theorem names9_lifted (os : Os) (started : os.Started) (H : Type) (enc : TypeId × Value → H) :
    ReturnsInHanded {} Tryd.checked os 3 .any (fun w args => (Rows.shapeNamesSpec.pre enc Tryd.prog Tryd.f3 [] false w args ∧ laidMetH Tryd.prog Rows.shapeNamesRow.laid w) ∧ sizedMet enc Tryd.prog Tryd.f3 (OpenSpec.ofChange Rows.shapeNamesSpec) false w args)
      (Rows.shapeNamesSpec.post enc Tryd.prog Tryd.f3 false true false false) := by
  refine law_lift_all Rows.shapeNamesRow.laid os started _ Tryd.f3 Rows.shapeNamesSpec (by kernel_rfl) Tryd.func3 rfl ?_ rfl ?_
    (ChangeSpec.witness_shaped (enc := enc) (C := Tryd.checked) (os := os) (X := fun w _ => laidMetH Tryd.prog Rows.shapeNamesRow.laid w) false (World.laidAll Tryd.prog os Rows.shapeNamesRow.laid) #[] 8 (World.laidAll_os _ _ _)
      (World.shaped_of_ZipB (by kernel_rfl) (by kernel_rfl)) (by kernel_rfl) (by kernel_rfl) (by kernel_rfl)
      (by rw [MakeChecks.laidMetH_plain _ _ _ (by kernel_rfl)]; exact laidMet_laidAll _ (by kernel_rfl) (by kernel_rfl))) ?_
  · intro t ht
    rw [Tryd.params3] at ht
    simp at ht
  · intro ds vs W p h
    rw [Tryd.params3] at h
    obtain ⟨_, rfl, _⟩ := trodAll_nil h
    rfl
  · intro W base args ds p hlaid hval hA hz
    rw [Tryd.params3] at hA hval
    obtain ⟨HV, _, _⟩ := trodAll_nil hA
    obtain rfl : args = #[] := by cases args; simp_all
    have tw := tabW_of9 hlaid (by kernel_rfl) (MakeChecks.laidMetH_plain _ _ _ (by kernel_rfl))
    have mw := mayP9_of (notW_of9 hlaid (by kernel_rfl) (MakeChecks.laidMetH_plain _ _ _ (by kernel_rfl)))
    exact (shapenames_walk W tw mw).mono fun _ _ h => kept_below h

theorem names9_of : Rows.ShapeNamesSaid :=
  OpenClaim.holds_of_wide 3 Tryd.f3 rfl rfl rfl rfl rfl rfl rfl ⟨rfl, rfl, rfl, rfl, rfl⟩ rfl rfl rfl rfl rfl (by kernel_rfl) Tryd.func3 (by kernel_rfl)
    (of_decide_eq_true (by kernel_rfl)) (by unfold Func.isWrapper; first | (rw [if_pos (by decide +kernel)]; kernel_rfl) | (rw [if_neg (by decide +kernel)]; exact ⟨rfl, rfl⟩))
    (fun os started H enc _ => names9_lifted os started H enc)
theorem names9_card : Rows.ShapeNamesCardSaid :=
  Claim7.holds_tied_plain_at .later [] [.data, .data] true (true, "58ef0ebf58130c79f00fc7c4c076738e10842adc308e1aebd8ad3284d4ee3025") false
    names9_of (fun _ h => by cases h) (by kernel_rfl) (fun _ h => by cases h) shapeNames_row_tie rfl ⟨rfl, rfl⟩ (by kernel_rfl) rfl
    (fun f fn hf hfn => by
      obtain rfl : f = 3 := Option.some.inj ((show Tryd.prog.funcNamed "chandlery/chandlerylaw09.ShapeNames" = some 3 by kernel_rfl).symm.trans hf) |>.symm
      obtain rfl : fn = Tryd.f3 := (Option.some.inj (Tryd.func3.symm.trans hfn)).symm
      exact ⟨by kernel_rfl, fun j t ht => by
        rw [Tryd.params3] at ht
        simp at ht⟩)
    (by kernel_rfl)
end Go.Proofs.YtndakcognjaeoaaDoor
