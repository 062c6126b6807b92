/-
  The statement of layer 8 on 'names' (RichNames), proved of the program at this commit: for every input the law's function answers true, and leaves its arguments as they were. Conditions: the given row's own.
-/
import Derived.Test.YtoebokgpdkklmaaGreatDoorK11
import Derived.Test.YtoebokgpdkklmaaGreatDoorK09
import Derived.Test.YtoebokgpdkklmaaGreatDoorK12
import Derived.Test.YtoebokgpdkklmaaGreatDoorK28
import Derived.Test.YtoebokgpdkklmaaGreatDoorCards
import Derived.Test.YtoebokgpdkklmaaGreatDoorTie
import Derived.SevenTiedAt
namespace Go.Proofs.YtoebokgpdkklmaaGreatDoor
open Go.ChangeShapes Go.WideShapes Go.ChangeAt Go.RowKit Rich

set_option maxRecDepth 100000 in
theorem names8_lifted (os : Os) (started : os.Started) (H : Type) (enc : TypeId × Value → H) :
    ReturnsInHanded {} Tryz.checked os 4 .any (fun w args => (Rows.richNamesSpec.pre enc Tryz.prog Tryz.f4 [] false w args ∧ laidMetH Tryz.prog Rows.richNamesRow.laid w) ∧ sizedMet enc Tryz.prog Tryz.f4 (OpenSpec.ofChange Rows.richNamesSpec) false w args)
      (Rows.richNamesSpec.post enc Tryz.prog Tryz.f4 false true false false) := by
  refine law_lift_all Rows.richNamesRow.laid os started _ Tryz.f4 Rows.richNamesSpec (by kernel_rfl) Tryz.func4 rfl ?_ rfl ?_
    (ChangeSpec.witness_shaped (enc := enc) (C := Tryz.checked) (os := os) (X := fun w _ => laidMetH Tryz.prog Rows.richNamesRow.laid w) false (World.laidAll Tryz.prog os Rows.richNamesRow.laid) #[] 8 (World.laidAll_os _ _ _)
      (World.shaped_of_ZipB (by kernel_rfl) (by kernel_rfl)) (by kernel_rfl) (by kernel_rfl) (by kernel_rfl)
      (by rw [MakeChecks.laidMetH_plain _ _ _ (by kernel_rfl)]; exact laidMet_laidAll _ (by kernel_rfl) (by kernel_rfl))) ?_
  · intro t ht
    rw [Tryz.params4] at ht
    simp at ht
  · intro ds vs W p h
    rw [Tryz.params4] at h
    obtain ⟨_, rfl, _⟩ := trodAll_nil h
    rfl
  · intro W base args ds p hlaid hval hA hz
    rw [Tryz.params4] at hA hval
    obtain ⟨HV, _, _⟩ := trodAll_nil hA
    obtain rfl : args = #[] := by cases args; simp_all
    have rw : RichW W := ⟨libW_of6 hlaid (MakeChecks.laidMetH_plain _ _ _ (by kernel_rfl)) (by kernel_rfl) (by kernel_rfl) (by kernel_rfl), notW_of hlaid (by kernel_rfl) (MakeChecks.laidMetH_plain _ _ _ (by kernel_rfl)), rowsW_of hlaid (by kernel_rfl) (MakeChecks.laidMetH_plain _ _ _ (by kernel_rfl))⟩
    exact (richnames_walk W (parseK_of rw) (showK8_of rw) (wordsK8_of rw) (wholeK8_of rw)).mono fun _ _ h => kept_below h

theorem names8_of : Rows.RichNamesSaid :=
  OpenClaim.holds_of_wide 4 Tryz.f4 rfl rfl rfl rfl rfl rfl rfl ⟨rfl, rfl, rfl, rfl, rfl⟩ rfl rfl rfl rfl rfl (by kernel_rfl) Tryz.func4 (by kernel_rfl)
    (of_decide_eq_true (by kernel_rfl)) (by unfold Func.isWrapper; first | (rw [if_pos (by decide +kernel)]; kernel_rfl) | (rw [if_neg (by decide +kernel)]; exact ⟨rfl, rfl⟩))
    (fun os started H enc _ => names8_lifted os started H enc)
theorem names8_card : Rows.RichNamesCardSaid :=
  Claim7.holds_tied_plain_at .later [] [.data, .data, .data, .sentinel, .sentinel, .data, .data] true (true, "4a3d45a43b429f81239185a4097bc38414018f68b7e2deab8f8d3f976d30f2a8") true
    names8_of (fun _ h => by cases h) (by kernel_rfl) (fun _ h => by cases h) richNames_row_tie rfl ⟨rfl, rfl⟩ (by kernel_rfl) rfl
    (fun f fn hf hfn => by
      obtain rfl : f = 4 := Option.some.inj ((show Tryz.prog.funcNamed "chandlery/chandlerylaw08.RichNames" = some 4 by kernel_rfl).symm.trans hf) |>.symm
      obtain rfl : fn = Tryz.f4 := (Option.some.inj (Tryz.func4.symm.trans hfn)).symm
      exact ⟨by kernel_rfl, fun j t ht => by
        rw [Tryz.params4] at ht
        simp at ht⟩)
    (by kernel_rfl)
end Go.Proofs.YtoebokgpdkklmaaGreatDoor
