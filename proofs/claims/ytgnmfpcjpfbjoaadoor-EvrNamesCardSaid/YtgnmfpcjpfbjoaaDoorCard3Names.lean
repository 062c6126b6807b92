/-
  The statement of layer 3 on 'names' (EvrNames), proved of the program at this commit: for every input the law's function answers true, and leaves its arguments as they were. Conditions: the given row's own.
-/
import Derived.Test.YtgnmfpcjpfbjoaaDoorNames03
import Derived.Test.YtgnmfpcjpfbjoaaDoorOpen03
import Derived.Test.YtgnmfpcjpfbjoaaDoorLaw3
import Derived.Test.YtgnmfpcjpfbjoaaDoorCards
import Derived.Test.YtgnmfpcjpfbjoaaDoorTie
import Derived.SevenTiedAt
import Derived.Test.YtgnmfpcjpfbjoaaDoorEvr3b
import Derived.Test.YtgnmfpcjpfbjoaaDoorEvr3e
namespace Go.Proofs.YtgnmfpcjpfbjoaaDoor
open Go.ChangeShapes Go.WideShapes Go.ChangeAt Go.RowKit

set_option maxRecDepth 100000 in
theorem names3_lifted (os : Os) (started : os.Started) (H : Type) (enc : TypeId × Value → H) :
    ReturnsInHanded {} Tryd.checked os 3 .any (fun w args => (Rows.evrNamesSpec.pre enc Tryd.prog Tryd.f3 [] false w args ∧ laidMetH Tryd.prog Rows.evrNamesRow.laid w) ∧ sizedMet enc Tryd.prog Tryd.f3 (OpenSpec.ofChange Rows.evrNamesSpec) false w args)
      (Rows.evrNamesSpec.post enc Tryd.prog Tryd.f3 false true false false) := by
  refine law_lift_lib Rows.evrNamesRow.laid os started _ Tryd.f3 Rows.evrNamesSpec (by kernel_rfl) Tryd.func3 rfl ?_ rfl ?_
    (ChangeSpec.witness_shaped (enc := enc) (C := Tryd.checked) (os := os) (X := fun w _ => laidMetH Tryd.prog Rows.evrNamesRow.laid w) false (World.laidAll Tryd.prog os Rows.evrNamesRow.laid) #[] 8 (World.laidAll_os _ _ _)
      (World.shaped_of_ZipB (by kernel_rfl) (by kernel_rfl)) (by kernel_rfl) (by kernel_rfl) (by kernel_rfl)
      (by rw [MakeChecks.laidMetH_plain _ _ _ (by kernel_rfl)]; exact laidMet_laidAll _ (by kernel_rfl) (by kernel_rfl))) ?_
  · intro t ht
    rw [Tryd.params3] at ht
    simp at ht
  · intro ds vs W p h
    rw [Tryd.params3] at h
    obtain ⟨_, rfl, _⟩ := trodAll_nil h
    rfl
  · intro W base args ds p hlaid hval hA
    have hL : LibW W := libW_of hlaid
    rw [Tryd.params3] at hA hval
    obtain ⟨HV, _, _⟩ := trodAll_nil hA
    obtain rfl : args = #[] := by cases args; simp_all
    exact (names3_walk W (fun n v r dep w _ _ => mayK_walk n v r dep w) (showK_walk hL) (parseK_walk hL) compareK_walk (fun W hw => works_walk (parseK_walk hL) compareK_walk W hw)).mono fun _ _ h => kept_below h

theorem names3_of : Rows.EvrNamesSaid :=
  OpenClaim.holds_of_wide 3 Tryd.f3 rfl rfl rfl rfl rfl rfl rfl ⟨rfl, rfl, rfl, rfl, rfl⟩ rfl rfl rfl rfl rfl (by kernel_rfl) Tryd.func3 (by kernel_rfl)
    (of_decide_eq_true (by kernel_rfl)) (by unfold Func.isWrapper; first | (rw [if_pos (by decide +kernel)]; kernel_rfl) | (rw [if_neg (by decide +kernel)]; exact ⟨rfl, rfl⟩))
    (fun os started H enc _ => names3_lifted os started H enc)
theorem names3_card : Rows.EvrNamesCardSaid :=
  Claim7.holds_tied_plain_at .later [] [.data, .data, .data, .data, .sentinel, .sentinel, .pinned] true (true, "a5aa42f38644f3b542941f967df46a5225c5b372c6a7ace86ca27bcdebece67c") true
    names3_of (fun _ h => by cases h) (by kernel_rfl) (fun _ h => by cases h) evrNames_row_tie rfl ⟨rfl, rfl⟩ (by kernel_rfl) rfl
    (fun f fn hf hfn => by
      obtain rfl : f = 3 := Option.some.inj ((show Tryd.prog.funcNamed "chandlery/chandlerylaw03.EvrNames" = some 3 by kernel_rfl).symm.trans hf) |>.symm
      obtain rfl : fn = Tryd.f3 := (Option.some.inj (Tryd.func3.symm.trans hfn)).symm
      exact ⟨by kernel_rfl, fun j t ht => by
        rw [Tryd.params3] at ht
        simp at ht⟩)
    (by kernel_rfl)
end Go.Proofs.YtgnmfpcjpfbjoaaDoor
