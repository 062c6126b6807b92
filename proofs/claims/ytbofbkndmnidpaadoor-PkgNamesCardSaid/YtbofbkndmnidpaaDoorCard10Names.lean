/-
  The statement of layer 10 on 'names' (PkgNames), proved of the program at this commit: for every input the law's function answers true, and leaves its arguments as they were. Conditions: the given row's own.
-/
import Derived.Test.YtbofbkndmnidpaaDoorK35
import Derived.Test.YtbofbkndmnidpaaDoorK29
import Derived.Test.YtbofbkndmnidpaaDoorK30
import Derived.Test.YtbofbkndmnidpaaDoorCards
import Derived.Test.YtbofbkndmnidpaaDoorTie
import Derived.SevenTiedAt
namespace Go.Proofs.YtbofbkndmnidpaaDoor
open Go.ChangeShapes Go.WideShapes Go.ChangeAt Go.RowKit Rich

set_option maxRecDepth 100000 in
theorem names10_lifted (os : Os) (started : os.Started) (H : Type) (enc : TypeId × Value → H) :
    ReturnsInHanded {} Tryd.checked os 3 .any (fun w args => (Rows.pkgNamesSpec.pre enc Tryd.prog Tryd.f3 [] false w args ∧ laidMetH Tryd.prog Rows.pkgNamesRow.laid w) ∧ sizedMet enc Tryd.prog Tryd.f3 (OpenSpec.ofChange Rows.pkgNamesSpec) false w args)
      (Rows.pkgNamesSpec.post enc Tryd.prog Tryd.f3 false true false false) := by
  refine law_lift_all Rows.pkgNamesRow.laid os started _ Tryd.f3 Rows.pkgNamesSpec (by kernel_rfl) Tryd.func3 rfl ?_ rfl ?_
    (ChangeSpec.witness_shaped (enc := enc) (C := Tryd.checked) (os := os) (X := fun w _ => laidMetH Tryd.prog Rows.pkgNamesRow.laid w) false (World.laidAll Tryd.prog os Rows.pkgNamesRow.laid) #[] 8 (World.laidAll_os _ _ _)
      (World.shaped_of_ZipB (by kernel_rfl) (by kernel_rfl)) (by kernel_rfl) (by kernel_rfl) (by kernel_rfl)
      (by rw [MakeChecks.laidMetH_plain _ _ _ (by kernel_rfl)]; exact laidMet_laidAll _ (by kernel_rfl) (by kernel_rfl))) ?_
  · intro t ht
    rw [Tryd.params3] at ht
    simp at ht
  · intro ds vs W p h
    rw [Tryd.params3] at h
    obtain ⟨_, rfl, _⟩ := trodAll_nil h
    rfl
  · intro W base args ds p hlaid hval hA hz
    rw [Tryd.params3] at hA hval
    obtain ⟨HV, _, _⟩ := trodAll_nil hA
    obtain rfl : args = #[] := by cases args; simp_all
    have pw := pkW_of (notW_of9 hlaid (by kernel_rfl) (MakeChecks.laidMetH_plain _ _ _ (by kernel_rfl))) (tabW_of9 hlaid (by kernel_rfl) (MakeChecks.laidMetH_plain _ _ _ (by kernel_rfl))) (namesW_of hlaid (by kernel_rfl) (MakeChecks.laidMetH_plain _ _ _ (by kernel_rfl)))
    exact (pkgnames_walk W pw).mono fun _ _ h => kept_below h

theorem names10_of : Rows.PkgNamesSaid :=
  OpenClaim.holds_of_wide 3 Tryd.f3 rfl rfl rfl rfl rfl rfl rfl ⟨rfl, rfl, rfl, rfl, rfl⟩ rfl rfl rfl rfl rfl (by kernel_rfl) Tryd.func3 (by kernel_rfl)
    (of_decide_eq_true (by kernel_rfl)) (by unfold Func.isWrapper; first | (rw [if_pos (by decide +kernel)]; kernel_rfl) | (rw [if_neg (by decide +kernel)]; exact ⟨rfl, rfl⟩))
    (fun os started H enc _ => names10_lifted os started H enc)
theorem names10_card : Rows.PkgNamesCardSaid :=
  Claim7.holds_tied_plain_at .later [] [.data, .data, .data, .data, .pinned] true (true, "b28125a5c8f2e240bfa98de13f923fda11560103f127197a5fd0dc7968608d88") false
    names10_of (fun _ h => by cases h) (by kernel_rfl) (fun _ h => by cases h) pkgNames_row_tie rfl ⟨rfl, rfl⟩ (by kernel_rfl) rfl
    (fun f fn hf hfn => by
      obtain rfl : f = 3 := Option.some.inj ((show Tryd.prog.funcNamed "chandlery/chandlerylaw10.PkgNames" = some 3 by kernel_rfl).symm.trans hf) |>.symm
      obtain rfl : fn = Tryd.f3 := (Option.some.inj (Tryd.func3.symm.trans hfn)).symm
      exact ⟨by kernel_rfl, fun j t ht => by
        rw [Tryd.params3] at ht
        simp at ht⟩)
    (by kernel_rfl)
end Go.Proofs.YtbofbkndmnidpaaDoor
