/-
  The statement of layer 5 on 'tells' (ArchTells), proved of the program at this commit: for every input the law's function answers true, and leaves its arguments as they were. Conditions: the given row's own.
-/
import Derived.Test.YtfhihkgaokhjbaaDoorLaws05
import Derived.Test.YtfhihkgaokhjbaaDoorOpenNum
import Derived.Test.YtfhihkgaokhjbaaDoorLawRow3
import Derived.Test.YtfhihkgaokhjbaaDoorLaw5
import Derived.Test.YtfhihkgaokhjbaaDoorCards
import Derived.Test.YtfhihkgaokhjbaaDoorTie
import Derived.SevenTiedAt
namespace Go.Proofs.YtfhihkgaokhjbaaDoor
open Go.ChangeShapes Go.WideShapes Go.ChangeAt Go.RowKit

set_option maxRecDepth 100000 in
theorem tells5_lifted (os : Os) (started : os.Started) (H : Type) (enc : TypeId × Value → H) :
    ReturnsInHanded {} Tryd.checked os 4 .any (fun w args => (Rows.archTellsSpec.pre enc Tryd.prog Tryd.f4 [] false w args ∧ laidMetH Tryd.prog Rows.archTellsRow.laid w) ∧ sizedMet enc Tryd.prog Tryd.f4 (OpenSpec.ofChange Rows.archTellsSpec) false w args)
      (Rows.archTellsSpec.post enc Tryd.prog Tryd.f4 false true false false) := by
  refine law_lift_all Rows.archTellsRow.laid os started _ Tryd.f4 Rows.archTellsSpec (by kernel_rfl) Tryd.func4 rfl ?_ rfl ?_
    (ChangeSpec.witness_shaped (enc := enc) (C := Tryd.checked) (os := os) (X := fun w _ => laidMetH Tryd.prog Rows.archTellsRow.laid w) false (World.laidAll Tryd.prog os Rows.archTellsRow.laid) #[.int .u8 0, .int .u8 0, .string ⟨#[]⟩] 8 (World.laidAll_os _ _ _)
      (World.shaped_of_ZipB (by kernel_rfl) (by kernel_rfl)) (by kernel_rfl) (by kernel_rfl) (by kernel_rfl)
      (by rw [MakeChecks.laidMetH_plain _ _ _ (by kernel_rfl)]; exact laidMet_laidAll _ (by kernel_rfl) (by kernel_rfl))) ?_
  · intro t ht
    rw [Tryd.params4] at ht
    have ht' : t = 5 ∨ t = 5 ∨ t = 9 := by simpa using ht
    rcases ht' with rfl | rfl | rfl
    all_goals exact ⟨by kernel_rfl, of_decide_eq_true (by kernel_rfl)⟩
  · intro ds vs W p h
    rw [Tryd.params4] at h
    obtain ⟨v0, vs0, d0, ds0, p0, q0, HV, rfl, rfl, h0, r0⟩ := trodAll_cons h
    obtain ⟨v1, vs1, d1, ds1, p1, q1, rfl, rfl, rfl, h1, r1⟩ := trodAll_cons r0
    obtain ⟨v2, vs2, d2, ds2, p2, q2, rfl, rfl, rfl, h2, r2⟩ := trodAll_cons r1
    obtain ⟨rfl, rfl, rfl⟩ := trodAll_nil r2
    rfl
  · intro W base args ds p hlaid hval hA hz
    rw [Tryd.params4] at hA hval
    obtain ⟨v0, vs0, d0, ds0, p0, q0, HV, rfl, rfl, h0, r0⟩ := trodAll_cons hA
    obtain ⟨v1, vs1, d1, ds1, p1, q1, rfl, rfl, rfl, h1, r1⟩ := trodAll_cons r0
    obtain ⟨v2, vs2, d2, ds2, p2, q2, rfl, rfl, rfl, h2, r2⟩ := trodAll_cons r1
    obtain ⟨rfl, rfl, rfl⟩ := trodAll_nil r2
    obtain rfl : args = #[v0, v1, v2] := by cases args; simp_all
    obtain ⟨o0, rfl, b0⟩ := op_open h0 (hval 0 _ _ rfl rfl)
    obtain ⟨o1, rfl, b1⟩ := op_open h1 (hval 1 _ _ rfl rfl)
    obtain ⟨s2, rfl⟩ := okWide_string Tryd.underlying9 (hval 2 _ _ rfl rfl)
    exact (tells5_walk W ⟨(namesW_of hlaid (by kernel_rfl) (MakeChecks.laidMetH_plain _ _ _ (by kernel_rfl))), (scoresW_of hlaid (by kernel_rfl) (MakeChecks.laidMetH_plain _ _ _ (by kernel_rfl)))⟩ o0 o1 b0 b1 s2).mono fun _ _ h => ⟨h.1, by rw [h.2]; exact Below.refl _ _⟩

theorem tells5_of : Rows.ArchTellsSaid :=
  OpenClaim.holds_of_wide 4 Tryd.f4 rfl rfl rfl rfl rfl rfl rfl ⟨rfl, rfl, rfl, rfl, rfl⟩ rfl rfl rfl rfl rfl (by kernel_rfl) Tryd.func4 (by kernel_rfl)
    (of_decide_eq_true (by kernel_rfl)) (by unfold Func.isWrapper; first | (rw [if_pos (by decide +kernel)]; kernel_rfl) | (rw [if_neg (by decide +kernel)]; exact ⟨rfl, rfl⟩))
    (fun os started H enc _ => tells5_lifted os started H enc)
theorem tells5_card : Rows.ArchTellsCardSaid :=
  Claim7.holds_tied_plain_at .later [] [.data, .data] true (true, "53fc68434aebd03ce37b5565ff8296ffc011d7f10d9f7277d8b4113044f27aaf") false
    tells5_of (fun _ h => by cases h) (by kernel_rfl) (fun _ h => by cases h) archTells_row_tie rfl ⟨rfl, rfl⟩ (by kernel_rfl) rfl
    (fun f fn hf hfn => by
      obtain rfl : f = 4 := Option.some.inj ((show Tryd.prog.funcNamed "chandlery/chandlerylaw05.ArchTells" = some 4 by kernel_rfl).symm.trans hf) |>.symm
      obtain rfl : fn = Tryd.f4 := (Option.some.inj (Tryd.func4.symm.trans hfn)).symm
      exact ⟨by kernel_rfl, fun j t ht => by
        rw [Tryd.params4] at ht
        have hm : t ∈ [5, 9] := by simpa using Array.mem_of_getElem? ht
        have hall : ([5, 9].all fun u => !Tryd.prog.wantsStandIn u) = true := by kernel_rfl
        exact (show Tryd.prog.wantsStandIn t = false by simpa using List.all_eq_true.1 hall t hm)⟩)
    (by kernel_rfl)
end Go.Proofs.YtfhihkgaokhjbaaDoor
